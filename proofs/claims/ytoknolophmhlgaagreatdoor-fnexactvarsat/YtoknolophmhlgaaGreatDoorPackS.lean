/-
  Texts of the proof, packed: ModsMark, StrKit, Strs, OwnStr, VarsAtWalk, Boxes, ModsOpen.
-/
import Derived.Test.YtoknolophmhlgaaGreatDoorPackR
import Derived.Test.YtoknolophmhlgaaGreatDoorPackQ
import Derived.Test.YtoknolophmhlgaaGreatDoorRows
import Derived.WalkKit
import Derived.ProofKit
import Derived.OpenShut
import Derived.WalkSpells
import Derived.Lib.ItoaNum
import Derived.Laws.IdiomStrings
import Derived.Deep.QuietTactic
import Derived.BigQuiet
import Derived.Deep.RegionWith
import Derived.Test.YtoknolophmhlgaaGreatDoorPackG
import Derived.Test.YtoknolophmhlgaaGreatDoorPackN
import Derived.Test.YtoknolophmhlgaaGreatDoorPackO
import Derived.Test.YtoknolophmhlgaaGreatDoorPackP
import Derived.Deep.RegionHeld3
import Derived.Test.YtoknolophmhlgaaGreatDoorPackA
/-
  The laws' markModuleS over rows of modules that own their memory.
-/
namespace Go.Proofs.YtoknolophmhlgaaGreatDoor
open Go.ChangeShapes Go.WideShapes Go.ChangeAt Go.RowKit
set_option linter.unusedVariables false

def cntMS (d : Nat) (m : Md) : Nat := 1 + cntM d m
def markMS (d : Nat) (k : Nat) (m : Md) : Md := ⟨mtext k, markL markR cntR (k + 1) m.exports, markL (markF d) (cntF d) (k + 1 + (m.exports.map cntR).sum) m.funs⟩
/-- What markModuleS answers and leaves. -/
def MarkMS (d : Nat) : Prop :=
  ∀ (w : World) (v : Value) (es : List Md) (fp : List Nat) (k : Nat), ORows w 53 3 (OMd w d) v es fp → fp.Nodup → 1 ≤ k → k + (es.map (cntMS d)).sum ≤ 1099511627776 →
    Calls Tryz.prog 12 #[v, .int .i64 k] w fun e w' => e = .returned (.int .i64 ((k + (es.map (cntMS d)).sum : Nat) : Int)) ∧ ORows w' 53 3 (OMd w' d) v (markL (markMS d) (cntMS d) k es) fp ∧ Off fp w w'

set_option maxHeartbeats 16000000 in
theorem MarkMS_of {d : Nat}  : MarkMS d := by
  intro w v es fp k h hnd hk1 hkb
  obtain ⟨p, cap, rfl, hcl, hcm⟩ := h.shape
  have hnb : es.length ≤ 9223372036854775807 := by unfold maxLen at hcm; omega
  have HL : Hid ((markL (markMS d) (cntMS d) k es).length = es.length) := markL_length _ _ _ _
  have HO : Hid (ORows w 53 3 (OMd w d) (.slice p es.length cap) es fp) := h
  have HND : Hid fp.Nodup := hnd
  have HKB : Hid (k + (es.map (cntMS d)).sum ≤ 1099511627776) := hkb
  generalize hn : es.length = n at *
  have HN : Hid (es.length = n) := hn
  clear h hnd hn hkb
  go_enter Tryz.func12, Tryz.ntmps12
  go_wp2
  go_loopw [1, 5] (fun kv iv wr => ∃ i kk : Nat, i ≤ n ∧ iv = .int .i64 i ∧ kv = .int .i64 kk ∧ Hid (kk = k + ((es.take i).map (cntMS d)).sum) ∧ Hid (ORows wr 53 3 (OMd wr d) (.slice p n cap) (mix i (markL (markMS d) (cntMS d) k es) es) fp) ∧ Hid (Off fp w wr)) (fun _ iv _ => n - (intOf iv).toNat)
  case atStart => exact ⟨0, k, Nat.zero_le _, rfl, rfl, (by show k = _; simp), (by show ORows _ _ _ _ _ _ _; rw [mix_zero]; exact HO.out), Off.refl _ _⟩
  case round =>
    obtain ⟨i, kk, hi, rfl, rfl, HK, HR, HF⟩ := hrel
    by_cases hlt : i < n
    · obtain ⟨x, hxi⟩ : ∃ x, es[i]? = some x := ⟨es[i]'(by rw [HN.out]; exact hlt), List.getElem?_eq_getElem _⟩
      have hml : (mix i (markL (markMS d) (cntMS d) k es) es).length = n := by rw [mix_length (by rw [HL.out, HN.out]), HN.out]
      have hmx : (mix i (markL (markMS d) (cntMS d) k es) es)[i]? = some x := by rw [mix_at (by rw [HL.out, HN.out]) (by rw [HN.out]; exact hlt)]; exact hxi
      have HMX : Hid ((mix i (markL (markMS d) (cntMS d) k es) es).length = n) := hml
      rcases HR.out with hnil | ⟨hne, cells, g, cap', fps, ho, hv, hl, hfp, hat⟩
      · rw [hnil.1] at hml; simp at hml; omega
      rw [hml] at ho hv hl
      obtain ⟨f, hf⟩ : ∃ f, fps[i]? = some f := ⟨fps[i]'(by rw [hl]; exact hlt), List.getElem?_eq_getElem _⟩
      obtain ⟨cs, hcs4, hcs, hx⟩ := hat i x f hmx hf
      cases hv
      have hlc : cells.length = n * 3 := ho.1
      have hnp := nodup_parts (hfp ▸ HND.out)
      have hsum : ((es.take (i + 1)).map (cntMS d)).sum = ((es.take i).map (cntMS d)).sum + cntMS d x := sum_take_succ _ es i x hxi
      have hle : ((es.take (i + 1)).map (cntMS d)).sum ≤ (es.map (cntMS d)).sum := sum_take_le _ es (i + 1)
      have hkk := HK.out
      have hkb := HKB.out
      have hg0 : g ∈ fp := by rw [hfp]; simp
      have hfs : ∀ a ∈ f, a ∈ fp := fun a ha => by rw [hfp]; exact List.mem_cons_of_mem _ (List.mem_flatten.2 ⟨f, List.mem_of_getElem? hf, ha⟩)
      have hgf : g ∉ f := (hnp.1 f (List.mem_of_getElem? hf)).1
      have hfn : f.Nodup := (hnp.1 f (List.mem_of_getElem? hf)).2
      have HMI : Hid ((markL (markMS d) (cntMS d) k es)[i]? = some ((markMS d) kk x)) := by
        show _ = _
        rw [markL_at _ _ _ _ _ _ hxi, ← HK.out]
      have HAT : Hid (∀ (j : Nat) y f', (mix i (markL (markMS d) (cntMS d) k es) es)[j]? = some y → fps[j]? = some f' → ∃ cs : List Value, cs.length = 3 ∧ (∀ q, q < 3 → cells[j * 3 + q]? = cs[q]?) ∧ OMd wr d cs y f') := hat
      have HNP : Hid (∀ (i j : Nat) f f', i ≠ j → fps[i]? = some f → fps[j]? = some f' → ∀ a ∈ f, a ∉ f') := hnp.2
      have HNG : Hid (∀ f ∈ fps, g ∉ f ∧ f.Nodup) := hnp.1
      have HFP : Hid (fp = g :: fps.flatten) := hfp
      have HNE : Hid (mix i (markL (markMS d) (cntMS d) k es) es ≠ []) := hne
      have HFS : Hid ((∀ a ∈ f, a ∈ fp) ∧ g ∈ fp ∧ g ∉ f ∧ f.Nodup) := ⟨hfs, hg0, hgf, hfn⟩
      have hki : (i : Int) < (n : Int) := by omega
      have hi0 : (0 : Int) ≤ (i : Int) := by omega
      clear hat hnp hfp hne hfs hg0 hgf hfn hml hmx HKB HO
      obtain ⟨ev, fv, f1, f2, rfl, hff, hms, hke, hcl⟩ := hx
      obtain ⟨pe, ce, hev, _⟩ := hke.shape
      subst hev
      obtain ⟨pf, cf, hfv, _⟩ := hcl.shape
      subst hfv
      have HFF : Hid (f = f1 ++ f2) := hff
      have HCS : Hid (∀ (j : Nat), j < 3 → cells[i * 3 + j]? = [Value.string x.name, .slice pe x.exports.length ce, .slice pf x.funs.length cf][j]?) := hcs
      have HOW : Hid (wr.ownsRow 0 53 3 (.slice (some ⟨g, 0, none⟩) n cap) n cells) := ho
      have HKE : Hid (ORows wr 88 2 (ORf wr d) (.slice pe x.exports.length ce) x.exports f1) := hke
      have HCL : Hid (ORows wr 68 3 (OFn wr d) (.slice pf x.funs.length cf) x.funs f2) := hcl
      have hcx : cntMS d x = 1 + ((x.exports.map cntR).sum + (x.funs.map (cntF d)).sum) := rfl
      have HSUM : Hid (k + ((es.take (i + 1)).map (cntMS d)).sum = kk + 1 + (x.exports.map cntR).sum + (x.funs.map (cntF d)).sum) := by show _ = _; omega
      have hk2a : kk + 1 + (x.exports.map cntR).sum ≤ 1099511627776 := by omega
      have HK2 : Hid (kk + 1 + (x.exports.map cntR).sum + (x.funs.map (cntF d)).sum ≤ 1099511627776) := by show _ ≤ _; omega
      have HN12 : Hid (f1.Nodup ∧ f2.Nodup ∧ ∀ a ∈ f1, ∀ b ∈ f2, a ≠ b) := by
        have := HFS.out.2.2.2
        rw [hff] at this
        exact List.nodup_append.1 this
      have lt1 : Hid (∀ a ∈ f1, a < wr.heap.size) := hke.lt (fun _ _ _ h => h.lt)
      have lt2 : Hid (∀ a ∈ f2, a < wr.heap.size) := hcl.lt (fun _ _ _ h => h.lt)
      have hn1 : Hid (g ∉ f1) := fun h => HFS.out.2.2.1 (by rw [hff]; simp [h])
      have hn2 : Hid (g ∉ f2) := fun h => HFS.out.2.2.1 (by rw [hff]; simp [h])
      have hkk2 : kk + 1 ≤ 1099511627776 := by omega
      have hgl : g < wr.heap.size := owns_lt ho rfl
      have hk11 : 1 ≤ kk := by omega
      clear ho hcs hcs4 hsum hle hkk hkb hcx hke hcl hff
      go_wp2_with fail
      refine (markText_at kk _ rfl (by omega) (by omega)).mono ?_
      rintro e w1 ⟨rfl, hb⟩
      have o1 := HOW.out.kept (grownBy_belowR (r := none) hb) (Or.inr (by simp [Value.ownBlock]))
      have e0 : w1.cell? ⟨g, i * 3, none⟩ = some (.string x.name) := by
        rw [o1.cellAt (i * 3) (by omega)]; exact HCS.out 0 (by omega)
      have z0 := o1.frozenAt (i * 3)
      have s1 := o1.stored (i * 3) (.string (mtext kk))
      have e1 : (w1.setCell ⟨g, i * 3, none⟩ (.string (mtext kk))).cell? ⟨g, i * 3 + 1, none⟩ = some (.slice pe x.exports.length ce) := by
        rw [s1.1.cellAt (i * 3 + 1) (by omega), List.getElem?_set_ne (by omega)]; exact HCS.out 1 (by omega)
      have hoff : Off [g] wr (w1.setCell ⟨g, i * 3, none⟩ (.string (mtext kk))) := (Off.of_below hb).trans (Off.of_grown s1.2 (by simp))
      have HOFF : Hid (Off [g] wr (w1.setCell ⟨g, i * 3, none⟩ (.string (mtext kk)))) := hoff
      have HS1 : Hid ((w1.setCell ⟨g, i * 3, none⟩ (.string (mtext kk))).ownsRow 0 53 3 (.slice (some ⟨g, 0, none⟩) n cap) n (cells.set (i * 3) (.string (mtext kk)))) := s1.1
      have hkeep : ∀ f', g ∉ f' → (∀ a ∈ f', a < wr.heap.size) → KeepOn f' wr (w1.setCell ⟨g, i * 3, none⟩ (.string (mtext kk))) := fun f' h1 h2 => hoff.keep (fun a ha => ⟨h2 a ha, fun hm => h1 (by rw [List.mem_singleton] at hm; exact hm ▸ ha)⟩)
      have hk1 := hkeep f1 hn1.out lt1.out
      have hk2 := hkeep f2 hn2.out lt2.out
      have HKE2 : Hid (ORows (w1.setCell ⟨g, i * 3, none⟩ (.string (mtext kk))) 88 2 (ORf (w1.setCell ⟨g, i * 3, none⟩ (.string (mtext kk))) d) (.slice pe x.exports.length ce) x.exports f1) := HKE.out.keep hk1 (fun cs x f' _ hs h => h)
      have HCL2 : Hid (ORows (w1.setCell ⟨g, i * 3, none⟩ (.string (mtext kk))) 68 3 (OFn (w1.setCell ⟨g, i * 3, none⟩ (.string (mtext kk))) d) (.slice pf x.funs.length cf) x.funs f2) := HCL.out.keep hk2 (fun cs x f' _ hs h => h.keep (hk2.sub hs))
      have HKP : Hid (∀ f', g ∉ f' → (∀ a ∈ f', a < wr.heap.size) → KeepOn f' wr (w1.setCell ⟨g, i * 3, none⟩ (.string (mtext kk)))) := hkeep
      clear s1 o1 hoff hb hk1 hk2 hkeep
      go_wp2_with fail
      clear e0 z0 e1
      refine ((markRS_all d).at x.exports f1 (kk + 1) _ (by omega) HKE2.out HN12.out.1 (by omega) hk2a).mono ?_
      rintro e w3 ⟨rfl, r3, off3⟩
      have ho3 : w3.ownsRow 0 53 3 (.slice (some ⟨g, 0, none⟩) n cap) n (cells.set (i * 3) (.string (mtext kk))) := owns_block HS1.out rfl (off3.block g (owns_lt HS1.out rfl) hn1.out)
      have HO3 : Hid (w3.ownsRow 0 53 3 (.slice (some ⟨g, 0, none⟩) n cap) n (cells.set (i * 3) (.string (mtext kk)))) := ho3
      have e2 : w3.cell? ⟨g, i * 3 + 2, none⟩ = some (.slice pf x.funs.length cf) := by
        rw [ho3.cellAt (i * 3 + 2) (by omega), List.getElem?_set_ne (by omega)]; exact HCS.out 2 (by omega)
      have k32 : KeepOn f2 (w1.setCell ⟨g, i * 3, none⟩ (.string (mtext kk))) w3 := off3.keep (fun a ha => ⟨HCL2.out.lt (fun _ _ _ h => h.lt) a ha, fun hm => HN12.out.2.2 a hm a ha rfl⟩)
      have HCL3 : Hid (ORows w3 68 3 (OFn w3 d) (.slice pf x.funs.length cf) x.funs f2) := HCL2.out.keep k32 (fun cs x f' _ hs h => h.keep (k32.sub hs))
      have HR3 : Hid (ORows w3 88 2 (ORf w3 d) (.slice pe x.exports.length ce) (markL markR cntR (kk + 1) x.exports) f1) := r3
      have HF3 : Hid (Off f1 (w1.setCell ⟨g, i * 3, none⟩ (.string (mtext kk))) w3) := off3
      have HMM : Hid (markMS d kk x = ⟨mtext kk, markL markR cntR (kk + 1) x.exports, markL (markF d) (cntF d) (kk + 1 + (x.exports.map cntR).sum) x.funs⟩) := rfl
      generalize hk3 : kk + 1 + (x.exports.map cntR).sum = k3 at *
      have HK3 : Hid (kk + 1 + (x.exports.map cntR).sum = k3) := hk3
      have hk31 : 1 ≤ k3 := by omega
      clear r3 off3 k32 ho3 hk3
      go_wp2_with fail
      clear e2
      refine ((markFS_all d).at x.funs f2 k3 _ rfl HCL3.out HN12.out.2.1 hk31 HK2.out).mono ?_
      rintro e w4 ⟨rfl, r4, off4⟩
      have hown : w4.ownsRow 0 53 3 (.slice (some ⟨g, 0, none⟩) n cap) n (cells.set (i * 3) (.string (mtext kk))) := owns_block HO3.out rfl (off4.block g (owns_lt HO3.out rfl) hn2.out)
      have k41 : KeepOn f1 w3 w4 := off4.keep (fun a ha => ⟨HR3.out.lt (fun _ _ _ h => h.lt) a ha, fun hm => HN12.out.2.2 a ha a hm rfl⟩)
      have hset := ORows.set (R := OMd wr d) (R' := OMd w4 d) (x' := markMS d kk x) (i := i) (f := f) HNE.out (by rw [HMX.out]; exact hown) (by rw [HMX.out]) (by rw [HMX.out]; exact hl) HAT.out hf
        (fun m hm => by rw [List.getElem?_set_ne (by omega)])
        [.string (mtext kk), .slice pe x.exports.length ce, .slice pf x.funs.length cf] rfl
        (fun j hj => by
          match j, hj with
          | 0, _ => exact List.getElem?_set_self (by omega)
          | 1, _ => rw [List.getElem?_set_ne (by omega)]; exact HCS.out 1 (by omega)
          | 2, _ => rw [List.getElem?_set_ne (by omega)]; exact HCS.out 2 (by omega))
        (by
          rw [HMM.out]
          exact ⟨_, _, f1, f2, rfl, HFF.out, mtext_ok (by omega), HR3.out.keep k41 (fun cs x f' _ hs h => h), r4⟩)
        (fun j y f' cs hj hf' h => h.keep (fun a ha => by
          have h1 := (HNG.out f' (List.mem_of_getElem? hf')).1
          have h2 := h.lt a ha
          have h3 := HNP.out j i f' _ hj hf' hf a ha
          have h31 : a ∉ f1 := fun hm => h3 (by rw [HFF.out]; simp [hm])
          have h32 : a ∉ f2 := fun hm => h3 (by rw [HFF.out]; simp [hm])
          have h5 := Nat.lt_of_lt_of_le h2 HOFF.out.size
          exact (off4.block a (Nat.lt_of_lt_of_le h5 HF3.out.size) h32).trans ((HF3.out.block a h5 h31).trans (HKP.out f' h1 h.lt a ha))))
      rw [mix_succ (by rw [HL.out, HN.out]) HMI.out, ← HFP.out] at hset
      have HSET : Hid (ORows w4 53 3 (OMd w4 d) (.slice (some ⟨g, 0, none⟩) n cap) (mix (i + 1) (markL (markMS d) (cntMS d) k es) es) fp) := hset
      have HF2 : Hid (Off fp w w4) := HF.out.trans ((HOFF.out.sub (fun a ha => by rw [List.mem_singleton] at ha; exact ha ▸ HFS.out.2.1)).trans ((HF3.out.sub (fun a ha => HFS.out.1 a (by rw [HFF.out]; simp [ha]))).trans (off4.sub (fun a ha => HFS.out.1 a (by rw [HFF.out]; simp [ha])))))
      clear hset hown r4 off4 k41
      go_wp2_with fail
      exact ⟨⟨i + 1, k3 + (x.funs.map (cntF d)).sum, by omega, by go_num, rfl, HSUM.out.symm, HSET, HF2⟩, by simp [intOf]; omega⟩
    · obtain rfl : i = n := by omega
      have HE : Hid (kk = k + (es.map (cntMS d)).sum) := by
        have := HK.out
        rw [List.take_of_length_le (by rw [HN.out]; exact Nat.le_refl _)] at this
        exact this
      have HR2 : Hid (ORows wr 53 3 (OMd wr d) (.slice p i cap) (markL (markMS d) (cntMS d) k es) fp) := by
        have := HR.out
        rw [mix_all (by rw [HL.out, HN.out]) (by rw [HN.out]; exact Nat.le_refl _)] at this
        exact this
      clear HR HO
      go_wp2_with fail
      go_ret
      exact ⟨by rw [HE.out]; rfl, HR2.out, HF.out⟩

theorem markMS_all (d : Nat) : MarkMS d := MarkMS_of
theorem cntMS_le (d : Nat) : ∀ (l : List Md), (l.map (cntMS d)).sum ≤ 5 * wtS (wtMd d) l
  | [] => by simp
  | m :: l => by
    have h1 := cntMS_le d l
    have h2 := cntM_le d m
    unfold wtS at *
    simp only [List.map_cons, List.sum_cons, List.length_cons]
    unfold cntMS at *
    omega
end Go.Proofs.YtoknolophmhlgaaGreatDoor
/-
  Lists of texts in memory: what lies where.
-/
namespace Go.Proofs.YtoknolophmhlgaaGreatDoor
open Go.ChangeShapes Go.WideShapes Go.ChangeAt Go.RowKit
set_option linter.unusedVariables false

/-- A slice value of a list of texts. -/
def StrsAt (w : World) (v : Value) (xs : List ByteArray) : Prop :=
  (v = .slice none 0 0 ∧ xs = []) ∨ ∃ b cap, v = .slice (some ⟨b, 0, none⟩) xs.length cap ∧ xs.length ≤ cap ∧ ∀ i, i < xs.length → w.cell? ⟨b, i, none⟩ = some (.string (xs.getD i ByteArray.empty))

theorem grownBy_trans {a b c : World} {r : Option Nat} (h : a.grownBy b r) (k : b.grownBy c r) : a.grownBy c r :=
  ⟨k.os.trans h.os, k.tape.trans h.tape, k.output.trans h.output, Nat.le_trans h.size k.size, fun j hj hr => (k.block j (Nat.lt_of_lt_of_le hj h.size) hr).trans (h.block j hj hr)⟩
theorem grownBy_below {a b : World} {r : Option Nat} (h : Below a.heap.size a b) : a.grownBy b r := ⟨h.os, h.tape, h.output, h.size, fun j hj _ => h.block j hj⟩
theorem below_grownBy {a b : World} {B g : Nat} (h : a.grownBy b (some g)) (hB : B ≤ g) (hs : B ≤ a.heap.size) : Below B a b :=
  ⟨h.os, h.tape, h.output, h.size, fun j hj => h.block j (by omega) (by simp; omega)⟩
end Go.Proofs.YtoknolophmhlgaaGreatDoor
/-
  What the laws' own eqStringS, markStringS and heldStringS do with lists of texts that lie in memory.
-/
namespace Go.Proofs.YtoknolophmhlgaaGreatDoor
open Go.ChangeShapes Go.WideShapes Go.ChangeAt Go.RowKit
set_option linter.unusedVariables false

theorem eqStringS_some (b1 b2 c1 c2 : Nat) (xs : List ByteArray) (w : World) (hl : xs.length ≤ 4194304) (hc1 : xs.length ≤ c1) (hc2 : xs.length ≤ c2)
    (h1 : ∀ i, i < xs.length → w.cell? ⟨b1, i, none⟩ = some (.string (xs.getD i ByteArray.empty))) (h2 : ∀ i, i < xs.length → w.cell? ⟨b2, i, none⟩ = some (.string (xs.getD i ByteArray.empty))) :
    Calls Tryz.prog 10 #[.slice (some ⟨b1, 0, none⟩) xs.length c1, .slice (some ⟨b2, 0, none⟩) xs.length c2] w fun e w' => e = .returned (.bool true) ∧ ∃ k, w' = w.drewN k := by
  have H1 : Hid (∀ i, i < xs.length → w.cell? ⟨b1, i, none⟩ = some (.string (xs.getD i ByteArray.empty))) := h1
  have H2 : Hid (∀ i, i < xs.length → w.cell? ⟨b2, i, none⟩ = some (.string (xs.getD i ByteArray.empty))) := h2
  clear h1 h2
  go_enter Tryz.func10, Tryz.ntmps10
  go_wp2
  go_loopw [5] (fun i wr => ∃ k m : Nat, k ≤ xs.length ∧ i = .int .i64 k ∧ wr = w.drewN m) (fun i _ => xs.length - (intOf i).toNat)
  case atStart => exact ⟨0, 0, Nat.zero_le _, rfl, rfl⟩
  case round =>
    obtain ⟨k, m, hk, rfl, rfl⟩ := hrel
    by_cases hlt : k < xs.length
    · have e1 := H1.out k hlt
      have e2 := H2.out k hlt
      generalize xs.getD k ByteArray.empty = x at e1 e2
      go_wp2
      go_quiet (fail)
      go_wp2
      exact ⟨⟨k + 1, m + nq, by omega, by go_num, rfl⟩, by simp [intOf]; omega⟩
    · go_wp2
      go_ret
      exact ⟨rfl, m, rfl⟩

/-- The marks k, k + 1 .. of n places. -/
def markS (k : Nat) : Value := .string ⟨(109 :: Lib.decDigits k).toArray⟩
def marks (k n : Nat) : List Value := (List.range n).map fun i => markS (k + i)
theorem marks_length (k n : Nat) : (marks k n).length = n := by simp [marks]
theorem marks_get (k n i : Nat) (h : i < n) : (marks k n)[i]? = some (markS (k + i)) := by simp [marks, h]
theorem marks_set (k i : Nat) (xs : List Value) (h : i < xs.length) : (marks k i ++ xs.drop i).set i (markS (k + i)) = marks k (i + 1) ++ xs.drop (i + 1) := by
  have h1 : (marks k i).length = i := marks_length k i
  rw [List.set_append_right _ _ (by omega), h1, Nat.sub_self, List.drop_eq_getElem_cons h, List.set_cons_zero]
  simp [marks, List.range_succ]

set_option maxHeartbeats 1000000 in
theorem markStringS_own (B g n cap k0 : Nat) (xs : List Value) (w : World) (hn : n ≤ 4194304) (hk : 1 ≤ k0) (hk' : k0 ≤ 4194304) (h : w.ownsRow B 9 1 (.slice (some ⟨g, 0, none⟩) n cap) n xs) :
    Calls Tryz.prog 13 #[.slice (some ⟨g, 0, none⟩) n cap, .int .i64 k0] w fun e w' => e = .returned (.int .i64 ((k0 + n : Nat) : Int)) ∧ w'.ownsRow B 9 1 (.slice (some ⟨g, 0, none⟩) n cap) n (marks k0 n) ∧ w.grownBy w' (some g) := by
  have hx : xs.length = n := by have := h.1; omega
  have hcap : n ≤ cap := by
    rcases h.2 with ⟨hv, _⟩ | ⟨g', cap', cur, hv, _, _, hc, _⟩
    · cases hv
    · cases hv; exact hc
  have H : Hid (w.ownsRow B 9 1 (.slice (some ⟨g, 0, none⟩) n cap) n xs) := h
  clear h
  go_enter Tryz.func13, Tryz.ntmps13
  go_wp2
  go_loopw [1, 5] (fun kv iv wr => ∃ i kk : Nat, i ≤ n ∧ iv = .int .i64 i ∧ kv = .int .i64 kk ∧ Hid (kk = k0 + i) ∧ wr.ownsRow B 9 1 (.slice (some ⟨g, 0, none⟩) n cap) n (marks k0 i ++ xs.drop i) ∧ w.grownBy wr (some g)) (fun _ iv _ => n - (intOf iv).toNat)
  case atStart => exact ⟨0, k0, Nat.zero_le _, rfl, rfl, rfl, by simpa [marks] using H.out, World.grownBy.refl _ _⟩
  case round =>
    obtain ⟨i, kk, hi, rfl, rfl, hkk, hown, hgr⟩ := hrel
    have hkb : 1 ≤ kk ∧ kk ≤ 8388608 := by have := hkk.out; omega
    have HO : Hid (wr.ownsRow B 9 1 (.slice (some ⟨g, 0, none⟩) n cap) n (marks k0 i ++ xs.drop i)) := hown
    have HG : Hid (w.grownBy wr (some g)) := hgr
    clear hown hgr
    by_cases hlt : i < n
    · go_wp2_with fail
      refine (markText_any kk _ (by omega) (by omega)).mono ?_
      rintro e w1 ⟨rfl, hb1⟩
      have hgl : g < wr.heap.size := (HO.out.lt g rfl).2
      have ho1 : w1.ownsRow B 9 1 (.slice (some ⟨g, 0, none⟩) n cap) n (marks k0 i ++ xs.drop i) :=
        HO.out.kept ⟨hb1.os, hb1.tape, hb1.output, hb1.size, fun j hj _ => hb1.block j hj⟩ (row := none) (Or.inr (by simp [Value.ownBlock]))
      have hfz := ho1.frozenAt i
      have hcl : ∃ u, w1.cell? ⟨g, i, none⟩ = some u := ⟨_, (ho1.cellAt i (by omega)).trans (List.getElem?_eq_getElem (by simp [marks_length]; omega))⟩
      obtain ⟨u, hcl⟩ := hcl
      have HO1 : Hid (w1.ownsRow B 9 1 (.slice (some ⟨g, 0, none⟩) n cap) n (marks k0 i ++ xs.drop i)) := ho1
      have HB1 : Hid (Below wr.heap.size wr w1) := hb1
      clear ho1 hb1
      have e1 : kk = k0 + i := hkk.out
      have st := HO1.out.stored i (markS (k0 + i))
      rw [marks_set k0 i xs (by omega), ← e1] at st
      have HST : Hid _ := st
      have HE : Hid (kk = k0 + i) := e1
      clear st e1
      go_wp2
      exact ⟨⟨i + 1, kk + 1, by omega, by go_num, by go_num, (by have := HE.out; show kk + 1 = k0 + (i + 1); omega), HST.out.1, grownBy_trans HG.out (grownBy_trans (grownBy_below HB1.out) HST.out.2)⟩, by simp [intOf]; omega⟩
    · have e2 : marks k0 i ++ xs.drop i = marks k0 n := by
        obtain rfl : i = n := by omega
        rw [List.drop_eq_nil_of_le (by omega), List.append_nil]
      have HO' := HO.out
      rw [e2] at HO'
      have HO2 : Hid _ := HO'
      have hkn : kk = k0 + n := by have := hkk.out; omega
      clear HO' e2
      have HK : Hid (kk = k0 + n) := hkn
      clear hkn
      go_wp2
      go_ret
      exact ⟨by rw [HK.out]; rfl, HO2.out, HG.out⟩

set_option maxHeartbeats 1000000 in
theorem heldStringS_own (g n cap k0 : Nat) (w : World) (hn : n ≤ 4194304) (hcap : n ≤ cap) (hk : 1 ≤ k0) (hk' : k0 ≤ 4194304) (h : ∀ i, i < n → w.cell? ⟨g, i, none⟩ = some (markS (k0 + i))) :
    Calls Tryz.prog 14 #[.slice (some ⟨g, 0, none⟩) n cap, .int .i64 k0] w fun e w' => e = .returned (.int .i64 ((k0 + n : Nat) : Int)) ∧ Below w.heap.size w w' := by
  have H : Hid (∀ i, i < n → w.cell? ⟨g, i, none⟩ = some (markS (k0 + i))) := h
  clear h
  go_enter Tryz.func14, Tryz.ntmps14
  go_wp2
  go_loopw [1, 5] (fun kv iv wr => ∃ i kk : Nat, i ≤ n ∧ iv = .int .i64 i ∧ kv = .int .i64 kk ∧ Hid (kk = k0 + i) ∧ Below w.heap.size w wr) (fun _ iv _ => n - (intOf iv).toNat)
  case atStart => exact ⟨0, k0, Nat.zero_le _, rfl, rfl, rfl, Below.refl _ _⟩
  case round =>
    obtain ⟨i, kk, hi, rfl, rfl, hkk, hb⟩ := hrel
    have hkb : 1 ≤ kk ∧ kk ≤ 8388608 := by have := hkk.out; omega
    have HB : Hid (Below w.heap.size w wr) := hb
    clear hb
    by_cases hlt : i < n
    · have e0 := H.out i hlt
      have hgl : g < w.heap.size := World.block_lt_of_cell? w ⟨g, i, none⟩ e0
      have e1 : wr.cell? ⟨g, i, none⟩ = some (.string ⟨(109 :: Lib.decDigits kk).toArray⟩) := by
        rw [HB.out.cell (p := ⟨g, i, none⟩) hgl, e0, hkk.out]; rfl
      have hgl' : g < wr.heap.size := Nat.lt_of_lt_of_le hgl HB.out.size
      clear e0
      go_wp2
      go_region_with ((go_at_call 24; refine (markText_any kk _ (by omega) (by omega)).mono ?_; rintro e w1 ⟨rfl, hb1⟩; have hb2 := hb1; have e2 := (hb1.cell (p := ⟨g, i, none⟩) (by simpa using hgl')).trans e1; have HB1 : Hid _ := hb1; clear hb1 hb2))
      all_goals go_wp2
      all_goals
        have hbe : Below w.heap.size w w1 := by
          refine Below.trans ?_ (HB1.out.mono (by exact HB.out.size))
          repeat (first | exact HB.out | apply Below.drew)
        exact ⟨⟨i + 1, kk + 1, by omega, by go_num, by go_num, (by have := hkk.out; show kk + 1 = k0 + (i + 1); omega), hbe⟩, by simp [intOf]; omega⟩
    · have hkn : kk = k0 + n := by have := hkk.out; omega
      have HK : Hid (kk = k0 + n) := hkn
      clear hkn
      go_wp2
      go_ret
      exact ⟨by rw [HK.out]; rfl, HB.out⟩
end Go.Proofs.YtoknolophmhlgaaGreatDoor
/-
  The laws' eqStringS, markStringS and heldStringS over rows of texts that own their memory, empty ones too.
-/
namespace Go.Proofs.YtoknolophmhlgaaGreatDoor
open Go.ChangeShapes Go.WideShapes Go.ChangeAt Go.RowKit
set_option linter.unusedVariables false
set_option maxRecDepth 100000

theorem OwnS.slice {w : World} {B : Nat} {v : Value} {l : List ByteArray} (h : OwnS w B v l) : ∃ a cap, v = .slice a l.length cap ∧ l.length ≤ cap := by
  rcases h.1.2 with ⟨hv, hn⟩ | ⟨g, cap, cur, hv, _, _, hc, _⟩
  · exact ⟨none, 0, by rw [hv, hn], by omega⟩
  · exact ⟨_, cap, hv, hc⟩
theorem OwnS.formS {w : World} {B : Nat} {v : Value} {l : List ByteArray} (h : OwnS w B v l) (hn : 0 < l.length) : ∃ g cap, v = .slice (some ⟨g, 0, none⟩) l.length cap ∧ l.length ≤ cap ∧ B ≤ g ∧ g < w.heap.size := by
  rcases h.1.2 with ⟨_, h0⟩ | ⟨g, cap, cur, hv, hB, hg, hc, _⟩
  · omega
  · exact ⟨g, cap, hv, hc, hB, (Array.getElem?_eq_some_iff.1 hg).1⟩
theorem OwnS.getD {w : World} {B g n cap : Nat} {l : List ByteArray} (h : OwnS w B (.slice (some ⟨g, 0, none⟩) n cap) l) (hn : l.length = n) : ∀ i, i < l.length → w.cell? ⟨g, i, none⟩ = some (.string (l.getD i ByteArray.empty)) := by
  subst hn
  intro i hi
  rw [h.1.cellAt i (by omega)]
  simp [strs, List.getD, hi]
theorem eqStringS_nil (a1 a2 : Option Addr) (c1 c2 : Nat) (w : World) :
    Calls Tryz.prog 10 #[.slice a1 0 c1, .slice a2 0 c2] w fun e w' => e = .returned (.bool true) ∧ ∃ k, w' = w.drewN k := by
  go_enter Tryz.func10, Tryz.ntmps10
  go_wp2
  go_loop [5] (fun i => i = .int .i64 0) (fun _ => 0)
  case atStart => rfl
  case round =>
    subst hrel
    go_wp2
    go_ret
    exact ⟨rfl, 0, rfl⟩
theorem markStringS_nil (a1 : Option Addr) (c1 : Nat) (k : Int) (w : World) :
    Calls Tryz.prog 13 #[.slice a1 0 c1, .int .i64 k] w fun e w' => e = .returned (.int .i64 k) ∧ w' = w := by
  go_enter Tryz.func13, Tryz.ntmps13
  go_wp2
  go_loop [1, 5] (fun kv i => i = .int .i64 0 ∧ kv = .int .i64 k) (fun _ _ => 0)
  case atStart => exact ⟨rfl, rfl⟩
  case round =>
    obtain ⟨rfl, rfl⟩ := hrel
    go_wp2
    go_ret
    exact ⟨rfl, rfl⟩
theorem heldStringS_nil (a1 : Option Addr) (c1 : Nat) (k : Int) (w : World) :
    Calls Tryz.prog 14 #[.slice a1 0 c1, .int .i64 k] w fun e w' => e = .returned (.int .i64 k) ∧ w' = w := by
  go_enter Tryz.func14, Tryz.ntmps14
  go_wp2
  go_loop [1, 5] (fun kv i => i = .int .i64 0 ∧ kv = .int .i64 k) (fun _ _ => 0)
  case atStart => exact ⟨rfl, rfl⟩
  case round =>
    obtain ⟨rfl, rfl⟩ := hrel
    go_wp2
    go_ret
    exact ⟨rfl, rfl⟩

theorem eqS_own {w : World} {B1 B2 : Nat} {u1 u2 : Value} {l : List ByteArray} (h1 : OwnS w B1 u1 l) (h2 : OwnS w B2 u2 l) (hl : l.length ≤ 4194304) :
    Calls Tryz.prog 10 #[u1, u2] w fun e w' => e = .returned (.bool true) ∧ Below w.heap.size w w' := by
  by_cases hn : l.length = 0
  · obtain ⟨a1, c1, rfl, _⟩ := h1.slice
    obtain ⟨a2, c2, rfl, _⟩ := h2.slice
    rw [hn]
    exact (eqStringS_nil a1 a2 c1 c2 w).mono fun e w' ⟨he, k, hk⟩ => ⟨he, by rw [hk]; exact ⟨rfl, rfl, rfl, Nat.le_refl _, fun _ _ => rfl⟩⟩
  · obtain ⟨g1, c1, rfl, hc1, _⟩ := h1.formS (by omega)
    obtain ⟨g2, c2, rfl, hc2, _⟩ := h2.formS (by omega)
    exact (eqStringS_some g1 g2 c1 c2 l w hl hc1 hc2 (h1.getD rfl) (h2.getD rfl)).mono fun e w' ⟨he, k, hk⟩ => ⟨he, by rw [hk]; exact ⟨rfl, rfl, rfl, Nat.le_refl _, fun _ _ => rfl⟩⟩
/-- Marks lie in the row. -/
def MarkedS (w : World) (u : Value) (n : Nat) : Prop := (n = 0 ∧ ∃ a c, u = .slice a 0 c) ∨ ∃ g cap, u = .slice (some ⟨g, 0, none⟩) n cap ∧ n ≤ cap ∧ w.ownsRow 0 9 1 u n (marks 1 n)
theorem MarkedS.next {w w' : World} {u : Value} {n : Nat} (h : MarkedS w u n) (hb : Below w.heap.size w w') : MarkedS w' u n := by
  rcases h with h | ⟨g, cap, hu, hc, ho⟩
  · exact .inl h
  · refine .inr ⟨g, cap, hu, hc, ho.1, ?_⟩
    rcases ho.2 with hn | ⟨g', cap', cur, hv, hB, hg, hr⟩
    · exact .inl hn
    · exact .inr ⟨g', cap', cur, hv, hB, (hb.block g' (Array.getElem?_eq_some_iff.1 hg).1).trans hg, hr⟩
theorem ownsRow_low {w : World} {B c n : Nat} {e : TypeId} {v : Value} {xs : List Value} (h : w.ownsRow B e c v n xs) : w.ownsRow 0 e c v n xs := by
  refine ⟨h.1, ?_⟩
  rcases h.2 with hn | ⟨g', cap', cur, hv, hB, hr⟩
  · exact .inl hn
  · exact .inr ⟨g', cap', cur, hv, Nat.zero_le _, hr⟩
theorem markS_own {w : World} {B : Nat} {u : Value} {l : List ByteArray} (h : OwnS w B u l) (hl : l.length ≤ 4194304) :
    Calls Tryz.prog 13 #[u, .int .i64 1] w fun e w' => e = .returned (.int .i64 ((1 + l.length : Nat) : Int)) ∧ MarkedS w' u l.length ∧ Below B w w' := by
  by_cases hn : l.length = 0
  · obtain ⟨a1, c1, rfl, _⟩ := h.slice
    rw [hn]
    exact (markStringS_nil a1 c1 1 w).mono fun e w' ⟨he, hk⟩ => ⟨he, .inl ⟨rfl, _, _, rfl⟩, by rw [hk]; exact Below.refl _ _⟩
  · obtain ⟨g1, c1, rfl, hc1, hB, hg⟩ := h.formS (by omega)
    refine (markStringS_own B g1 l.length c1 1 _ w hl (by omega) (by omega) h.1).mono fun e w' ⟨he, ho, hgr⟩ => ⟨he, .inr ⟨g1, c1, rfl, hc1, ownsRow_low ho⟩, ?_⟩
    exact ⟨hgr.os, hgr.tape, hgr.output, hgr.size, fun j hj => hgr.block j (by omega) (by simp; omega)⟩
theorem heldS_own {w : World} {u : Value} {n : Nat} (h : MarkedS w u n) (hl : n ≤ 4194304) :
    Calls Tryz.prog 14 #[u, .int .i64 1] w fun e w' => e = .returned (.int .i64 ((1 + n : Nat) : Int)) ∧ Below w.heap.size w w' := by
  rcases h with ⟨rfl, a, c, rfl⟩ | ⟨g, cap, rfl, hc, ho⟩
  · exact (heldStringS_nil a c 1 w).mono fun e w' ⟨he, hk⟩ => ⟨he, by rw [hk]; exact Below.refl _ _⟩
  · refine heldStringS_own g n cap 1 w hl hc (by omega) (by omega) (fun i hi => ?_)
    rw [ho.cellAt i (by omega), marks_get 1 n i hi]
end Go.Proofs.YtoknolophmhlgaaGreatDoor
/-
  The law of VarsAt, walked: at every row of modules and every place.
-/
namespace Go.Proofs.YtoknolophmhlgaaGreatDoor
open Go.ChangeShapes Go.WideShapes Go.ChangeAt Go.RowKit
set_option linter.unusedVariables false
set_option maxRecDepth 100000

theorem ownS_off {w w' : World} {B : Nat} {v : Value} {l : List ByteArray} {fp : List Nat} (h : OwnS w B v l) (ho : Off fp w w') (hne : ∀ g, v.ownBlock = some g → g ∉ fp) : OwnS w' B v l := by
  refine ⟨⟨h.1.1, ?_⟩, Nat.le_trans h.2 ho.size⟩
  rcases h.1.2 with hn | ⟨g, cap, cur, hv, hB, hg, hr⟩
  · exact .inl hn
  · exact .inr ⟨g, cap, cur, hv, hB, (ho.block g (Array.getElem?_eq_some_iff.1 hg).1 (hne g (by rw [hv]; rfl))).trans hg, hr⟩
theorem ownS_below {w w' : World} {B N : Nat} {v : Value} {l : List ByteArray} (h : OwnS w B v l) (ho : Below N w w') (hne : ∀ g, v.ownBlock = some g → g < N) : OwnS w' B v l := by
  refine ⟨⟨h.1.1, ?_⟩, Nat.le_trans h.2 ho.size⟩
  rcases h.1.2 with hn | ⟨g, cap, cur, hv, hB, hg, hr⟩
  · exact .inl hn
  · exact .inr ⟨g, cap, cur, hv, hB, (ho.block g (hne g (by rw [hv]; rfl))).trans hg, hr⟩

theorem varsAt_len (d : Nat) (ms : List Md) (q : Pl) (h : wtS (wtMd d) ms ≤ 1048576) : (varsAt d ms q).length ≤ 2097152 := by
  unfold varsAt
  split
  · cases hc : clauseOf ms q with
    | none => simp
    | some c =>
      have h1 := clauseOf_wt1 (d := d) hc
      have h2 : (clauseVars d c).length ≤ 1048577 := by
        have hn := clauseVars_nd d c
        have := hn.len (fun s hs => (clauseL_all d c (keyS s)).1 (List.mem_map_of_mem hs))
        have h3 := clauseL_len d c (by omega) (c.1 ++ c.2).length
        rw [List.take_of_length_le (Nat.le_refl _)] at h3
        unfold clauseL at this
        omega
      show (sortS (clauseVars d c)).length ≤ _
      have h4 := sortS_len (clauseVars d c) (clauseVars d c).length
      rw [List.take_of_length_le (Nat.le_refl _)] at h4
      omega
  · simp

set_option maxHeartbeats 16000000 in
theorem fnExactVarsAt_walk (w : World) (d : Nat) (v : Value) (ms : List Md) (q : Pl) (h : Rows w (fun g => g < w.heap.size) 3 (HMd w (fun g => g < w.heap.size) d) v ms) (hq0 : okS q.mod) (hq1 : okS q.name) (hT : Tabs w) :
    Calls Tryz.prog 3 #[v, .agg #[.string q.mod, .string q.name, .int .i64 q.arity, .int .i64 q.clause]] w fun e w' => e = .returned (.bool true) ∧ Below w.heap.size w w' := by
  have HTAB : Hid (Tabs w) := hT
  have Z : Hid (Rows w (fun g => g < w.heap.size) 3 (HMd w (fun g => g < w.heap.size) d) v ms) := h
  have H : Hid (∀ w', Below w.heap.size w w' → Rows w' All 3 (HMd w' All d) v ms) := fun w' hw => h.mono (SameOn.of_below hw) (fun _ _ => trivial) (fun _ _ _ h => h.mono (SameOn.of_below hw) (fun _ _ => trivial))
  obtain ⟨p, cap, rfl, -⟩ := h
  obtain ⟨W1, hW1⟩ : ∃ W1, W1 = w.alloc (.cells #[.string q.mod, .string q.name, .int .i64 q.arity, .int .i64 q.clause] 24) := ⟨_, rfl⟩
  have bA : Hid (Blk W1 w.heap.size #[.string q.mod, .string q.name, .int .i64 q.arity, .int .i64 q.clause] 24) := by show Blk _ _ _ _; rw [hW1]; exact Blk.new
  have BA : Hid (Below w.heap.size w W1) := by show Below _ _ _; rw [hW1]; exact (Below.refl _ _).alloc (Nat.le_refl _) _
  have HW1 : Hid (W1 = w.alloc (.cells #[.string q.mod, .string q.name, .int .i64 q.arity, .int .i64 q.clause] 24)) := hW1
  generalize hx : wtS (wtMd d) ms = x at *
  have HX : Hid (wtS (wtMd d) ms = x) := hx
  generalize hr0 : leftOf 1048576 x = r at *
  have SZ : Hid (Calls Tryz.prog 4 #[.slice p ms.length cap, .int .i64 1048576] W1 fun e w' => e = .returned (.int .i64 r) ∧ Below W1.heap.size W1 w') := by
    have := (szModuleS_all (N := w.heap.size) d).at ms (w := W1) (1048576 : Int) 1048576 rfl (Z.out.mono (SameOn.of_low (BA.out)) (fun _ h => h) (fun _ _ _ h => h.mono (SameOn.of_low (BA.out)) (fun _ h => h))) (Nat.le_refl _)
    rw [HX.out, hr0] at this
    exact this
  clear hW1
  by_cases hw : 1048576 < x
  · have hr : r = -1 := by rw [← hr0]; exact leftOf_lt hw
    subst hr
    go_enter Tryz.func3, Tryz.ntmps3
    go_wp2_with fail
    rw [← HW1.out]
    refine SZ.out.mono ?_
    rintro e w1 ⟨rfl, hb⟩
    have B1 : Hid (Below w.heap.size w w1) := BA.out.trans (hb.mono BA.out.size)
    clear hb
    go_wp2_with fail
    go_ret
    exact ⟨rfl, B1.out⟩
  · obtain ⟨rn, rfl⟩ : ∃ rn : Nat, r = (rn : Int) := ⟨1048576 - x, by rw [← hr0]; exact leftOf_ge (by omega)⟩
    have hrn : rn ≤ 1048576 := by have := leftOf_ge (left := 1048576) (wt := x) (by omega); omega
    have HW : Hid (wtS (wtMd d) ms ≤ 1048576) := by show _ ≤ _; rw [HX.out]; omega
    generalize hr1 : leftOf rn (wtPl q) = r1 at *
    have SP : Hid (∀ w', Calls Tryz.prog 5 #[.agg #[.string q.mod, .string q.name, .int .i64 q.arity, .int .i64 q.clause], .int .i64 rn] w' fun e w'' => e = .returned (.int .i64 r1) ∧ Below w'.heap.size w' w'') := fun w' => by
      have := szPlace_any w' q rn hrn hq0 hq1
      rwa [hr1] at this
    have TP : Hid (∀ w', Calls Tryz.prog 8 #[.agg #[.string q.mod, .string q.name, .int .i64 q.arity, .int .i64 q.clause]] w' fun e w'' => e = .returned (.agg #[.string q.mod, .string q.name, .int .i64 q.arity, .int .i64 q.clause]) ∧ Below w'.heap.size w' w'') := fun w' => toPlace_any w' q
    have TO : Hid (∀ w', Below w.heap.size w w' → Calls Tryz.prog 7 #[.slice p ms.length cap] w' fun e w'' => ∃ pu cu fp, e = .returned (.slice pu ms.length cu) ∧ ORows w'' 53 3 (OMd w'' d) (.slice pu ms.length cu) ms fp ∧ fp.Nodup ∧ (∀ a ∈ fp, w'.heap.size ≤ a ∧ a < w''.heap.size) ∧ Below w'.heap.size w' w'') := fun w' hw => by
      refine (toModuleS_own d w' _ ms (H.out w' hw) HW.out).mono ?_
      rintro e w'' ⟨u, fp, rfl, ho, hn, hr, hb⟩
      obtain ⟨pu, cu, rfl, -⟩ := ho.shape
      exact ⟨pu, cu, fp, rfl, ho, hn, hr, hb⟩
    have HCN : Hid (1 + (ms.map (cntMS d)).sum ≤ 1099511627776) := by
      show _ ≤ _
      have := cntMS_le d ms
      have := HW.out
      omega
    have hl := varsAt_len d ms q HW.out
    have SV : Hid (∀ w' v, Rows w' All 3 (HMd w' All d) v ms → Calls Tryz.prog 6 #[v, .agg #[.string q.mod, .string q.name, .int .i64 q.arity, .int .i64 q.clause]] w' fun e w'' => ∃ u, e = .returned u ∧ OwnS w'' w'.heap.size u (varsAt d ms q) ∧ Below w'.heap.size w' w'') := fun w' v hr => specVarsAt_any d w' v ms q hr HW.out
    have IM : Hid (∀ w' v, Below w.heap.size w w' → Rows w' All 3 (HMd w' All d) v ms → Calls Tryz.prog 9 #[v, .agg #[.string q.mod, .string q.name, .int .i64 q.arity, .int .i64 q.clause]] w' fun e w'' => ∃ u, e = .returned u ∧ OwnS w'' w'.heap.size u (varsAt d ms q) ∧ Below w'.heap.size w' w'') := fun w' v hb hr => implVarsAt_any d w' v ms q (HTAB.out.below hb) hr HW.out
    clear hr0 hx hw hrn hq0 hq1
    have hrn0 : ¬ (rn : Int) < 0 := by omega
    generalize hn : ms.length = n at *
    generalize hLF : varsAt d ms q = LF at *
    clear hn hLF
    go_enter Tryz.func3, Tryz.ntmps3
    go_wp2_with fail
    rw [← HW1.out]
    refine SZ.out.mono ?_
    rintro e w1 ⟨rfl, hb⟩
    have B1 : Hid (Below w.heap.size w w1) := BA.out.trans (hb.mono BA.out.size)
    have b1 : Hid (Blk w1 w.heap.size #[.string q.mod, .string q.name, .int .i64 q.arity, .int .i64 q.clause] 24) := bA.out.next hb
    clear hb HW1 SZ bA BA
    have y0 := b1.out.cell 0 _ rfl
    have y1 := b1.out.cell 1 _ rfl
    have y2 := b1.out.cell 2 _ rfl
    have y3 := b1.out.cell 3 _ rfl
    go_wp2_with fail
    refine (SP.out _).mono ?_
    rintro e w2 ⟨rfl, hb⟩
    have B2 : Hid (Below w.heap.size w w2) := B1.out.trans (hb.mono B1.out.size)
    have b2 : Hid (Blk w2 w.heap.size #[.string q.mod, .string q.name, .int .i64 q.arity, .int .i64 q.clause] 24) := b1.out.next hb
    clear hb SP y0 y1 y2 y3
    by_cases hneg : rn < wtPl q
    · have hr : r1 = -1 := by rw [← hr1]; exact leftOf_lt hneg
      subst hr
      go_wp2_with fail
      go_ret
      exact ⟨rfl, B2.out⟩
    obtain ⟨r2, rfl⟩ : ∃ r2 : Nat, r1 = (r2 : Int) := ⟨rn - wtPl q, by rw [← hr1]; exact leftOf_ge (by omega)⟩
    have hr2 : ¬ (r2 : Int) < 0 := by omega
    clear hneg hr1
    have y0 := b2.out.cell 0 _ rfl
    have y1 := b2.out.cell 1 _ rfl
    have y2 := b2.out.cell 2 _ rfl
    have y3 := b2.out.cell 3 _ rfl
    go_wp2_with fail
    go_region_held3 (fun w' => w'.cell? ⟨w.heap.size, 0, none⟩ = some (.string q.mod) ∧ w'.cell? ⟨w.heap.size, 1, none⟩ = some (.string q.name) ∧ w'.cell? ⟨w.heap.size, 2, none⟩ = some (.int .i64 q.arity) ∧ w'.cell? ⟨w.heap.size, 3, none⟩ = some (.int .i64 q.clause))
      (first | go_keep | (go_split_ands; refine ⟨?_, ?_, ?_, ?_⟩ <;> exact cell_next hb (by assumption)))
      (first
        | (go_at_call 7; refine (TO.out _ (by first | exact B2.out | exact B2.out.drew)).mono ?_; rintro e w3 ⟨pa, ca, fpa, rfl, ho, hnd, hrg, hb⟩; have OXa3 : Hid (ORows w3 53 3 (OMd w3 d) (.slice pa n ca) ms fpa) := ho; have RGa : Hid (fpa.Nodup ∧ ∀ a ∈ fpa, w2.heap.size ≤ a ∧ a < w3.heap.size) := (by first | exact ⟨hnd, hrg⟩ | exact ⟨hnd, fun a ha => hrg a ha⟩); have K3 : Hid (Below w2.heap.size w2 w3) := (by first | exact hb | exact ⟨hb.os, hb.tape, hb.output, hb.size, hb.block⟩); clear ho hnd hrg)
        | (go_at_call 8; refine (toPlace_any _ q).mono ?_; rintro e w4 ⟨rfl, hb⟩; have K4 : Hid (Below w3.heap.size w3 w4) := (by first | exact hb | exact ⟨hb.os, hb.tape, hb.output, hb.size, hb.block⟩))
        | (go_at_call 6; refine (SV.out _ _ (oms_tree (oms_keep OXa3.out (KeepOn.below K4.out (fun a ha => oms_lt OXa3.out a ha))))).mono ?_; rintro e w5 ⟨uw, rfl, ho, hb⟩; have Ow5 : Hid (OwnS w5 w4.heap.size uw LF) := ho; have K5 : Hid (Below w4.heap.size w4 w5) := (by first | exact hb | exact ⟨hb.os, hb.tape, hb.output, hb.size, hb.block⟩); clear ho))
    go_split_ands
    clear y0 y1 y2 y3 hb
    have B3 : Hid (Below w.heap.size w w3) := B2.out.trans (K3.out.mono B2.out.size)
    have b3 : Hid (Blk w3 w.heap.size #[.string q.mod, .string q.name, .int .i64 q.arity, .int .i64 q.clause] 24) := b2.out.next K3.out
    have B4 : Hid (Below w.heap.size w w4) := B3.out.trans (K4.out.mono B3.out.size)
    have b4 : Hid (Blk w4 w.heap.size #[.string q.mod, .string q.name, .int .i64 q.arity, .int .i64 q.clause] 24) := b3.out.next K4.out
    have B5 : Hid (Below w.heap.size w w5) := B4.out.trans (K5.out.mono B4.out.size)
    have b5 : Hid (Blk w5 w.heap.size #[.string q.mod, .string q.name, .int .i64 q.arity, .int .i64 q.clause] 24) := b4.out.next K5.out
    have LW : Hid (∀ g, uw.ownBlock = some g → g < w5.heap.size) := fun g hg => (Ow5.out.off hg).2
    go_wp2_with fail
    refine (TO.out _ (by first | exact B5.out | exact B5.out.drew)).mono ?_
    rintro e w6 ⟨pb, cb, fpb, rfl, ho, hnd, hrg, hb⟩
    have OXb6 : Hid (ORows w6 53 3 (OMd w6 d) (.slice pb n cb) ms fpb) := ho
    have RGb : Hid (fpb.Nodup ∧ ∀ a ∈ fpb, w5.heap.size ≤ a ∧ a < w6.heap.size) := (by first | exact ⟨hnd, hrg⟩ | exact ⟨hnd, fun a ha => hrg a ha⟩)
    have K6 : Hid (Below w5.heap.size w5 w6) := (by first | exact hb | exact ⟨hb.os, hb.tape, hb.output, hb.size, hb.block⟩)
    have B6 : Hid (Below w.heap.size w w6) := B5.out.trans (K6.out.mono B5.out.size)
    have b6 : Hid (Blk w6 w.heap.size #[.string q.mod, .string q.name, .int .i64 q.arity, .int .i64 q.clause] 24) := b5.out.next K6.out
    clear hb ho hnd hrg
    have Ow6 : Hid (OwnS w6 w4.heap.size uw LF) := Ow5.out.next K6.out
    clear Ow5
    have y0 := b6.out.cell 0 _ rfl
    have y1 := b6.out.cell 1 _ rfl
    have y2 := b6.out.cell 2 _ rfl
    have y3 := b6.out.cell 3 _ rfl
    go_wp2_with fail
    refine (TP.out _).mono ?_
    rintro e w7 ⟨rfl, hb⟩
    have K7 : Hid (Below w6.heap.size w6 w7) := (by first | exact hb | exact ⟨hb.os, hb.tape, hb.output, hb.size, hb.block⟩)
    have B7 : Hid (Below w.heap.size w w7) := B6.out.trans (K7.out.mono B6.out.size)
    have b7 : Hid (Blk w7 w.heap.size #[.string q.mod, .string q.name, .int .i64 q.arity, .int .i64 q.clause] 24) := b6.out.next K7.out
    clear hb y0 y1 y2 y3
    have Ow7 : Hid (OwnS w7 w4.heap.size uw LF) := Ow6.out.next K7.out
    have OXb7 : Hid (ORows w7 53 3 (OMd w7 d) (.slice pb n cb) ms fpb) := oms_keep OXb6.out (KeepOn.below K7.out (fun a ha => oms_lt OXb6.out a ha))
    clear Ow6 OXb6
    go_wp2_with fail
    refine (IM.out _ _ B7.out (oms_tree OXb7.out)).mono ?_
    rintro e w8 ⟨ug, rfl, ho, hb⟩
    have Og8 : Hid (OwnS w8 w7.heap.size ug LF) := ho
    have K8 : Hid (Below w7.heap.size w7 w8) := (by first | exact hb | exact ⟨hb.os, hb.tape, hb.output, hb.size, hb.block⟩)
    have B8 : Hid (Below w.heap.size w w8) := B7.out.trans (K8.out.mono B7.out.size)
    have b8 : Hid (Blk w8 w.heap.size #[.string q.mod, .string q.name, .int .i64 q.arity, .int .i64 q.clause] 24) := b7.out.next K8.out
    clear hb ho
    have Ow8 : Hid (OwnS w8 w4.heap.size uw LF) := Ow7.out.next K8.out
    have OXb8 : Hid (ORows w8 53 3 (OMd w8 d) (.slice pb n cb) ms fpb) := oms_keep OXb7.out (KeepOn.below K8.out (fun a ha => oms_lt OXb7.out a ha))
    clear Ow7 OXb7
    have LG : Hid (∀ g, ug.ownBlock = some g → w7.heap.size ≤ g) := fun g hg => (Og8.out.off hg).1
    go_wp2_with fail
    refine (eqS_own Og8.out Ow8.out (by omega)).mono ?_
    rintro e w9 ⟨rfl, hb⟩
    have K9 : Hid (Below w8.heap.size w8 w9) := (by first | exact hb | exact ⟨hb.os, hb.tape, hb.output, hb.size, hb.block⟩)
    have B9 : Hid (Below w.heap.size w w9) := B8.out.trans (K9.out.mono B8.out.size)
    have b9 : Hid (Blk w9 w.heap.size #[.string q.mod, .string q.name, .int .i64 q.arity, .int .i64 q.clause] 24) := b8.out.next K9.out
    clear hb
    have Ow9 : Hid (OwnS w9 w4.heap.size uw LF) := Ow8.out.next K9.out
    have Og9 : Hid (OwnS w9 w7.heap.size ug LF) := Og8.out.next K9.out
    have OXb9 : Hid (ORows w9 53 3 (OMd w9 d) (.slice pb n cb) ms fpb) := oms_keep OXb8.out (KeepOn.below K9.out (fun a ha => oms_lt OXb8.out a ha))
    clear Ow8 Og8 OXb8
    go_wp2_with fail
    refine (TO.out _ (by first | exact B9.out | exact B9.out.drew)).mono ?_
    rintro e w10 ⟨pc, cc, fpc, rfl, ho, hnd, hrg, hb⟩
    have OXc10 : Hid (ORows w10 53 3 (OMd w10 d) (.slice pc n cc) ms fpc) := ho
    have RGc : Hid (fpc.Nodup ∧ ∀ a ∈ fpc, w9.heap.size ≤ a ∧ a < w10.heap.size) := (by first | exact ⟨hnd, hrg⟩ | exact ⟨hnd, fun a ha => hrg a ha⟩)
    have K10 : Hid (Below w9.heap.size w9 w10) := (by first | exact hb | exact ⟨hb.os, hb.tape, hb.output, hb.size, hb.block⟩)
    have B10 : Hid (Below w.heap.size w w10) := B9.out.trans (K10.out.mono B9.out.size)
    have b10 : Hid (Blk w10 w.heap.size #[.string q.mod, .string q.name, .int .i64 q.arity, .int .i64 q.clause] 24) := b9.out.next K10.out
    clear hb ho hnd hrg
    have Ow10 : Hid (OwnS w10 w4.heap.size uw LF) := Ow9.out.next K10.out
    have Og10 : Hid (OwnS w10 w7.heap.size ug LF) := Og9.out.next K10.out
    have OXb10 : Hid (ORows w10 53 3 (OMd w10 d) (.slice pb n cb) ms fpb) := oms_keep OXb9.out (KeepOn.below K10.out (fun a ha => oms_lt OXb9.out a ha))
    clear Ow9 Og9 OXb9
    go_wp2_with fail
    refine (eqModuleS_all d _ _ _ ms (oms_tree OXb10.out) (oms_tree OXc10.out)).mono ?_
    rintro e w11 ⟨rfl, hb⟩
    have K11 : Hid (Below w10.heap.size w10 w11) := (by first | exact hb | exact ⟨hb.os, hb.tape, hb.output, hb.size, hb.block⟩)
    have B11 : Hid (Below w.heap.size w w11) := B10.out.trans (K11.out.mono B10.out.size)
    have b11 : Hid (Blk w11 w.heap.size #[.string q.mod, .string q.name, .int .i64 q.arity, .int .i64 q.clause] 24) := b10.out.next K11.out
    clear hb
    have Ow11 : Hid (OwnS w11 w4.heap.size uw LF) := Ow10.out.next K11.out
    have Og11 : Hid (OwnS w11 w7.heap.size ug LF) := Og10.out.next K11.out
    have OXb11 : Hid (ORows w11 53 3 (OMd w11 d) (.slice pb n cb) ms fpb) := oms_keep OXb10.out (KeepOn.below K11.out (fun a ha => oms_lt OXb10.out a ha))
    clear Ow10 Og10 OXb10
    go_wp2_with fail
    refine (markMS_all d _ _ ms fpb 1 OXb11.out RGb.out.1 (Nat.le_refl _) HCN.out).mono ?_
    rintro e w12 ⟨rfl, -, off12⟩
    have S5 : Hid (w.heap.size ≤ w5.heap.size) := B5.out.size
    have S6 : Hid (w6.heap.size ≤ w7.heap.size) := K7.out.size
    have S56 : Hid (w5.heap.size ≤ w6.heap.size) := K6.out.size
    have SZ12 : Hid (w11.heap.size ≤ w12.heap.size) := off12.size
    have Ow12 : Hid (OwnS w12 w4.heap.size uw LF) := ownS_off Ow11.out off12 (fun g hg hm => by have h1 := LW.out g hg; have h2 := (RGb.out.2 g hm).1; omega)
    have Og12 : Hid (OwnS w12 w7.heap.size ug LF) := ownS_off Og11.out off12 (fun g hg hm => by have h1 := LG.out g hg; have h2 := (RGb.out.2 g hm).2; have h3 := S6.out; omega)
    have hb : Below w5.heap.size w11 w12 := off12.below (fun g hg => (RGb.out.2 g hg).1) (Nat.le_trans K6.out.size (Nat.le_trans K7.out.size (Nat.le_trans K8.out.size (Nat.le_trans K9.out.size (Nat.le_trans K10.out.size K11.out.size)))))
    have B12 : Hid (Below w.heap.size w w12) := B11.out.trans (hb.mono S5.out)
    have b12 : Hid (Blk w12 w.heap.size #[.string q.mod, .string q.name, .int .i64 q.arity, .int .i64 q.clause] 24) := b11.out.below hb b5.out.lt
    have hkz0 : (0 : Int) ≤ ((1 + (ms.map (cntMS d)).sum : Nat) : Int) := by omega
    generalize ((1 + (ms.map (cntMS d)).sum : Nat) : Int) = kz at hkz0 ⊢
    have hkz : ¬ kz < 0 := by omega
    clear off12 hb OXb11 Ow11 Og11 hkz0
    go_wp2_with fail
    refine (eqS_own Og12.out Ow12.out (by omega)).mono ?_
    rintro e w13 ⟨rfl, hb⟩
    have K13 : Hid (Below w12.heap.size w12 w13) := (by first | exact hb | exact ⟨hb.os, hb.tape, hb.output, hb.size, hb.block⟩)
    have B13 : Hid (Below w.heap.size w w13) := B12.out.trans (K13.out.mono B12.out.size)
    have b13 : Hid (Blk w13 w.heap.size #[.string q.mod, .string q.name, .int .i64 q.arity, .int .i64 q.clause] 24) := b12.out.next K13.out
    clear hb
    have Ow13 : Hid (OwnS w13 w4.heap.size uw LF) := Ow12.out.next K13.out
    have Og13 : Hid (OwnS w13 w7.heap.size ug LF) := Og12.out.next K13.out
    clear Ow12 Og12
    go_wp2_with fail
    refine (markS_own Og13.out (by omega)).mono ?_
    rintro e w14 ⟨rfl, hm14, hb⟩
    have M14 : Hid (MarkedS w14 ug LF.length) := hm14
    have Ow14 : Hid (OwnS w14 w4.heap.size uw LF) := ownS_below Ow13.out hb (fun g hg => by have h1 := LW.out g hg; have h2 := S56.out; have h3 := S6.out; omega)
    have B14 : Hid (Below w.heap.size w w14) := B13.out.trans (hb.mono (Nat.le_trans S5.out (Nat.le_trans S56.out S6.out)))
    have b14 : Hid (Blk w14 w.heap.size #[.string q.mod, .string q.name, .int .i64 q.arity, .int .i64 q.clause] 24) := b13.out.below hb b7.out.lt
    clear hb hm14 Ow13 Og13
    go_wp2_with fail
    refine (heldS_own M14.out (by omega)).mono ?_
    rintro e w15 ⟨rfl, hb⟩
    have K15 : Hid (Below w14.heap.size w14 w15) := (by first | exact hb | exact ⟨hb.os, hb.tape, hb.output, hb.size, hb.block⟩)
    have B15 : Hid (Below w.heap.size w w15) := B14.out.trans (K15.out.mono B14.out.size)
    have b15 : Hid (Blk w15 w.heap.size #[.string q.mod, .string q.name, .int .i64 q.arity, .int .i64 q.clause] 24) := b14.out.next K15.out
    clear hb
    have M15 : Hid (MarkedS w15 ug LF.length) := M14.out.next K15.out
    have Ow15 : Hid (OwnS w15 w4.heap.size uw LF) := Ow14.out.next K15.out
    clear M14 Ow14
    have y0 := b15.out.cell 0 _ rfl
    have y1 := b15.out.cell 1 _ rfl
    have y2 := b15.out.cell 2 _ rfl
    have y3 := b15.out.cell 3 _ rfl
    go_wp2_with fail
    go_region_held3 (fun w' => w'.cell? ⟨w.heap.size, 0, none⟩ = some (.string q.mod) ∧ w'.cell? ⟨w.heap.size, 1, none⟩ = some (.string q.name) ∧ w'.cell? ⟨w.heap.size, 2, none⟩ = some (.int .i64 q.arity) ∧ w'.cell? ⟨w.heap.size, 3, none⟩ = some (.int .i64 q.clause))
      (first | go_keep | (go_split_ands; refine ⟨?_, ?_, ?_, ?_⟩ <;> exact cell_next hb (by assumption)))
      (first
        | (go_at_call 7; refine (TO.out _ (by first | exact B15.out | exact B15.out.drew)).mono ?_; rintro e w16 ⟨pd, cd, fpd, rfl, ho, hnd, hrg, hb⟩; have OXd16 : Hid (ORows w16 53 3 (OMd w16 d) (.slice pd n cd) ms fpd) := ho; have RGd : Hid (fpd.Nodup ∧ ∀ a ∈ fpd, w15.heap.size ≤ a ∧ a < w16.heap.size) := (by first | exact ⟨hnd, hrg⟩ | exact ⟨hnd, fun a ha => hrg a ha⟩); have K16 : Hid (Below w15.heap.size w15 w16) := (by first | exact hb | exact ⟨hb.os, hb.tape, hb.output, hb.size, hb.block⟩); clear ho hnd hrg)
        | (go_at_call 8; refine (toPlace_any _ q).mono ?_; rintro e w17 ⟨rfl, hb⟩; have K17 : Hid (Below w16.heap.size w16 w17) := (by first | exact hb | exact ⟨hb.os, hb.tape, hb.output, hb.size, hb.block⟩))
        | (go_at_call 9; refine (IM.out _ _ (B15.out.trans ((K16.out.trans (K17.out.mono K16.out.size)).mono B15.out.size)) (oms_tree (oms_keep OXd16.out (KeepOn.below K17.out (fun a ha => oms_lt OXd16.out a ha))))).mono ?_; rintro e w18 ⟨uh, rfl, ho, hb⟩; have Oh18 : Hid (OwnS w18 w17.heap.size uh LF) := ho; have K18 : Hid (Below w17.heap.size w17 w18) := (by first | exact hb | exact ⟨hb.os, hb.tape, hb.output, hb.size, hb.block⟩); clear ho))
    go_split_ands
    clear y0 y1 y2 y3 hb
    have B16 : Hid (Below w.heap.size w w16) := B15.out.trans (K16.out.mono B15.out.size)
    have b16 : Hid (Blk w16 w.heap.size #[.string q.mod, .string q.name, .int .i64 q.arity, .int .i64 q.clause] 24) := b15.out.next K16.out
    have M16 : Hid (MarkedS w16 ug LF.length) := M15.out.next K16.out
    have Ow16 : Hid (OwnS w16 w4.heap.size uw LF) := Ow15.out.next K16.out
    clear M15 Ow15
    have B17 : Hid (Below w.heap.size w w17) := B16.out.trans (K17.out.mono B16.out.size)
    have b17 : Hid (Blk w17 w.heap.size #[.string q.mod, .string q.name, .int .i64 q.arity, .int .i64 q.clause] 24) := b16.out.next K17.out
    have M17 : Hid (MarkedS w17 ug LF.length) := M16.out.next K17.out
    have Ow17 : Hid (OwnS w17 w4.heap.size uw LF) := Ow16.out.next K17.out
    clear M16 Ow16
    have B18 : Hid (Below w.heap.size w w18) := B17.out.trans (K18.out.mono B17.out.size)
    have b18 : Hid (Blk w18 w.heap.size #[.string q.mod, .string q.name, .int .i64 q.arity, .int .i64 q.clause] 24) := b17.out.next K18.out
    have M18 : Hid (MarkedS w18 ug LF.length) := M17.out.next K18.out
    have Ow18 : Hid (OwnS w18 w4.heap.size uw LF) := Ow17.out.next K18.out
    clear M17 Ow17
    go_wp2_with fail
    refine (eqS_own Oh18.out Ow18.out (by omega)).mono ?_
    rintro e w19 ⟨rfl, hb⟩
    have K19 : Hid (Below w18.heap.size w18 w19) := (by first | exact hb | exact ⟨hb.os, hb.tape, hb.output, hb.size, hb.block⟩)
    have B19 : Hid (Below w.heap.size w w19) := B18.out.trans (K19.out.mono B18.out.size)
    have b19 : Hid (Blk w19 w.heap.size #[.string q.mod, .string q.name, .int .i64 q.arity, .int .i64 q.clause] 24) := b18.out.next K19.out
    clear hb
    have M19 : Hid (MarkedS w19 ug LF.length) := M18.out.next K19.out
    clear M18
    go_wp2_with fail
    refine (heldS_own M19.out (by omega)).mono ?_
    rintro e w20 ⟨rfl, hb⟩
    have K20 : Hid (Below w19.heap.size w19 w20) := (by first | exact hb | exact ⟨hb.os, hb.tape, hb.output, hb.size, hb.block⟩)
    have B20 : Hid (Below w.heap.size w w20) := B19.out.trans (K20.out.mono B19.out.size)
    have b20 : Hid (Blk w20 w.heap.size #[.string q.mod, .string q.name, .int .i64 q.arity, .int .i64 q.clause] 24) := b19.out.next K20.out
    clear hb
    go_wp2
    go_ret
    exact ⟨rfl, B20.out⟩
end Go.Proofs.YtoknolophmhlgaaGreatDoor
/-
  Structs that lie in boxes: what a call leaves of them; modules, deeper and by their cells.
-/
namespace Go.Proofs.YtoknolophmhlgaaGreatDoor
open Go.ChangeShapes Go.WideShapes Go.ChangeAt Go.RowKit
set_option linter.unusedVariables false

theorem HFn.deeper {w : World} {S : Nat → Prop} {d d' : Nat} (hd : d ≤ d') {cs : List Value} {f : Fn'} (h : HFn w S d cs f) : HFn w S d' cs f := by
  have hs : SameOn S w w := ⟨Nat.le_refl _, fun _ _ _ => rfl⟩
  obtain ⟨cv, rfl, h1, h2, hc⟩ := h
  exact ⟨cv, rfl, h1, h2, hc.mono hs (fun _ h => h) (fun _ _ _ h => h.mono hs (fun _ h => h) (fun _ _ => HEx.deeper hd))⟩
theorem HMd.deeper {w : World} {S : Nat → Prop} {d d' : Nat} (hd : d ≤ d') {cs : List Value} {m : Md} (h : HMd w S d cs m) : HMd w S d' cs m := by
  have hs : SameOn S w w := ⟨Nat.le_refl _, fun _ _ _ => rfl⟩
  obtain ⟨ev, fv, rfl, h1, he, hf⟩ := h
  exact ⟨ev, fv, rfl, h1, he.mono hs (fun _ h => h) (fun _ _ _ h => h), hf.mono hs (fun _ h => h) (fun _ _ _ h => h.deeper hd)⟩
theorem HMd.shape {w : World} {S : Nat → Prop} {d : Nat} {cs : List Value} {m : Md} (h : HMd w S d cs m) : ∃ s p1 n1 q1 p2 n2 q2, cs = [.string s, .slice p1 n1 q1, .slice p2 n2 q2] := by
  obtain ⟨ev, fv, rfl, _, ⟨p1, c1, rfl, _⟩, ⟨p2, c2, rfl, _⟩⟩ := h
  exact ⟨_, _, _, _, _, _, _, rfl⟩

theorem HMd.agg {w : World} {S : Nat → Prop} {d : Nat} {v : Value} {m : Md} (h : HMd w S d v.cells.toList m) : ∃ cs : List Value, v = .agg cs.toArray ∧ HMd w S d cs m :=
  ⟨v.cells.toList, agg_of_cells rfl (by obtain ⟨_, _, e, _⟩ := h; rw [e]; simp), h⟩
end Go.Proofs.YtoknolophmhlgaaGreatDoor
/-
  A row of modules that the statement's reader reads.
-/
namespace Go.Proofs.YtoknolophmhlgaaGreatDoor
open Go.ChangeShapes Go.WideShapes Go.ChangeAt Go.RowKit
set_option linter.unusedVariables false
section
variable {H : Type} {enc : TypeId × Value → H} {P : Program} {w : World} {base : Nat} {sp : Nat → Bool} {held : Bool}
variable {tE tEs tC tCs tI tS tR tRs tF tFs tM : TypeId}

theorem open_md1 (T : MdTypes P tE tEs tC tCs tI tS tR tRs tF tFs tM) {fuel : Nat} {cs : List Value} {x : DataW H × List MemPlace} (h : DataW.trod enc P w base sp held fuel tM cs = some x) :
    ∃ m, HMd w (fun g => g < w.heap.size) fuel cs m := by
  cases fuel with
  | zero => simp [DataW.trod] at h
  | succ fuel =>
    obtain ⟨fs, hu, hfs⟩ := T.m
    obtain ⟨hl, hat⟩ := open_fields hu hfs h
    rw [T.cm] at hl
    obtain ⟨a, b, c, rfl⟩ := len3 hl
    obtain ⟨y0, h0⟩ := hat 0 _ _ rfl
    obtain ⟨y1, h1⟩ := hat 1 _ _ rfl
    obtain ⟨y2, h2⟩ := hat 2 _ _ rfl
    rw [T.cS] at h0
    rw [T.crs] at h1
    rw [T.cfs] at h2
    obtain ⟨s, rfl, hs⟩ := open_str1 T.s h0
    cases fuel with
    | zero => simp [DataW.trod] at h0
    | succ fuel =>
      obtain ⟨_, rs, hv, hr⟩ := open_rows (R := HRf) T.rs T.cr (by decide) (fun cs x hx => by
        cases fuel with
        | zero => simp [DataW.trod] at hx
        | succ fuel =>
          obtain ⟨fs, hu, hfs⟩ := T.r
          obtain ⟨hl, hat⟩ := open_fields hu hfs hx
          rw [T.cr] at hl
          obtain ⟨a, b, rfl⟩ := len2 hl
          obtain ⟨y0, h0⟩ := hat 0 _ _ rfl
          obtain ⟨y1, h1⟩ := hat 1 _ _ rfl
          rw [T.cS] at h0
          rw [T.ci] at h1
          obtain ⟨s, rfl, hs⟩ := open_str1 T.s h0
          obtain ⟨i, rfl, hi⟩ := open_int1 T.i h1
          exact ⟨⟨s, i⟩, rfl, hs, hi⟩) h1
      cases hv
      obtain ⟨_, fs, hv, hf⟩ := open_rows (R := HFn w (fun g => g < w.heap.size) (fuel + 1)) T.fs T.cf (by decide) (fun cs x hx => by
        cases fuel with
        | zero => simp [DataW.trod] at hx
        | succ fuel =>
          obtain ⟨fs, hu, hfs⟩ := T.f
          obtain ⟨hl, hat⟩ := open_fields hu hfs hx
          rw [T.cf] at hl
          obtain ⟨a, b, c, rfl⟩ := len3 hl
          obtain ⟨y0, h0⟩ := hat 0 _ _ rfl
          obtain ⟨y1, h1⟩ := hat 1 _ _ rfl
          obtain ⟨y2, h2⟩ := hat 2 _ _ rfl
          rw [T.cS] at h0
          rw [T.ci] at h1
          rw [T.ccs] at h2
          obtain ⟨s, rfl, hs⟩ := open_str1 T.s h0
          obtain ⟨i, rfl, hi⟩ := open_int1 T.i h1
          obtain ⟨cls, hcls⟩ := open_cls T.toExTypes (n := fuel + 1 + 1) (open_ex T.toExTypes (fuel + 1 + 1)) (by omega) h2
          exact ⟨⟨s, i, cls⟩, c, rfl, hs, hi, hcls⟩) h2
      cases hv
      exact ⟨⟨s, rs, fs⟩, HMd.deeper (d := fuel + 1) (by omega) ⟨b, c, rfl, hs, hr, hf⟩⟩

theorem open_mds (T : MdTypes P tE tEs tC tCs tI tS tR tRs tF tFs tM) {tMs : TypeId} (hMs : P.underlying tMs = some (.slice tM)) {v : Value} {dd : DataW H} {ps : List MemPlace} (hc : v.cells.toList = [v]) (h : DataW.Trod enc P w base sp held tMs v dd ps) :
    ∃ d ms, Rows w (fun g => g < w.heap.size) 3 (HMd w (fun g => g < w.heap.size) d) v ms := by
  obtain ⟨fuel, h⟩ := h
  cases fuel with
  | zero => simp [DataW.trod] at h
  | succ fuel =>
    obtain ⟨v', xs, hv, hr⟩ := open_rows (R := HMd w (fun g => g < w.heap.size) fuel) hMs T.cm (by decide) (fun cs x hx => open_md1 T hx) h
    rw [hc] at hv
    cases hv
    exact ⟨_, _, hr⟩
end
end Go.Proofs.YtoknolophmhlgaaGreatDoor
