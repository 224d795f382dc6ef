/-
  The laws' markVal and heldVal: numbers and texts are written into a tree that owns its memory, and are found there.
-/
import Derived.Test.YtafehfpjogbmfaaDoorOVaDef
import Derived.Test.YtafehfpjogbmfaaDoorMark
namespace Go.Proofs.YtafehfpjogbmfaaDoor
open Go.ChangeShapes Go.WideShapes Go.ChangeAt Go.RowKit
set_option linter.unusedVariables false

def mtext (n : Nat) : ByteArray := ⟨(109 :: Lib.decDigits n).toArray⟩
theorem mtext_ok {n : Nat} (h : n ≤ 1099511627776) : okS (mtext n) := by
  have hD : (Lib.decDigits n).length ≤ 13 := mk_length_le 12 n (by omega)
  unfold okS mtext maxLen
  show (109 :: Lib.decDigits n).toArray.size ≤ _
  simp; omega
theorem nat_ok {n : Nat} (h : n ≤ 1099511627776) : okI n := by
  show (Lit.int .i64 (n : Int)).wf = true
  have h1 : (n : Int) ≤ 1099511627776 := by omega
  have h0 : (0 : Int) ≤ n := by omega
  generalize (n : Int) = z at h1 h0
  simp only [Lit.wf, Bool.and_eq_true, decide_eq_true_eq]
  exact ⟨Int.le_trans (by decide) h0, Int.le_trans h1 (by decide)⟩

theorem markText_at {w : World} (n : Nat) (z : Int) (hz : z = n) (h0 : 1 ≤ n) (h1 : n ≤ 1099511627776) :
    Calls Tryd.prog 24 #[.int .i64 z] w fun e w' => e = .returned (.string (mtext n)) ∧ Below w.heap.size w w' := by
  subst hz; exact markText_any n w h0 h1

def cntV : Nat → Va → Nat
  | 0, _ => 0
  | d + 1, e => 3 + (e.kids.map (cntV d)).sum
def markV : Nat → Nat → Va → Va
  | 0, _, e => e
  | d + 1, k, e => .mk k (k + 1) (mtext (k + 2)) (markL (markV d) (cntV d) (k + 3) e.kids)

/-- What markValS answers and leaves. -/
def MarkS (d : Nat) : Prop :=
  ∀ (w : World) (v : Value) (es : List Va) (fp : List Nat) (k : Nat), ORows w 24 4 (OVa w d) v es fp → fp.Nodup → 1 ≤ k → k + (es.map (cntV d)).sum ≤ 1099511627776 →
    Calls Tryd.prog 14 #[v, .int .i64 k] w fun e w' => e = .returned (.int .i64 ((k + (es.map (cntV d)).sum : Nat) : Int)) ∧ ORows w' 24 4 (OVa w' d) v (markL (markV d) (cntV d) k es) fp ∧ Off fp w w'

theorem MarkS.at {d : Nat} (h : MarkS d) {w : World} {v : Value} (es : List Va) (fp : List Nat) (k : Nat) (z : Int) (hz : z = k) (ho : ORows w 24 4 (OVa w d) v es fp) (hn : fp.Nodup) (h1 : 1 ≤ k) (hb : k + (es.map (cntV d)).sum ≤ 1099511627776) :
    Calls Tryd.prog 14 #[v, .int .i64 z] w fun e w' => e = .returned (.int .i64 ((k + (es.map (cntV d)).sum : Nat) : Int)) ∧ ORows w' 24 4 (OVa w' d) v (markL (markV d) (cntV d) k es) fp ∧ Off fp w w' := by
  subst hz; exact h w v es fp k ho hn h1 hb

set_option maxHeartbeats 8000000 in
theorem markS_of {d : Nat} (ih : ∀ d', d = d' + 1 → MarkS d') : MarkS d := by
  intro w v es fp k h hnd hk1 hkb
  obtain ⟨p, cap, rfl, hcl, hcm⟩ := h.shape
  have hnb : es.length ≤ 9223372036854775807 := by unfold maxLen at hcm; omega
  have HL : Hid ((markL (markV d) (cntV d) k es).length = es.length) := markL_length _ _ _ _
  have HO : Hid (ORows w 24 4 (OVa w d) (.slice p es.length cap) es fp) := h
  have HND : Hid fp.Nodup := hnd
  have HKB : Hid (k + (es.map (cntV d)).sum ≤ 1099511627776) := hkb
  generalize hn : es.length = n at *
  have HN : Hid (es.length = n) := hn
  clear h hnd hn hkb
  go_enter Tryd.func14, Tryd.ntmps14
  go_wp2
  go_loopw [1, 5] (fun kv iv wr => ∃ i kk : Nat, i ≤ n ∧ iv = .int .i64 i ∧ kv = .int .i64 kk ∧ Hid (kk = k + ((es.take i).map (cntV d)).sum) ∧ Hid (ORows wr 24 4 (OVa wr d) (.slice p n cap) (mix i (markL (markV d) (cntV d) k es) es) fp) ∧ Hid (Off fp w wr)) (fun _ iv _ => n - (intOf iv).toNat)
  case atStart => exact ⟨0, k, Nat.zero_le _, rfl, rfl, (by show k = _; simp), (by show ORows _ _ _ _ _ _ _; rw [mix_zero]; exact HO.out), Off.refl _ _⟩
  case round =>
    obtain ⟨i, kk, hi, rfl, rfl, HK, HR, HF⟩ := hrel
    by_cases hlt : i < n
    · obtain ⟨x, hxi⟩ : ∃ x, es[i]? = some x := ⟨es[i]'(by rw [HN.out]; exact hlt), List.getElem?_eq_getElem _⟩
      have hml : (mix i (markL (markV d) (cntV d) k es) es).length = n := by rw [mix_length (by rw [HL.out, HN.out]), HN.out]
      have hmx : (mix i (markL (markV d) (cntV d) k es) es)[i]? = some x := by rw [mix_at (by rw [HL.out, HN.out]) (by rw [HN.out]; exact hlt)]; exact hxi
      have HMX : Hid ((mix i (markL (markV d) (cntV d) k es) es).length = n) := hml
      rcases HR.out with hnil | ⟨hne, cells, g, cap', fps, ho, hv, hl, hfp, hat⟩
      · rw [hnil.1] at hml; simp at hml; omega
      rw [hml] at ho hv hl
      obtain ⟨f, hf⟩ : ∃ f, fps[i]? = some f := ⟨fps[i]'(by rw [hl]; exact hlt), List.getElem?_eq_getElem _⟩
      obtain ⟨cs, hcs4, hcs, hx⟩ := hat i x f hmx hf
      cases d with
      | zero => exact hx.elim
      | succ d' =>
      obtain ⟨kv, rfl, _, _, _, hkids⟩ := hx
      cases hv
      have hlc : cells.length = n * 4 := ho.1
      have hnp := nodup_parts (hfp ▸ HND.out)
      have a0 := (ho.cellAt (i * 4) (by omega)).trans (hcs 0 (by omega))
      have a1 := (ho.cellAt (i * 4 + 1) (by omega)).trans (hcs 1 (by omega))
      have a2 := (ho.cellAt (i * 4 + 2) (by omega)).trans (hcs 2 (by omega))
      have a3 := (ho.cellAt (i * 4 + 3) (by omega)).trans (hcs 3 (by omega))
      simp at a0 a1 a2 a3
      have z0 := ho.frozenAt (i * 4)
      have z1 := ho.frozenAt (i * 4 + 1)
      have s0 := ho.stored (i * 4) (.int .i64 kk)
      have s1 := s0.1.stored (i * 4 + 1) (.int .i64 ((kk : Int) + 1))
      have hsum : ((es.take (i + 1)).map (cntV (d' + 1))).sum = ((es.take i).map (cntV (d' + 1))).sum + cntV (d' + 1) x := sum_take_succ _ es i x hxi
      have hle : ((es.take (i + 1)).map (cntV (d' + 1))).sum ≤ (es.map (cntV (d' + 1))).sum := sum_take_le _ es (i + 1)
      have hcx : cntV (d' + 1) x = 3 + (x.kids.map (cntV d')).sum := rfl
      have hkk := HK.out
      have hkb := HKB.out
      have hkk3 : kk + 3 + (x.kids.map (cntV d')).sum ≤ 1099511627776 := by omega
      have hg0 : g ∈ fp := by rw [hfp]; simp
      have hfs : ∀ a ∈ f, a ∈ fp := fun a ha => by rw [hfp]; exact List.mem_cons_of_mem _ (List.mem_flatten.2 ⟨f, List.mem_of_getElem? hf, ha⟩)
      have hgf : g ∉ f := (hnp.1 f (List.mem_of_getElem? hf)).1
      have hfn : f.Nodup := (hnp.1 f (List.mem_of_getElem? hf)).2
      have HS1 : Hid (((wr.setCell ⟨g, i * 4, none⟩ (.int .i64 kk)).setCell ⟨g, i * 4 + 1, none⟩ (.int .i64 ((kk : Int) + 1))).ownsRow 0 24 4 (.slice (some ⟨g, 0, none⟩) n cap) n ((cells.set (i * 4) (.int .i64 kk)).set (i * 4 + 1) (.int .i64 ((kk : Int) + 1)))) := s1.1
      have HG1 : Hid (wr.grownBy ((wr.setCell ⟨g, i * 4, none⟩ (.int .i64 kk)).setCell ⟨g, i * 4 + 1, none⟩ (.int .i64 ((kk : Int) + 1))) (some g)) := grownBy_transR s0.2 s1.2
      have HKD : Hid (ORows wr 24 4 (OVa wr d') kv x.kids f) := hkids
      have HAT : Hid (∀ (j : Nat) y f', (mix i (markL (markV (d' + 1)) (cntV (d' + 1)) k es) es)[j]? = some y → fps[j]? = some f' → ∃ cs : List Value, cs.length = 4 ∧ (∀ q, q < 4 → cells[j * 4 + q]? = cs[q]?) ∧ OVa wr (d' + 1) cs y f') := hat
      have HCS : Hid (∀ (j : Nat), j < 4 → cells[i * 4 + j]? = [Value.int .i64 x.kind, .int .i64 x.n, .string x.text, kv][j]?) := hcs
      have HNP : Hid (∀ (i j : Nat) f f', i ≠ j → fps[i]? = some f → fps[j]? = some f' → ∀ a ∈ f, a ∉ f') := hnp.2
      have HNG : Hid (∀ f ∈ fps, g ∉ f ∧ f.Nodup) := hnp.1
      have HFP : Hid (fp = g :: fps.flatten) := hfp
      have HNE : Hid (mix i (markL (markV (d' + 1)) (cntV (d' + 1)) k es) es ≠ []) := hne
      have HFS : Hid ((∀ a ∈ f, a ∈ fp) ∧ g ∈ fp ∧ g ∉ f ∧ f.Nodup) := ⟨hfs, hg0, hgf, hfn⟩
      have HMI : Hid ((markL (markV (d' + 1)) (cntV (d' + 1)) k es)[i]? = some (markV (d' + 1) kk x)) := by
        show _ = _
        rw [markL_at _ _ _ _ _ _ hxi, ← HK.out]
      have HSUM : Hid (k + ((es.take (i + 1)).map (cntV (d' + 1))).sum = kk + 3 + (x.kids.map (cntV d')).sum) := by show _ = _; omega
      obtain ⟨pk, ck, hkv, _⟩ := hkids.shape
      subst hkv
      have hki : (i : Int) < (n : Int) := by omega
      have hi0 : (0 : Int) ≤ (i : Int) := by omega
      clear s0 s1 hkids hat hcs hnp hfp hne hfs hg0 hgf hfn hml hmx hsum hle hcx hkk hkb ho hcs4 HKB HO
      go_wp2_with fail
      refine (markText_at (kk + 2) _ (by omega) (by omega) (by omega)).mono ?_
      rintro e w1 ⟨rfl, hb⟩
      have o2 := HS1.out.kept (grownBy_belowR (r := none) hb) (Or.inr (by simp [Value.ownBlock]))
      have e2 : w1.cell? ⟨g, i * 4 + 2, none⟩ = some (.string x.text) := by
        rw [o2.cellAt (i * 4 + 2) (by omega), List.getElem?_set_ne (by omega), List.getElem?_set_ne (by omega)]; exact HCS.out 2 (by omega)
      have z2 := o2.frozenAt (i * 4 + 2)
      have s3 := o2.stored (i * 4 + 2) (.string (mtext (kk + 2)))
      have e3 : (w1.setCell ⟨g, i * 4 + 2, none⟩ (.string (mtext (kk + 2)))).cell? ⟨g, i * 4 + 3, none⟩ = some (.slice pk x.kids.length ck) := by
        rw [s3.1.cellAt (i * 4 + 3) (by omega), List.getElem?_set_ne (by omega), List.getElem?_set_ne (by omega), List.getElem?_set_ne (by omega)]; exact HCS.out 3 (by omega)
      have HS3 : Hid ((w1.setCell ⟨g, i * 4 + 2, none⟩ (.string (mtext (kk + 2)))).ownsRow 0 24 4 (.slice (some ⟨g, 0, none⟩) n cap) n (((cells.set (i * 4) (.int .i64 kk)).set (i * 4 + 1) (.int .i64 ((kk : Int) + 1))).set (i * 4 + 2) (.string (mtext (kk + 2))))) := s3.1
      have HG3 : Hid (w1.grownBy (w1.setCell ⟨g, i * 4 + 2, none⟩ (.string (mtext (kk + 2)))) (some g)) := s3.2
      have HB1 : Hid (Below ((wr.setCell ⟨g, i * 4, none⟩ (.int .i64 kk)).setCell ⟨g, i * 4 + 1, none⟩ (.int .i64 ((kk : Int) + 1))).heap.size ((wr.setCell ⟨g, i * 4, none⟩ (.int .i64 kk)).setCell ⟨g, i * 4 + 1, none⟩ (.int .i64 ((kk : Int) + 1))) w1) := hb
      clear o2 s3 hb a0 a1 a2 a3 z0 z1
      go_wp2_with fail
      have hoff : Off [g] wr (w1.setCell ⟨g, i * 4 + 2, none⟩ (.string (mtext (kk + 2)))) := (Off.of_grown HG1.out (by simp)).trans ((Off.of_below HB1.out).trans (Off.of_grown HG3.out (by simp)))
      have hkeep : ∀ f', g ∉ f' → (∀ a ∈ f', a < wr.heap.size) → KeepOn f' wr (w1.setCell ⟨g, i * 4 + 2, none⟩ (.string (mtext (kk + 2)))) := fun f' h1 h2 => hoff.keep (fun a ha => ⟨h2 a ha, fun hm => h1 (by rw [List.mem_singleton] at hm; exact hm ▸ ha)⟩)
      have hkf := hkeep f HFS.out.2.2.1 (HKD.out.lt (fun _ _ _ h => h.lt))
      refine ((ih d' rfl).at x.kids f (kk + 3) _ (by omega) (HKD.out.keep hkf (fun cs x f' _ hs h => h.keep (hkf.sub hs))) HFS.out.2.2.2 (by omega) hkk3).mono ?_
      rintro e w2 ⟨rfl, r2, off2⟩
      have hown : w2.ownsRow 0 24 4 (.slice (some ⟨g, 0, none⟩) n cap) n (((cells.set (i * 4) (.int .i64 kk)).set (i * 4 + 1) (.int .i64 ((kk : Int) + 1))).set (i * 4 + 2) (.string (mtext (kk + 2)))) := owns_block HS3.out rfl (off2.block g (owns_lt HS3.out rfl) HFS.out.2.2.1)
      have hset := ORows.set (R := OVa wr (d' + 1)) (R' := OVa w2 (d' + 1)) (x' := markV (d' + 1) kk x) (i := i) (f := f) HNE.out (by rw [HMX.out]; exact hown) (by rw [HMX.out]) (by rw [HMX.out]; exact hl) HAT.out hf
        (fun m hm => by rw [List.getElem?_set_ne (by omega), List.getElem?_set_ne (by omega), List.getElem?_set_ne (by omega)])
        [.int .i64 kk, .int .i64 ((kk : Int) + 1), .string (mtext (kk + 2)), .slice pk x.kids.length ck] rfl
        (fun j hj => by
          match j, hj with
          | 0, _ => rw [List.getElem?_set_ne (by omega), List.getElem?_set_ne (by omega)]; exact List.getElem?_set_self (by omega)
          | 1, _ => rw [List.getElem?_set_ne (by omega), List.getElem?_set_self (by rw [List.length_set]; omega)]; rfl
          | 2, _ => rw [List.getElem?_set_self (by rw [List.length_set, List.length_set]; omega)]; rfl
          | 3, _ => rw [List.getElem?_set_ne (by omega), List.getElem?_set_ne (by omega), List.getElem?_set_ne (by omega)]; exact HCS.out 3 (by omega))
        ⟨_, rfl, nat_ok (by omega), nat_ok (n := kk + 1) (by omega), mtext_ok (by omega), r2⟩
        (fun j y f' cs hj hf' h => h.keep (fun a ha => by
          have h1 := (HNG.out f' (List.mem_of_getElem? hf')).1
          have h2 := h.lt a ha
          have h3 := HNP.out j i f' f hj hf' hf a ha
          exact (off2.block a (Nat.lt_of_lt_of_le h2 hoff.size) h3).trans (hkeep f' h1 h.lt a ha)))
      rw [mix_succ (by rw [HL.out, HN.out]) HMI.out, ← HFP.out] at hset
      have HSET : Hid (ORows w2 24 4 (OVa w2 (d' + 1)) (.slice (some ⟨g, 0, none⟩) n cap) (mix (i + 1) (markL (markV (d' + 1)) (cntV (d' + 1)) k es) es) fp) := hset
      have HF2 : Hid (Off fp w w2) := HF.out.trans ((hoff.sub (fun a ha => by rw [List.mem_singleton] at ha; exact ha ▸ HFS.out.2.1)).trans (off2.sub HFS.out.1))
      clear hset hown r2 off2 hoff hkeep hkf
      go_wp2_with fail
      exact ⟨⟨i + 1, kk + 3 + (x.kids.map (cntV d')).sum, by omega, by go_num, rfl, HSUM.out.symm, HSET, HF2⟩, by simp [intOf]; omega⟩
    · obtain rfl : i = n := by omega
      have HE : Hid (kk = k + (es.map (cntV d)).sum) := by
        have := HK.out
        rw [List.take_of_length_le (by rw [HN.out]; exact Nat.le_refl _)] at this
        exact this
      have HR2 : Hid (ORows wr 24 4 (OVa wr d) (.slice p i cap) (markL (markV d) (cntV d) k es) fp) := by
        have := HR.out
        rw [mix_all (by rw [HL.out, HN.out]) (by rw [HN.out]; exact Nat.le_refl _)] at this
        exact this
      clear HR HO
      go_wp2_with fail
      go_ret
      exact ⟨by rw [HE.out]; rfl, HR2.out, HF.out⟩

theorem markS_all : ∀ d, MarkS d
  | 0 => markS_of (fun d' h => by omega)
  | d + 1 => markS_of (fun d' h => by obtain rfl : d = d' := by omega
                                      exact markS_all d)

/-- What heldValS answers. -/
def HeldS (d : Nat) : Prop :=
  ∀ (w : World) (v : Value) (es : List Va) (k : Nat), Rows w All 4 (HVa w All d) v (markL (markV d) (cntV d) k es) → 1 ≤ k → k + (es.map (cntV d)).sum ≤ 1099511627776 →
    Calls Tryd.prog 15 #[v, .int .i64 k] w fun e w' => e = .returned (.int .i64 ((k + (es.map (cntV d)).sum : Nat) : Int)) ∧ Below w.heap.size w w'
theorem HeldS.at {d : Nat} (h : HeldS d) {w : World} {v : Value} (es : List Va) (k : Nat) (z : Int) (hz : z = k) (ho : Rows w All 4 (HVa w All d) v (markL (markV d) (cntV d) k es)) (h1 : 1 ≤ k) (hb : k + (es.map (cntV d)).sum ≤ 1099511627776) :
    Calls Tryd.prog 15 #[v, .int .i64 z] w fun e w' => e = .returned (.int .i64 ((k + (es.map (cntV d)).sum : Nat) : Int)) ∧ Below w.heap.size w w' := by
  subst hz; exact h w v es k ho h1 hb

set_option maxHeartbeats 8000000 in
theorem heldS_of {d : Nat} (ih : ∀ d', d = d' + 1 → HeldS d') : HeldS d := by
  intro w v es k h hk1 hkb
  have hl : (markL (markV d) (cntV d) k es).length = es.length := markL_length _ _ _ _
  obtain ⟨p, cap, rfl, hcl, hcm, hx⟩ := h
  rw [hl] at hcl
  have hnb : es.length ≤ 9223372036854775807 := by unfold maxLen at hcm; omega
  rw [hl]
  have HX : Hid (markL (markV d) (cntV d) k es ≠ [] → ∃ g off, p = some ⟨g, off, none⟩ ∧ All g ∧ g < w.heap.size ∧ ∀ i x, (markL (markV d) (cntV d) k es)[i]? = some x → ∃ cs, cs.length = 4 ∧ (∀ j, j < 4 → w.cell? ⟨g, off + i * 4 + j, none⟩ = cs[j]?) ∧ HVa w All d cs x) := hx
  have HKB : Hid (k + (es.map (cntV d)).sum ≤ 1099511627776) := hkb
  generalize hn : es.length = n at *
  have HN : Hid (es.length = n) := hn
  clear hx hn hkb hl
  go_enter Tryd.func15, Tryd.ntmps15
  go_wp2
  go_loopw [1, 5] (fun kv iv wr => ∃ i kk : Nat, i ≤ n ∧ iv = .int .i64 i ∧ kv = .int .i64 kk ∧ Hid (kk = k + ((es.take i).map (cntV d)).sum) ∧ Below w.heap.size w wr) (fun _ iv _ => n - (intOf iv).toNat)
  case atStart => exact ⟨0, k, Nat.zero_le _, rfl, rfl, (by show k = _; simp), Below.refl _ _⟩
  case round =>
    obtain ⟨i, kk, hi, rfl, rfl, HK, hb⟩ := hrel
    have HB : Hid (Below w.heap.size w wr) := hb
    by_cases hlt : i < n
    · obtain ⟨x, hxi⟩ : ∃ x, es[i]? = some x := ⟨es[i]'(by rw [HN.out]; exact hlt), List.getElem?_eq_getElem _⟩
      have hmi : (markL (markV d) (cntV d) k es)[i]? = some (markV d kk x) := by rw [markL_at _ _ _ _ _ _ hxi, ← HK.out]
      obtain ⟨g, off, rfl, _, hgl, hat⟩ := HX.out (by intro h; rw [h] at hmi; simp at hmi)
      obtain ⟨cs, hcs4, hcs, hvx⟩ := hat i _ hmi
      cases d with
      | zero => exact hvx.elim
      | succ d' =>
      obtain ⟨kv, rfl, -, -, -, hkids⟩ := hvx
      have hkl : (markV (d' + 1) kk x).kids.length = x.kids.length := markL_length _ _ _ _
      obtain ⟨pk, ck, hkv, -⟩ := id hkids
      rw [hkl] at hkv
      subst hkv
      have E1 : ∀ w', SameOn All wr w' → Rows w' All 4 (HVa w' All d') (.slice pk x.kids.length ck) (markL (markV d') (cntV d') (kk + 3) x.kids) := fun w' hw => hkids.mono (SameOn.trans (SameOn.of_below hb) hw) (fun _ h => h) (fun _ _ _ => HVa.mono (SameOn.trans (SameOn.of_below hb) hw) (fun _ h => h))
      have a0 := hcs 0 (by omega)
      have a1 := hcs 1 (by omega)
      have a2 := hcs 2 (by omega)
      have a3 := hcs 3 (by omega)
      rw [← hb.cell (p := ⟨g, _, none⟩) hgl] at a0 a1 a2 a3
      simp [markV, Va.kind, Va.n, Va.text] at a0 a1 a2 a3
      have hsum : ((es.take (i + 1)).map (cntV (d' + 1))).sum = ((es.take i).map (cntV (d' + 1))).sum + cntV (d' + 1) x := sum_take_succ _ es i x hxi
      have hle : ((es.take (i + 1)).map (cntV (d' + 1))).sum ≤ (es.map (cntV (d' + 1))).sum := sum_take_le _ es (i + 1)
      have hcx : cntV (d' + 1) x = 3 + (x.kids.map (cntV d')).sum := rfl
      have hkk := HK.out
      have hkb := HKB.out
      have hkk3 : kk + 3 + (x.kids.map (cntV d')).sum ≤ 1099511627776 := by omega
      have HSUM : Hid (k + ((es.take (i + 1)).map (cntV (d' + 1))).sum = kk + 3 + (x.kids.map (cntV d')).sum) := by show _ = _; omega
      have hki : (i : Int) < (n : Int) := by omega
      have hi0 : (0 : Int) ≤ (i : Int) := by omega
      have hgw : g < wr.heap.size := Nat.lt_of_lt_of_le hgl HB.out.size
      have q2 : ∀ m' : Wd (fun w' => SameOn All wr w' ∧ Below w.heap.size w w'), m'.val.cell? ⟨g, off + i * 4 + 2, none⟩ = some (.string (mtext (kk + 2))) := fun m' => (World.cell?_of_block (m'.ok.1.2 g trivial hgw)).trans a2
      have HA3 : Hid (wr.cell? ⟨g, off + i * 4 + 3, none⟩ = some (.slice pk x.kids.length ck)) := a3
      clear hkids hkl hat hcs hmi hsum hle hcx hkk hkb hcs4 HKB HX hb a3
      go_wp2
      have hCne : Nonempty (Wd (fun w' => SameOn All wr w' ∧ Below w.heap.size w w')) := ⟨⟨wr.drew, ⟨⟨Nat.le_refl _, fun _ _ _ => rfl⟩, HB.out.drew⟩⟩⟩
      refine wp_region_class (fun w' => SameOn All wr w' ∧ Below w.heap.size w w') (by kernel_rfl) (by kernel_rfl) ⟨⟨Nat.le_refl _, fun _ _ _ => rfl⟩, HB.out.drew⟩ ?_
      repeat (go_big_quiet_step (first | (rename_i m'; go_at_call 24; refine (markText_at (kk + 2) _ (by omega) (by omega) (by omega)).mono ?_; rintro e w1 ⟨rfl, hb1⟩; exact ⟨rfl, ⟨⟨w1, ⟨(SameOn.trans m'.ok.1 (SameOn.of_below hb1)), m'.ok.2.trans (hb1.mono m'.ok.2.size)⟩⟩, rfl⟩⟩)))
      refine wpQuiet_nil ?_
      rintro _ ⟨mq, rfl⟩
      have hbe := mq.ok.2
      have hse := mq.ok.1
      generalize mq.val = wq at hbe hse ⊢
      have e3 : wq.cell? ⟨g, off + i * 4 + 3, none⟩ = some (.slice pk x.kids.length ck) := (World.cell?_of_block (hse.2 g trivial hgw)).trans HA3.out
      have HBE : Hid (Below w.heap.size w wq) := hbe
      have E2 := E1 wq hse
      have HE2 : Hid (Rows wq All 4 (HVa wq All d') (.slice pk x.kids.length ck) (markL (markV d') (cntV d') (kk + 3) x.kids)) := E2
      clear q2 hbe E1 E2 hse
      have HKK3 : Hid (kk + 3 + (x.kids.map (cntV d')).sum ≤ 1099511627776) := hkk3
      have hkkb : kk + 3 ≤ 1099511627776 := by omega
      clear hkk3
      go_wp2_with fail
      refine ((ih d' rfl).at x.kids (kk + 3) _ (by omega) HE2.out (by omega) HKK3.out).mono ?_
      rintro e w2 ⟨rfl, hb2⟩
      have HB2 : Hid (Below wq.heap.size wq w2) := hb2
      clear hb2
      have hkz3 := HKK3.out
      generalize hkz : kk + 3 + (x.kids.map (cntV d')).sum = kz at *
      clear hkz
      go_wp2_with fail
      exact ⟨⟨i + 1, kz, by omega, by go_num, rfl, HSUM.out.symm, HBE.out.trans (HB2.out.mono HBE.out.size)⟩, by simp [intOf]; omega⟩
    · obtain rfl : i = n := by omega
      have HE : Hid (kk = k + (es.map (cntV d)).sum) := by
        have := HK.out
        rw [List.take_of_length_le (by rw [HN.out]; exact Nat.le_refl _)] at this
        exact this
      clear hb
      go_wp2_with fail
      go_ret
      exact ⟨by rw [HE.out]; rfl, HB.out⟩

theorem heldS_all : ∀ d, HeldS d
  | 0 => heldS_of (fun d' h => by omega)
  | d + 1 => heldS_of (fun d' h => by obtain rfl : d = d' := by omega
                                      exact heldS_all d)
end Go.Proofs.YtafehfpjogbmfaaDoor
