/-
  Texts of the proof, packed: ExMark, RefMark, FunMark, ModCnt.
-/
import Derived.Test.YtoknolophmhlgaaGreatDoorPackP
import Derived.Test.YtoknolophmhlgaaGreatDoorPackQ
import Derived.Test.YtoknolophmhlgaaGreatDoorPackG
/-
  The laws' markExp and markClause: numbers and texts are written into a tree that owns its memory, and nothing else turns.
-/
namespace Go.Proofs.YtoknolophmhlgaaGreatDoor
open Go.ChangeShapes Go.WideShapes Go.ChangeAt Go.RowKit
set_option linter.unusedVariables false

def mtext (n : Nat) : ByteArray := ⟨(109 :: Lib.decDigits n).toArray⟩
theorem mtext_ok {n : Nat} (h : n ≤ 1099511627776) : okS (mtext n) := by
  have hD : (Lib.decDigits n).length ≤ 13 := mk_length_le 12 n (by omega)
  unfold okS mtext maxLen
  show (109 :: Lib.decDigits n).toArray.size ≤ _
  simp; omega
theorem nat_ok {n : Nat} (h : n ≤ 1099511627776) : okI n := by
  show (Lit.int .i64 (n : Int)).wf = true
  have h1 : (n : Int) ≤ 1099511627776 := by omega
  have h0 : (0 : Int) ≤ n := by omega
  generalize (n : Int) = z at h1 h0
  simp only [Lit.wf, Bool.and_eq_true, decide_eq_true_eq]
  exact ⟨Int.le_trans (by decide) h0, Int.le_trans h1 (by decide)⟩
theorem markText_at {w : World} (n : Nat) (z : Int) (hz : z = n) (h0 : 1 ≤ n) (h1 : n ≤ 1099511627776) :
    Calls Tryz.prog 24 #[.int .i64 z] w fun e w' => e = .returned (.string (mtext n)) ∧ Below w.heap.size w w' := by
  subst hz; exact markText_any n w h0 h1

def cntC (f : Ex → Nat) (c : Cl) : Nat := (c.1.map f).sum + (c.2.map f).sum
def cntE : Nat → Ex → Nat
  | 0, _ => 0
  | d + 1, e => 4 + (e.kids.map (cntE d)).sum + (e.clauses.map (cntC (cntE d))).sum
def markC (m : Nat → Ex → Ex) (f : Ex → Nat) (k : Nat) (c : Cl) : Cl := (markL m f k c.1, markL m f (k + (c.1.map f).sum) c.2)
def markE : Nat → Nat → Ex → Ex
  | 0, _, e => e
  | d + 1, k, e => .mk k (k + 1) (mtext (k + 2)) (mtext (k + 3)) (markL (markE d) (cntE d) (k + 4) e.kids) (markL (markC (markE d) (cntE d)) (cntC (cntE d)) (k + 4 + (e.kids.map (cntE d)).sum) e.clauses)

/-- What markExpS answers and leaves. -/
def MarkES (d : Nat) : Prop :=
  ∀ (w : World) (v : Value) (es : List Ex) (fp : List Nat) (k : Nat), ORows w 73 6 (OEx w d) v es fp → fp.Nodup → 1 ≤ k → k + (es.map (cntE d)).sum ≤ 1099511627776 →
    Calls Tryz.prog 68 #[v, .int .i64 k] w fun e w' => e = .returned (.int .i64 ((k + (es.map (cntE d)).sum : Nat) : Int)) ∧ ORows w' 73 6 (OEx w' d) v (markL (markE d) (cntE d) k es) fp ∧ Off fp w w'
def MarkCS (d : Nat) : Prop :=
  ∀ (w : World) (v : Value) (es : List Cl) (fp : List Nat) (k : Nat), ORows w 45 2 (OCls w d) v es fp → fp.Nodup → 1 ≤ k → k + (es.map (cntC (cntE d))).sum ≤ 1099511627776 →
    Calls Tryz.prog 45 #[v, .int .i64 k] w fun e w' => e = .returned (.int .i64 ((k + (es.map (cntC (cntE d))).sum : Nat) : Int)) ∧ ORows w' 45 2 (OCls w' d) v (markL (markC (markE d) (cntE d)) (cntC (cntE d)) k es) fp ∧ Off fp w w'
theorem MarkES.at {d : Nat} (h : MarkES d) {w : World} {v : Value} (es : List Ex) (fp : List Nat) (k : Nat) (z : Int) (hz : z = k) (ho : ORows w 73 6 (OEx w d) v es fp) (hn : fp.Nodup) (h1 : 1 ≤ k) (hb : k + (es.map (cntE d)).sum ≤ 1099511627776) :
    Calls Tryz.prog 68 #[v, .int .i64 z] w fun e w' => e = .returned (.int .i64 ((k + (es.map (cntE d)).sum : Nat) : Int)) ∧ ORows w' 73 6 (OEx w' d) v (markL (markE d) (cntE d) k es) fp ∧ Off fp w w' := by
  subst hz; exact h w v es fp k ho hn h1 hb
theorem MarkCS.at {d : Nat} (h : MarkCS d) {w : World} {v : Value} (es : List Cl) (fp : List Nat) (k : Nat) (z : Int) (hz : z = k) (ho : ORows w 45 2 (OCls w d) v es fp) (hn : fp.Nodup) (h1 : 1 ≤ k) (hb : k + (es.map (cntC (cntE d))).sum ≤ 1099511627776) :
    Calls Tryz.prog 45 #[v, .int .i64 z] w fun e w' => e = .returned (.int .i64 ((k + (es.map (cntC (cntE d))).sum : Nat) : Int)) ∧ ORows w' 45 2 (OCls w' d) v (markL (markC (markE d) (cntE d)) (cntC (cntE d)) k es) fp ∧ Off fp w w' := by
  subst hz; exact h w v es fp k ho hn h1 hb

set_option maxHeartbeats 16000000 in
theorem MarkCS_of {d : Nat} (ihE : MarkES d) : MarkCS d := by
  intro w v es fp k h hnd hk1 hkb
  obtain ⟨p, cap, rfl, hcl, hcm⟩ := h.shape
  have hnb : es.length ≤ 9223372036854775807 := by unfold maxLen at hcm; omega
  have HL : Hid ((markL (markC (markE d) (cntE d)) (cntC (cntE d)) k es).length = es.length) := markL_length _ _ _ _
  have HO : Hid (ORows w 45 2 (OCls w d) (.slice p es.length cap) es fp) := h
  have HND : Hid fp.Nodup := hnd
  have HKB : Hid (k + (es.map (cntC (cntE d))).sum ≤ 1099511627776) := hkb
  generalize hn : es.length = n at *
  have HN : Hid (es.length = n) := hn
  clear h hnd hn hkb
  go_enter Tryz.func45, Tryz.ntmps45
  go_wp2
  go_loopw [1, 5] (fun kv iv wr => ∃ i kk : Nat, i ≤ n ∧ iv = .int .i64 i ∧ kv = .int .i64 kk ∧ Hid (kk = k + ((es.take i).map (cntC (cntE d))).sum) ∧ Hid (ORows wr 45 2 (OCls wr d) (.slice p n cap) (mix i (markL (markC (markE d) (cntE d)) (cntC (cntE d)) k es) es) fp) ∧ Hid (Off fp w wr)) (fun _ iv _ => n - (intOf iv).toNat)
  case atStart => exact ⟨0, k, Nat.zero_le _, rfl, rfl, (by show k = _; simp), (by show ORows _ _ _ _ _ _ _; rw [mix_zero]; exact HO.out), Off.refl _ _⟩
  case round =>
    obtain ⟨i, kk, hi, rfl, rfl, HK, HR, HF⟩ := hrel
    by_cases hlt : i < n
    · obtain ⟨x, hxi⟩ : ∃ x, es[i]? = some x := ⟨es[i]'(by rw [HN.out]; exact hlt), List.getElem?_eq_getElem _⟩
      have hml : (mix i (markL (markC (markE d) (cntE d)) (cntC (cntE d)) k es) es).length = n := by rw [mix_length (by rw [HL.out, HN.out]), HN.out]
      have hmx : (mix i (markL (markC (markE d) (cntE d)) (cntC (cntE d)) k es) es)[i]? = some x := by rw [mix_at (by rw [HL.out, HN.out]) (by rw [HN.out]; exact hlt)]; exact hxi
      have HMX : Hid ((mix i (markL (markC (markE d) (cntE d)) (cntC (cntE d)) k es) es).length = n) := hml
      rcases HR.out with hnil | ⟨hne, cells, g, cap', fps, ho, hv, hl, hfp, hat⟩
      · rw [hnil.1] at hml; simp at hml; omega
      rw [hml] at ho hv hl
      obtain ⟨f, hf⟩ : ∃ f, fps[i]? = some f := ⟨fps[i]'(by rw [hl]; exact hlt), List.getElem?_eq_getElem _⟩
      obtain ⟨cs, hcs4, hcs, hx⟩ := hat i x f hmx hf
      cases hv
      have hlc : cells.length = n * 2 := ho.1
      have hnp := nodup_parts (hfp ▸ HND.out)
      have hsum : ((es.take (i + 1)).map (cntC (cntE d))).sum = ((es.take i).map (cntC (cntE d))).sum + cntC (cntE d) x := sum_take_succ _ es i x hxi
      have hle : ((es.take (i + 1)).map (cntC (cntE d))).sum ≤ (es.map (cntC (cntE d))).sum := sum_take_le _ es (i + 1)
      have hkk := HK.out
      have hkb := HKB.out
      have hg0 : g ∈ fp := by rw [hfp]; simp
      have hfs : ∀ a ∈ f, a ∈ fp := fun a ha => by rw [hfp]; exact List.mem_cons_of_mem _ (List.mem_flatten.2 ⟨f, List.mem_of_getElem? hf, ha⟩)
      have hgf : g ∉ f := (hnp.1 f (List.mem_of_getElem? hf)).1
      have hfn : f.Nodup := (hnp.1 f (List.mem_of_getElem? hf)).2
      have HMI : Hid ((markL (markC (markE d) (cntE d)) (cntC (cntE d)) k es)[i]? = some ((markC (markE d) (cntE d)) kk x)) := by
        show _ = _
        rw [markL_at _ _ _ _ _ _ hxi, ← HK.out]
      have HAT : Hid (∀ (j : Nat) y f', (mix i (markL (markC (markE d) (cntE d)) (cntC (cntE d)) k es) es)[j]? = some y → fps[j]? = some f' → ∃ cs : List Value, cs.length = 2 ∧ (∀ q, q < 2 → cells[j * 2 + q]? = cs[q]?) ∧ OCls wr d cs y f') := hat
      have HNP : Hid (∀ (i j : Nat) f f', i ≠ j → fps[i]? = some f → fps[j]? = some f' → ∀ a ∈ f, a ∉ f') := hnp.2
      have HNG : Hid (∀ f ∈ fps, g ∉ f ∧ f.Nodup) := hnp.1
      have HFP : Hid (fp = g :: fps.flatten) := hfp
      have HNE : Hid (mix i (markL (markC (markE d) (cntE d)) (cntC (cntE d)) k es) es ≠ []) := hne
      have HFS : Hid ((∀ a ∈ f, a ∈ fp) ∧ g ∈ fp ∧ g ∉ f ∧ f.Nodup) := ⟨hfs, hg0, hgf, hfn⟩
      have hki : (i : Int) < (n : Int) := by omega
      have hi0 : (0 : Int) ≤ (i : Int) := by omega
      clear hat hnp hfp hne hfs hg0 hgf hfn hml hmx HKB HO
      obtain ⟨pv, bv, f1, f2, rfl, rfl, hp, hbd⟩ := hx
      obtain ⟨pp, cp, hpv, _⟩ := hp.shape
      subst hpv
      obtain ⟨pb, cb, hbv, _⟩ := hbd.shape
      subst hbv
      have a0 := (ho.cellAt (i * 2) (by omega)).trans (hcs 0 (by omega))
      have a1 := (ho.cellAt (i * 2 + 1) (by omega)).trans (hcs 1 (by omega))
      simp at a0 a1
      have hcx : cntC (cntE d) x = (x.1.map (cntE d)).sum + (x.2.map (cntE d)).sum := rfl
      have hn12 := List.nodup_append.1 HFS.out.2.2.2
      have HP : Hid (ORows wr 73 6 (OEx wr d) (.slice pp x.1.length cp) x.1 f1) := hp
      have HBD : Hid (ORows wr 73 6 (OEx wr d) (.slice pb x.2.length cb) x.2 f2) := hbd
      have HOW : Hid (wr.ownsRow 0 45 2 (.slice (some ⟨g, 0, none⟩) n cap) n cells) := ho
      have HCS : Hid (∀ (j : Nat), j < 2 → cells[i * 2 + j]? = [Value.slice pp x.1.length cp, .slice pb x.2.length cb][j]?) := hcs
      have HN12 : Hid (∀ a ∈ f1, ∀ b ∈ f2, a ≠ b) := hn12.2.2
      have HSUM : Hid (k + ((es.take (i + 1)).map (cntC (cntE d))).sum = kk + (x.1.map (cntE d)).sum + (x.2.map (cntE d)).sum) := by show _ = _; omega
      have hk1' : kk + (x.1.map (cntE d)).sum ≤ 1099511627776 := by omega
      have hk2' : kk + (x.1.map (cntE d)).sum + (x.2.map (cntE d)).sum ≤ 1099511627776 := by omega
      have hgl : g < wr.heap.size := owns_lt ho rfl
      have HK2 : Hid (kk + (x.1.map (cntE d)).sum + (x.2.map (cntE d)).sum ≤ 1099511627776) := hk2'
      have HK1 : Hid (kk + (x.1.map (cntE d)).sum ≤ 1099511627776) := hk1'
      have hk11 : 1 ≤ kk := by omega
      clear hp hbd ho hcs hcs4 hsum hle hkk hkb hcx hk1' hk2'
      go_wp2_with fail
      refine (ihE.at x.1 f1 kk _ rfl HP.out hn12.1 hk11 HK1.out).mono ?_
      rintro e w1 ⟨rfl, r1, off1⟩
      have a1' : w1.cell? ⟨g, i * 2 + 1, none⟩ = some (.slice pb x.2.length cb) := (World.cell?_of_block (off1.block g hgl (fun hm => HFS.out.2.2.1 (by simp [hm])))).trans a1
      have k2 : KeepOn f2 wr w1 := off1.keep (fun a ha => ⟨HBD.out.lt (fun _ _ _ h => h.lt) a ha, fun hm => HN12.out a hm a ha rfl⟩)
      have HBD1 : Hid (ORows w1 73 6 (OEx w1 d) (.slice pb x.2.length cb) x.2 f2) := HBD.out.keep k2 (fun cs x f _ hs h => h.keep (k2.sub hs))
      have R1 : Hid (ORows w1 73 6 (OEx w1 d) (.slice pp x.1.length cp) (markL (markE d) (cntE d) kk x.1) f1) := r1
      have OF1 : Hid (Off f1 wr w1) := off1
      clear r1 off1 k2 a0 a1
      generalize hk2g : kk + (x.1.map (cntE d)).sum = k2 at *
      have HK2G : Hid (kk + (x.1.map (cntE d)).sum = k2) := hk2g
      have hk21 : 1 ≤ k2 := by omega
      clear hk2g
      go_wp2_with fail
      refine (ihE.at x.2 f2 k2 _ rfl HBD1.out hn12.2.1 hk21 HK2.out).mono ?_
      rintro e w2 ⟨rfl, r2, off2⟩
      have hoff : Off (f1 ++ f2) wr w2 := (OF1.out.sub (fun a ha => by simp [ha])).trans (off2.sub (fun a ha => by simp [ha]))
      have hown : w2.ownsRow 0 45 2 (.slice (some ⟨g, 0, none⟩) n cap) n cells := owns_block HOW.out rfl (hoff.block g hgl HFS.out.2.2.1)
      have k1 : KeepOn f1 w1 w2 := off2.keep (fun a ha => ⟨R1.out.lt (fun _ _ _ h => h.lt) a ha, fun hm => HN12.out a ha a hm rfl⟩)
      have hset := ORows.set (R := OCls wr d) (R' := OCls w2 d) (x' := markC (markE d) (cntE d) kk x) (i := i) (f := f1 ++ f2) HNE.out (by rw [HMX.out]; exact hown) (by rw [HMX.out]) (by rw [HMX.out]; exact hl) HAT.out hf
        (fun m hm => rfl) [.slice pp x.1.length cp, .slice pb x.2.length cb] rfl (fun j hj => HCS.out j hj)
        ⟨_, _, f1, f2, rfl, rfl, R1.out.keep k1 (fun cs x f _ hs h => h.keep (k1.sub hs)), by rw [← HK2G.out] at r2; exact r2⟩
        (fun j y f' cs hj hf' h => OCls.keep h (fun a ha => by
          have h3 := HNP.out j i f' _ hj hf' hf a ha
          exact hoff.block a (OCl.lt' h (fun _ _ _ h => h.lt) a ha) h3))
      rw [mix_succ (by rw [HL.out, HN.out]) HMI.out, ← HFP.out] at hset
      have HSET : Hid (ORows w2 45 2 (OCls w2 d) (.slice (some ⟨g, 0, none⟩) n cap) (mix (i + 1) (markL (markC (markE d) (cntE d)) (cntC (cntE d)) k es) es) fp) := hset
      have HF2 : Hid (Off fp w w2) := HF.out.trans (hoff.sub HFS.out.1)
      clear hset hown r2 off2 hoff k1
      go_wp2_with fail
      exact ⟨⟨i + 1, k2 + (x.2.map (cntE d)).sum, by omega, by go_num, rfl, HSUM.out.symm, HSET, HF2⟩, by simp [intOf]; omega⟩
    · obtain rfl : i = n := by omega
      have HE : Hid (kk = k + (es.map (cntC (cntE d))).sum) := by
        have := HK.out
        rw [List.take_of_length_le (by rw [HN.out]; exact Nat.le_refl _)] at this
        exact this
      have HR2 : Hid (ORows wr 45 2 (OCls wr d) (.slice p i cap) (markL (markC (markE d) (cntE d)) (cntC (cntE d)) k es) fp) := by
        have := HR.out
        rw [mix_all (by rw [HL.out, HN.out]) (by rw [HN.out]; exact Nat.le_refl _)] at this
        exact this
      clear HR HO
      go_wp2_with fail
      go_ret
      exact ⟨by rw [HE.out]; rfl, HR2.out, HF.out⟩

set_option maxHeartbeats 16000000 in
theorem MarkES_of {d : Nat} (ihE : ∀ d', d = d' + 1 → MarkES d') (ihC : ∀ d', d = d' + 1 → MarkCS d') : MarkES d := by
  intro w v es fp k h hnd hk1 hkb
  obtain ⟨p, cap, rfl, hcl, hcm⟩ := h.shape
  have hnb : es.length ≤ 9223372036854775807 := by unfold maxLen at hcm; omega
  have HL : Hid ((markL (markE d) (cntE d) k es).length = es.length) := markL_length _ _ _ _
  have HO : Hid (ORows w 73 6 (OEx w d) (.slice p es.length cap) es fp) := h
  have HND : Hid fp.Nodup := hnd
  have HKB : Hid (k + (es.map (cntE d)).sum ≤ 1099511627776) := hkb
  generalize hn : es.length = n at *
  have HN : Hid (es.length = n) := hn
  clear h hnd hn hkb
  go_enter Tryz.func68, Tryz.ntmps68
  go_wp2
  go_loopw [1, 5] (fun kv iv wr => ∃ i kk : Nat, i ≤ n ∧ iv = .int .i64 i ∧ kv = .int .i64 kk ∧ Hid (kk = k + ((es.take i).map (cntE d)).sum) ∧ Hid (ORows wr 73 6 (OEx wr d) (.slice p n cap) (mix i (markL (markE d) (cntE d) k es) es) fp) ∧ Hid (Off fp w wr)) (fun _ iv _ => n - (intOf iv).toNat)
  case atStart => exact ⟨0, k, Nat.zero_le _, rfl, rfl, (by show k = _; simp), (by show ORows _ _ _ _ _ _ _; rw [mix_zero]; exact HO.out), Off.refl _ _⟩
  case round =>
    obtain ⟨i, kk, hi, rfl, rfl, HK, HR, HF⟩ := hrel
    by_cases hlt : i < n
    · obtain ⟨x, hxi⟩ : ∃ x, es[i]? = some x := ⟨es[i]'(by rw [HN.out]; exact hlt), List.getElem?_eq_getElem _⟩
      have hml : (mix i (markL (markE d) (cntE d) k es) es).length = n := by rw [mix_length (by rw [HL.out, HN.out]), HN.out]
      have hmx : (mix i (markL (markE d) (cntE d) k es) es)[i]? = some x := by rw [mix_at (by rw [HL.out, HN.out]) (by rw [HN.out]; exact hlt)]; exact hxi
      have HMX : Hid ((mix i (markL (markE d) (cntE d) k es) es).length = n) := hml
      rcases HR.out with hnil | ⟨hne, cells, g, cap', fps, ho, hv, hl, hfp, hat⟩
      · rw [hnil.1] at hml; simp at hml; omega
      rw [hml] at ho hv hl
      obtain ⟨f, hf⟩ : ∃ f, fps[i]? = some f := ⟨fps[i]'(by rw [hl]; exact hlt), List.getElem?_eq_getElem _⟩
      obtain ⟨cs, hcs4, hcs, hx⟩ := hat i x f hmx hf
      cases hv
      have hlc : cells.length = n * 6 := ho.1
      have hnp := nodup_parts (hfp ▸ HND.out)
      have hsum : ((es.take (i + 1)).map (cntE d)).sum = ((es.take i).map (cntE d)).sum + cntE d x := sum_take_succ _ es i x hxi
      have hle : ((es.take (i + 1)).map (cntE d)).sum ≤ (es.map (cntE d)).sum := sum_take_le _ es (i + 1)
      have hkk := HK.out
      have hkb := HKB.out
      have hg0 : g ∈ fp := by rw [hfp]; simp
      have hfs : ∀ a ∈ f, a ∈ fp := fun a ha => by rw [hfp]; exact List.mem_cons_of_mem _ (List.mem_flatten.2 ⟨f, List.mem_of_getElem? hf, ha⟩)
      have hgf : g ∉ f := (hnp.1 f (List.mem_of_getElem? hf)).1
      have hfn : f.Nodup := (hnp.1 f (List.mem_of_getElem? hf)).2
      have HMI : Hid ((markL (markE d) (cntE d) k es)[i]? = some ((markE d) kk x)) := by
        show _ = _
        rw [markL_at _ _ _ _ _ _ hxi, ← HK.out]
      have HAT : Hid (∀ (j : Nat) y f', (mix i (markL (markE d) (cntE d) k es) es)[j]? = some y → fps[j]? = some f' → ∃ cs : List Value, cs.length = 6 ∧ (∀ q, q < 6 → cells[j * 6 + q]? = cs[q]?) ∧ OEx wr d cs y f') := hat
      have HNP : Hid (∀ (i j : Nat) f f', i ≠ j → fps[i]? = some f → fps[j]? = some f' → ∀ a ∈ f, a ∉ f') := hnp.2
      have HNG : Hid (∀ f ∈ fps, g ∉ f ∧ f.Nodup) := hnp.1
      have HFP : Hid (fp = g :: fps.flatten) := hfp
      have HNE : Hid (mix i (markL (markE d) (cntE d) k es) es ≠ []) := hne
      have HFS : Hid ((∀ a ∈ f, a ∈ fp) ∧ g ∈ fp ∧ g ∉ f ∧ f.Nodup) := ⟨hfs, hg0, hgf, hfn⟩
      have hki : (i : Int) < (n : Int) := by omega
      have hi0 : (0 : Int) ≤ (i : Int) := by omega
      clear hat hnp hfp hne hfs hg0 hgf hfn hml hmx HKB HO
      cases d with
      | zero => exact hx.elim
      | succ d' =>
      obtain ⟨kv, cv, f1, f2, rfl, rfl, _, _, _, _, hkids, hcl'⟩ := hx
      obtain ⟨pk, ck, hkv, _⟩ := hkids.shape
      subst hkv
      obtain ⟨pc, cc, hcv, _⟩ := hcl'.shape
      subst hcv
      have a0 := (ho.cellAt (i * 6) (by omega)).trans (hcs 0 (by omega))
      have a1 := (ho.cellAt (i * 6 + 1) (by omega)).trans (hcs 1 (by omega))
      simp at a0 a1
      have z0 := ho.frozenAt (i * 6)
      have z1 := ho.frozenAt (i * 6 + 1)
      have s0 := ho.stored (i * 6) (.int .i64 kk)
      have s1 := s0.1.stored (i * 6 + 1) (.int .i64 ((kk : Int) + 1))
      have hcx : cntE (d' + 1) x = 4 + (x.kids.map (cntE d')).sum + (x.clauses.map (cntC (cntE d'))).sum := rfl
      have hn12 := List.nodup_append.1 HFS.out.2.2.2
      have HKD : Hid (ORows wr 73 6 (OEx wr d') (.slice pk x.kids.length ck) x.kids f1) := hkids
      have HCL : Hid (ORows wr 45 2 (OCls wr d') (.slice pc x.clauses.length cc) x.clauses f2) := hcl'
      have HS1 : Hid (((wr.setCell ⟨g, i * 6, none⟩ (.int .i64 kk)).setCell ⟨g, i * 6 + 1, none⟩ (.int .i64 ((kk : Int) + 1))).ownsRow 0 73 6 (.slice (some ⟨g, 0, none⟩) n cap) n ((cells.set (i * 6) (.int .i64 kk)).set (i * 6 + 1) (.int .i64 ((kk : Int) + 1)))) := s1.1
      have HG1 : Hid (wr.grownBy ((wr.setCell ⟨g, i * 6, none⟩ (.int .i64 kk)).setCell ⟨g, i * 6 + 1, none⟩ (.int .i64 ((kk : Int) + 1))) (some g)) := grownBy_transR s0.2 s1.2
      have HCS : Hid (∀ (j : Nat), j < 6 → cells[i * 6 + j]? = [Value.int .i64 x.kind, .int .i64 x.n, .string x.text, .string x.mod, .slice pk x.kids.length ck, .slice pc x.clauses.length cc][j]?) := hcs
      have HN12 : Hid (∀ a ∈ f1, ∀ b ∈ f2, a ≠ b) := hn12.2.2
      have HSUM : Hid (k + ((es.take (i + 1)).map (cntE (d' + 1))).sum = kk + 4 + (x.kids.map (cntE d')).sum + (x.clauses.map (cntC (cntE d'))).sum) := by show _ = _; omega
      have HK1 : Hid (kk + 4 + (x.kids.map (cntE d')).sum ≤ 1099511627776) := by show _ ≤ _; omega
      have HK2 : Hid (kk + 4 + (x.kids.map (cntE d')).sum + (x.clauses.map (cntC (cntE d'))).sum ≤ 1099511627776) := by show _ ≤ _; omega
      have hkk4 : kk + 4 ≤ 1099511627776 := by omega
      have hgl : g < wr.heap.size := owns_lt ho rfl
      have hk11 : 1 ≤ kk := by omega
      clear s0 s1 hkids hcl' ho hcs hcs4 hsum hle hkk hkb hcx
      go_wp2_with fail
      refine (markText_at (kk + 2) _ (by omega) (by omega) (by omega)).mono ?_
      rintro e w1 ⟨rfl, hb⟩
      have o2 := HS1.out.kept (grownBy_belowR (r := none) hb) (Or.inr (by simp [Value.ownBlock]))
      have e2 : w1.cell? ⟨g, i * 6 + 2, none⟩ = some (.string x.text) := by
        rw [o2.cellAt (i * 6 + 2) (by omega), List.getElem?_set_ne (by omega), List.getElem?_set_ne (by omega)]; exact HCS.out 2 (by omega)
      have z2 := o2.frozenAt (i * 6 + 2)
      have s3 := o2.stored (i * 6 + 2) (.string (mtext (kk + 2)))
      have HS3 : Hid ((w1.setCell ⟨g, i * 6 + 2, none⟩ (.string (mtext (kk + 2)))).ownsRow 0 73 6 (.slice (some ⟨g, 0, none⟩) n cap) n (((cells.set (i * 6) (.int .i64 kk)).set (i * 6 + 1) (.int .i64 ((kk : Int) + 1))).set (i * 6 + 2) (.string (mtext (kk + 2))))) := s3.1
      have HG3 : Hid (w1.grownBy (w1.setCell ⟨g, i * 6 + 2, none⟩ (.string (mtext (kk + 2)))) (some g)) := s3.2
      have HB1 : Hid (Below ((wr.setCell ⟨g, i * 6, none⟩ (.int .i64 kk)).setCell ⟨g, i * 6 + 1, none⟩ (.int .i64 ((kk : Int) + 1))).heap.size ((wr.setCell ⟨g, i * 6, none⟩ (.int .i64 kk)).setCell ⟨g, i * 6 + 1, none⟩ (.int .i64 ((kk : Int) + 1))) w1) := hb
      clear o2 s3 hb a0 a1 z0 z1
      go_wp2_with fail
      refine (markText_at (kk + 3) _ (by omega) (by omega) (by omega)).mono ?_
      rintro e w2 ⟨rfl, hb⟩
      have o3 := HS3.out.kept (grownBy_belowR (r := none) hb) (Or.inr (by simp [Value.ownBlock]))
      have e3 : w2.cell? ⟨g, i * 6 + 3, none⟩ = some (.string x.mod) := by
        rw [o3.cellAt (i * 6 + 3) (by omega), List.getElem?_set_ne (by omega), List.getElem?_set_ne (by omega), List.getElem?_set_ne (by omega)]; exact HCS.out 3 (by omega)
      have z3 := o3.frozenAt (i * 6 + 3)
      have s4 := o3.stored (i * 6 + 3) (.string (mtext (kk + 3)))
      have e4 : (w2.setCell ⟨g, i * 6 + 3, none⟩ (.string (mtext (kk + 3)))).cell? ⟨g, i * 6 + 4, none⟩ = some (.slice pk x.kids.length ck) := by
        rw [s4.1.cellAt (i * 6 + 4) (by omega), List.getElem?_set_ne (by omega), List.getElem?_set_ne (by omega), List.getElem?_set_ne (by omega), List.getElem?_set_ne (by omega)]; exact HCS.out 4 (by omega)
      have HS4 : Hid ((w2.setCell ⟨g, i * 6 + 3, none⟩ (.string (mtext (kk + 3)))).ownsRow 0 73 6 (.slice (some ⟨g, 0, none⟩) n cap) n ((((cells.set (i * 6) (.int .i64 kk)).set (i * 6 + 1) (.int .i64 ((kk : Int) + 1))).set (i * 6 + 2) (.string (mtext (kk + 2)))).set (i * 6 + 3) (.string (mtext (kk + 3))))) := s4.1
      have HG4 : Hid (w2.grownBy (w2.setCell ⟨g, i * 6 + 3, none⟩ (.string (mtext (kk + 3)))) (some g)) := s4.2
      have HB2 : Hid (Below (w1.setCell ⟨g, i * 6 + 2, none⟩ (.string (mtext (kk + 2)))).heap.size (w1.setCell ⟨g, i * 6 + 2, none⟩ (.string (mtext (kk + 2)))) w2) := hb
      clear o3 s4 hb e2 z2
      go_wp2_with fail
      have hoff : Off [g] wr (w2.setCell ⟨g, i * 6 + 3, none⟩ (.string (mtext (kk + 3)))) := (Off.of_grown HG1.out (by simp)).trans ((Off.of_below HB1.out).trans ((Off.of_grown HG3.out (by simp)).trans ((Off.of_below HB2.out).trans (Off.of_grown HG4.out (by simp)))))
      have hkeep : ∀ f', g ∉ f' → (∀ a ∈ f', a < wr.heap.size) → KeepOn f' wr (w2.setCell ⟨g, i * 6 + 3, none⟩ (.string (mtext (kk + 3)))) := fun f' h1 h2 => hoff.keep (fun a ha => ⟨h2 a ha, fun hm => h1 (by rw [List.mem_singleton] at hm; exact hm ▸ ha)⟩)
      have hk1 := hkeep f1 (fun h => HFS.out.2.2.1 (by simp [h])) (HKD.out.lt (fun _ _ _ h => h.lt))
      have hk2 := hkeep f2 (fun h => HFS.out.2.2.1 (by simp [h])) (HCL.out.lt (fun _ _ _ h => OCl.lt' h (fun _ _ _ h => h.lt)))
      refine ((ihE d' rfl).at x.kids f1 (kk + 4) _ (by omega) (HKD.out.keep hk1 (fun cs x f' _ hs h => h.keep (hk1.sub hs))) hn12.1 (by omega) HK1.out).mono ?_
      rintro e w3 ⟨rfl, r3, off3⟩
      have HOFF : Hid (Off [g] wr (w2.setCell ⟨g, i * 6 + 3, none⟩ (.string (mtext (kk + 3))))) := hoff
      have HKP : Hid (∀ f', g ∉ f' → (∀ a ∈ f', a < wr.heap.size) → KeepOn f' wr (w2.setCell ⟨g, i * 6 + 3, none⟩ (.string (mtext (kk + 3))))) := hkeep
      have hgl3 : g < (w2.setCell ⟨g, i * 6 + 3, none⟩ (.string (mtext (kk + 3)))).heap.size := owns_lt HS4.out rfl
      have hgf1 : g ∉ f1 := fun h => HFS.out.2.2.1 (by simp [h])
      have hown3 : w3.ownsRow 0 73 6 (.slice (some ⟨g, 0, none⟩) n cap) n ((((cells.set (i * 6) (.int .i64 kk)).set (i * 6 + 1) (.int .i64 ((kk : Int) + 1))).set (i * 6 + 2) (.string (mtext (kk + 2)))).set (i * 6 + 3) (.string (mtext (kk + 3)))) := owns_block HS4.out rfl (off3.block g hgl3 hgf1)
      have e5 : w3.cell? ⟨g, i * 6 + 5, none⟩ = some (.slice pc x.clauses.length cc) := by
        rw [hown3.cellAt (i * 6 + 5) (by omega), List.getElem?_set_ne (by omega), List.getElem?_set_ne (by omega), List.getElem?_set_ne (by omega), List.getElem?_set_ne (by omega)]; exact HCS.out 5 (by omega)
      have k23 : KeepOn f2 (w2.setCell ⟨g, i * 6 + 3, none⟩ (.string (mtext (kk + 3)))) w3 := off3.keep (fun a ha => ⟨Nat.lt_of_lt_of_le (HCL.out.lt (fun _ _ _ h => OCl.lt' h (fun _ _ _ h => h.lt)) a ha) hoff.size, fun hm => HN12.out a hm a ha rfl⟩)
      have HCL3 : Hid (ORows w3 45 2 (OCls w3 d') (.slice pc x.clauses.length cc) x.clauses f2) := (HCL.out.keep hk2 (fun cs x f' _ hs h => OCls.keep h (hk2.sub hs))).keep k23 (fun cs x f' _ hs h => OCls.keep h (k23.sub hs))
      have R3 : Hid (ORows w3 73 6 (OEx w3 d') (.slice pk x.kids.length ck) (markL (markE d') (cntE d') (kk + 4) x.kids) f1) := r3
      have OF3 : Hid (Off f1 (w2.setCell ⟨g, i * 6 + 3, none⟩ (.string (mtext (kk + 3)))) w3) := off3
      have HOW3 : Hid (w3.ownsRow 0 73 6 (.slice (some ⟨g, 0, none⟩) n cap) n ((((cells.set (i * 6) (.int .i64 kk)).set (i * 6 + 1) (.int .i64 ((kk : Int) + 1))).set (i * 6 + 2) (.string (mtext (kk + 2)))).set (i * 6 + 3) (.string (mtext (kk + 3))))) := hown3
      clear r3 off3 k23 hown3 hk1 hk2 hoff hkeep e3 e4 z3 hgl3
      generalize hk2g : kk + 4 + (x.kids.map (cntE d')).sum = k2 at *
      have HK2G : Hid (kk + 4 + (x.kids.map (cntE d')).sum = k2) := hk2g
      have hk21 : 1 ≤ k2 := by omega
      clear hk2g
      go_wp2_with fail
      refine ((ihC d' rfl).at x.clauses f2 k2 _ rfl HCL3.out hn12.2.1 hk21 HK2.out).mono ?_
      rintro e w4 ⟨rfl, r4, off4⟩
      have hgf2 : g ∉ f2 := fun h => HFS.out.2.2.1 (by simp [h])
      have hown : w4.ownsRow 0 73 6 (.slice (some ⟨g, 0, none⟩) n cap) n ((((cells.set (i * 6) (.int .i64 kk)).set (i * 6 + 1) (.int .i64 ((kk : Int) + 1))).set (i * 6 + 2) (.string (mtext (kk + 2)))).set (i * 6 + 3) (.string (mtext (kk + 3)))) := owns_block HOW3.out rfl (off4.block g (owns_lt HOW3.out rfl) hgf2)
      have k34 : KeepOn f1 w3 w4 := off4.keep (fun a ha => ⟨R3.out.lt (fun _ _ _ h => h.lt) a ha, fun hm => HN12.out a ha a hm rfl⟩)
      have hoff2 : Off (f1 ++ f2) (w2.setCell ⟨g, i * 6 + 3, none⟩ (.string (mtext (kk + 3)))) w4 := (OF3.out.sub (fun a ha => by simp [ha])).trans (off4.sub (fun a ha => by simp [ha]))
      have hset := ORows.set (R := OEx wr (d' + 1)) (R' := OEx w4 (d' + 1)) (x' := markE (d' + 1) kk x) (i := i) (f := f1 ++ f2) HNE.out (by rw [HMX.out]; exact hown) (by rw [HMX.out]) (by rw [HMX.out]; exact hl) HAT.out hf
        (fun m hm => by rw [List.getElem?_set_ne (by omega), List.getElem?_set_ne (by omega), List.getElem?_set_ne (by omega), List.getElem?_set_ne (by omega)])
        [.int .i64 kk, .int .i64 ((kk : Int) + 1), .string (mtext (kk + 2)), .string (mtext (kk + 3)), .slice pk x.kids.length ck, .slice pc x.clauses.length cc] rfl
        (fun j hj => by
          match j, hj with
          | 0, _ => rw [List.getElem?_set_ne (by omega), List.getElem?_set_ne (by omega), List.getElem?_set_ne (by omega)]; exact List.getElem?_set_self (by omega)
          | 1, _ => rw [List.getElem?_set_ne (by omega), List.getElem?_set_ne (by omega), List.getElem?_set_self (by rw [List.length_set]; omega)]; rfl
          | 2, _ => rw [List.getElem?_set_ne (by omega), List.getElem?_set_self (by rw [List.length_set, List.length_set]; omega)]; rfl
          | 3, _ => rw [List.getElem?_set_self (by rw [List.length_set, List.length_set, List.length_set]; omega)]; rfl
          | 4, _ => rw [List.getElem?_set_ne (by omega), List.getElem?_set_ne (by omega), List.getElem?_set_ne (by omega), List.getElem?_set_ne (by omega)]; exact HCS.out 4 (by omega)
          | 5, _ => rw [List.getElem?_set_ne (by omega), List.getElem?_set_ne (by omega), List.getElem?_set_ne (by omega), List.getElem?_set_ne (by omega)]; exact HCS.out 5 (by omega))
        ⟨_, _, f1, f2, rfl, rfl, nat_ok (by omega), nat_ok (n := kk + 1) (by omega), mtext_ok (by omega), mtext_ok (by omega), R3.out.keep k34 (fun cs x f _ hs h => h.keep (k34.sub hs)), by rw [← HK2G.out] at r4; exact r4⟩
        (fun j y f' cs hj hf' h => h.keep (fun a ha => by
          have h1 := (HNG.out f' (List.mem_of_getElem? hf')).1
          have h2 := h.lt a ha
          have h3 := HNP.out j i f' _ hj hf' hf a ha
          exact (hoff2.block a (Nat.lt_of_lt_of_le h2 HOFF.out.size) h3).trans (HKP.out f' h1 h.lt a ha)))
      rw [mix_succ (by rw [HL.out, HN.out]) HMI.out, ← HFP.out] at hset
      have HSET : Hid (ORows w4 73 6 (OEx w4 (d' + 1)) (.slice (some ⟨g, 0, none⟩) n cap) (mix (i + 1) (markL (markE (d' + 1)) (cntE (d' + 1)) k es) es) fp) := hset
      have HF2 : Hid (Off fp w w4) := HF.out.trans ((HOFF.out.sub (fun a ha => by rw [List.mem_singleton] at ha; exact ha ▸ HFS.out.2.1)).trans (hoff2.sub HFS.out.1))
      clear hset hown r4 off4 hoff2 k34
      go_wp2_with fail
      exact ⟨⟨i + 1, k2 + (x.clauses.map (cntC (cntE d'))).sum, by omega, by go_num, rfl, HSUM.out.symm, HSET, HF2⟩, by simp [intOf]; omega⟩
    · obtain rfl : i = n := by omega
      have HE : Hid (kk = k + (es.map (cntE d)).sum) := by
        have := HK.out
        rw [List.take_of_length_le (by rw [HN.out]; exact Nat.le_refl _)] at this
        exact this
      have HR2 : Hid (ORows wr 73 6 (OEx wr d) (.slice p i cap) (markL (markE d) (cntE d) k es) fp) := by
        have := HR.out
        rw [mix_all (by rw [HL.out, HN.out]) (by rw [HN.out]; exact Nat.le_refl _)] at this
        exact this
      clear HR HO
      go_wp2_with fail
      go_ret
      exact ⟨by rw [HE.out]; rfl, HR2.out, HF.out⟩

theorem markES_all : ∀ d, MarkES d
  | 0 => MarkES_of (fun d' h => by omega) (fun d' h => by omega)
  | d + 1 => MarkES_of (fun d' h => by (obtain rfl : d = d' := by omega); exact markES_all d) (fun d' h => by (obtain rfl : d = d' := by omega); exact MarkCS_of (markES_all d))
theorem markCS_all (d : Nat) : MarkCS d := MarkCS_of (markES_all d)
end Go.Proofs.YtoknolophmhlgaaGreatDoor
/-
  The laws' markRefS over rows of names with their numbers.
-/
namespace Go.Proofs.YtoknolophmhlgaaGreatDoor
open Go.ChangeShapes Go.WideShapes Go.ChangeAt Go.RowKit
set_option linter.unusedVariables false

def cntR (_ : Rf) : Nat := 2
def markR (k : Nat) (_ : Rf) : Rf := ⟨mtext k, ((k : Int) + 1)⟩
/-- What markRefS answers and leaves. -/
def MarkRS (d : Nat) : Prop :=
  ∀ (w : World) (v : Value) (es : List Rf) (fp : List Nat) (k : Nat), ORows w 88 2 (ORf w d) v es fp → fp.Nodup → 1 ≤ k → k + (es.map cntR).sum ≤ 1099511627776 →
    Calls Tryz.prog 25 #[v, .int .i64 k] w fun e w' => e = .returned (.int .i64 ((k + (es.map cntR).sum : Nat) : Int)) ∧ ORows w' 88 2 (ORf w' d) v (markL markR cntR k es) fp ∧ Off fp w w'

set_option maxHeartbeats 16000000 in
theorem MarkRS_of {d : Nat}  : MarkRS d := by
  intro w v es fp k h hnd hk1 hkb
  obtain ⟨p, cap, rfl, hcl, hcm⟩ := h.shape
  have hnb : es.length ≤ 9223372036854775807 := by unfold maxLen at hcm; omega
  have HL : Hid ((markL (markR) (cntR) k es).length = es.length) := markL_length _ _ _ _
  have HO : Hid (ORows w 88 2 (ORf w d) (.slice p es.length cap) es fp) := h
  have HND : Hid fp.Nodup := hnd
  have HKB : Hid (k + (es.map (cntR)).sum ≤ 1099511627776) := hkb
  generalize hn : es.length = n at *
  have HN : Hid (es.length = n) := hn
  clear h hnd hn hkb
  go_enter Tryz.func25, Tryz.ntmps25
  go_wp2
  go_loopw [1, 5] (fun kv iv wr => ∃ i kk : Nat, i ≤ n ∧ iv = .int .i64 i ∧ kv = .int .i64 kk ∧ Hid (kk = k + ((es.take i).map (cntR)).sum) ∧ Hid (ORows wr 88 2 (ORf wr d) (.slice p n cap) (mix i (markL (markR) (cntR) k es) es) fp) ∧ Hid (Off fp w wr)) (fun _ iv _ => n - (intOf iv).toNat)
  case atStart => exact ⟨0, k, Nat.zero_le _, rfl, rfl, (by show k = _; simp), (by show ORows _ _ _ _ _ _ _; rw [mix_zero]; exact HO.out), Off.refl _ _⟩
  case round =>
    obtain ⟨i, kk, hi, rfl, rfl, HK, HR, HF⟩ := hrel
    by_cases hlt : i < n
    · obtain ⟨x, hxi⟩ : ∃ x, es[i]? = some x := ⟨es[i]'(by rw [HN.out]; exact hlt), List.getElem?_eq_getElem _⟩
      have hml : (mix i (markL (markR) (cntR) k es) es).length = n := by rw [mix_length (by rw [HL.out, HN.out]), HN.out]
      have hmx : (mix i (markL (markR) (cntR) k es) es)[i]? = some x := by rw [mix_at (by rw [HL.out, HN.out]) (by rw [HN.out]; exact hlt)]; exact hxi
      have HMX : Hid ((mix i (markL (markR) (cntR) k es) es).length = n) := hml
      rcases HR.out with hnil | ⟨hne, cells, g, cap', fps, ho, hv, hl, hfp, hat⟩
      · rw [hnil.1] at hml; simp at hml; omega
      rw [hml] at ho hv hl
      obtain ⟨f, hf⟩ : ∃ f, fps[i]? = some f := ⟨fps[i]'(by rw [hl]; exact hlt), List.getElem?_eq_getElem _⟩
      obtain ⟨cs, hcs4, hcs, hx⟩ := hat i x f hmx hf
      cases hv
      have hlc : cells.length = n * 2 := ho.1
      have hnp := nodup_parts (hfp ▸ HND.out)
      have hsum : ((es.take (i + 1)).map (cntR)).sum = ((es.take i).map (cntR)).sum + cntR x := sum_take_succ _ es i x hxi
      have hle : ((es.take (i + 1)).map (cntR)).sum ≤ (es.map (cntR)).sum := sum_take_le _ es (i + 1)
      have hkk := HK.out
      have hkb := HKB.out
      have hg0 : g ∈ fp := by rw [hfp]; simp
      have hfs : ∀ a ∈ f, a ∈ fp := fun a ha => by rw [hfp]; exact List.mem_cons_of_mem _ (List.mem_flatten.2 ⟨f, List.mem_of_getElem? hf, ha⟩)
      have hgf : g ∉ f := (hnp.1 f (List.mem_of_getElem? hf)).1
      have hfn : f.Nodup := (hnp.1 f (List.mem_of_getElem? hf)).2
      have HMI : Hid ((markL (markR) (cntR) k es)[i]? = some ((markR) kk x)) := by
        show _ = _
        rw [markL_at _ _ _ _ _ _ hxi, ← HK.out]
      have HAT : Hid (∀ (j : Nat) y f', (mix i (markL (markR) (cntR) k es) es)[j]? = some y → fps[j]? = some f' → ∃ cs : List Value, cs.length = 2 ∧ (∀ q, q < 2 → cells[j * 2 + q]? = cs[q]?) ∧ ORf wr d cs y f') := hat
      have HNP : Hid (∀ (i j : Nat) f f', i ≠ j → fps[i]? = some f → fps[j]? = some f' → ∀ a ∈ f, a ∉ f') := hnp.2
      have HNG : Hid (∀ f ∈ fps, g ∉ f ∧ f.Nodup) := hnp.1
      have HFP : Hid (fp = g :: fps.flatten) := hfp
      have HNE : Hid (mix i (markL (markR) (cntR) k es) es ≠ []) := hne
      have HFS : Hid ((∀ a ∈ f, a ∈ fp) ∧ g ∈ fp ∧ g ∉ f ∧ f.Nodup) := ⟨hfs, hg0, hgf, hfn⟩
      have hki : (i : Int) < (n : Int) := by omega
      have hi0 : (0 : Int) ≤ (i : Int) := by omega
      clear hat hnp hfp hne hfs hg0 hgf hfn hml hmx HKB HO
      obtain ⟨⟨rfl, hrs, hri⟩, rfl⟩ := hx
      have HCS : Hid (∀ (j : Nat), j < 2 → cells[i * 2 + j]? = [Value.string x.name, .int .i64 x.arity][j]?) := hcs
      have HOW : Hid (wr.ownsRow 0 88 2 (.slice (some ⟨g, 0, none⟩) n cap) n cells) := ho
      have hcx : cntR x = 2 := rfl
      have HSUM : Hid (k + ((es.take (i + 1)).map cntR).sum = kk + 2) := by show _ = _; omega
      have hkk2 : kk + 2 ≤ 1099511627776 := by omega
      have hgl : g < wr.heap.size := owns_lt ho rfl
      have hk11 : 1 ≤ kk := by omega
      clear ho hcs hcs4 hsum hle hkk hkb hcx
      go_wp2_with fail
      refine (markText_at kk _ rfl (by omega) (by omega)).mono ?_
      rintro e w1 ⟨rfl, hb⟩
      have o1 := HOW.out.kept (grownBy_belowR (r := none) hb) (Or.inr (by simp [Value.ownBlock]))
      have e0 : w1.cell? ⟨g, i * 2, none⟩ = some (.string x.name) := by
        rw [o1.cellAt (i * 2) (by omega)]; exact HCS.out 0 (by omega)
      have z0 := o1.frozenAt (i * 2)
      have s1 := o1.stored (i * 2) (.string (mtext kk))
      have e1 : (w1.setCell ⟨g, i * 2, none⟩ (.string (mtext kk))).cell? ⟨g, i * 2 + 1, none⟩ = some (.int .i64 x.arity) := by
        rw [s1.1.cellAt (i * 2 + 1) (by omega), List.getElem?_set_ne (by omega)]; exact HCS.out 1 (by omega)
      have z1 := s1.1.frozenAt (i * 2 + 1)
      have s2 := s1.1.stored (i * 2 + 1) (.int .i64 ((kk : Int) + 1))
      have hoff : Off [g] wr ((w1.setCell ⟨g, i * 2, none⟩ (.string (mtext kk))).setCell ⟨g, i * 2 + 1, none⟩ (.int .i64 ((kk : Int) + 1))) := (Off.of_below hb).trans ((Off.of_grown s1.2 (by simp)).trans (Off.of_grown s2.2 (by simp)))
      have hset := ORows.set (R := ORf wr d) (R' := ORf ((w1.setCell ⟨g, i * 2, none⟩ (.string (mtext kk))).setCell ⟨g, i * 2 + 1, none⟩ (.int .i64 ((kk : Int) + 1))) d) (x' := markR kk x) (i := i) (f := []) HNE.out (by rw [HMX.out]; exact s2.1) (by rw [HMX.out]) (by rw [HMX.out]; exact hl) HAT.out hf
        (fun m hm => by rw [List.getElem?_set_ne (by omega), List.getElem?_set_ne (by omega)])
        [.string (mtext kk), .int .i64 ((kk : Int) + 1)] rfl
        (fun j hj => by
          match j, hj with
          | 0, _ => rw [List.getElem?_set_ne (by omega)]; exact List.getElem?_set_self (by omega)
          | 1, _ => rw [List.getElem?_set_self (by rw [List.length_set]; omega)]; rfl)
        ⟨⟨rfl, mtext_ok (by omega), nat_ok (n := kk + 1) (by omega)⟩, rfl⟩
        (fun j y f' cs hj hf' h => h)
      rw [mix_succ (by rw [HL.out, HN.out]) HMI.out, ← HFP.out] at hset
      have HSET : Hid (ORows ((w1.setCell ⟨g, i * 2, none⟩ (.string (mtext kk))).setCell ⟨g, i * 2 + 1, none⟩ (.int .i64 ((kk : Int) + 1))) 88 2 (ORf ((w1.setCell ⟨g, i * 2, none⟩ (.string (mtext kk))).setCell ⟨g, i * 2 + 1, none⟩ (.int .i64 ((kk : Int) + 1))) d) (.slice (some ⟨g, 0, none⟩) n cap) (mix (i + 1) (markL markR cntR k es) es) fp) := hset
      have HF2 : Hid (Off fp w ((w1.setCell ⟨g, i * 2, none⟩ (.string (mtext kk))).setCell ⟨g, i * 2 + 1, none⟩ (.int .i64 ((kk : Int) + 1)))) := HF.out.trans (hoff.sub (fun a ha => by rw [List.mem_singleton] at ha; exact ha ▸ HFS.out.2.1))
      clear hset s1 s2 o1 hoff hb
      go_wp2_with fail
      exact ⟨⟨i + 1, kk + 2, by omega, by go_num, by go_num, HSUM.out.symm, HSET, HF2⟩, by simp [intOf]; omega⟩
    · obtain rfl : i = n := by omega
      have HE : Hid (kk = k + (es.map (cntR)).sum) := by
        have := HK.out
        rw [List.take_of_length_le (by rw [HN.out]; exact Nat.le_refl _)] at this
        exact this
      have HR2 : Hid (ORows wr 88 2 (ORf wr d) (.slice p i cap) (markL (markR) (cntR) k es) fp) := by
        have := HR.out
        rw [mix_all (by rw [HL.out, HN.out]) (by rw [HN.out]; exact Nat.le_refl _)] at this
        exact this
      clear HR HO
      go_wp2_with fail
      go_ret
      exact ⟨by rw [HE.out]; rfl, HR2.out, HF.out⟩

theorem markRS_all (d : Nat) : MarkRS d := MarkRS_of
theorem MarkRS.at {d : Nat} (h : MarkRS d) {w : World} {v : Value} (es : List Rf) (fp : List Nat) (k : Nat) (z : Int) (hz : z = k) (ho : ORows w 88 2 (ORf w d) v es fp) (hn : fp.Nodup) (h1 : 1 ≤ k) (hb : k + (es.map cntR).sum ≤ 1099511627776) :
    Calls Tryz.prog 25 #[v, .int .i64 z] w fun e w' => e = .returned (.int .i64 ((k + (es.map cntR).sum : Nat) : Int)) ∧ ORows w' 88 2 (ORf w' d) v (markL markR cntR k es) fp ∧ Off fp w w' := by
  subst hz; exact h w v es fp k ho hn h1 hb
end Go.Proofs.YtoknolophmhlgaaGreatDoor
/-
  The laws' markFunS over trees that own their memory.
-/
namespace Go.Proofs.YtoknolophmhlgaaGreatDoor
open Go.ChangeShapes Go.WideShapes Go.ChangeAt Go.RowKit
set_option linter.unusedVariables false

def cntF (d : Nat) (f : Fn') : Nat := 2 + (f.clauses.map (cntC (cntE d))).sum
def markF (d : Nat) (k : Nat) (f : Fn') : Fn' := ⟨mtext k, ((k : Int) + 1), markL (markC (markE d) (cntE d)) (cntC (cntE d)) (k + 2) f.clauses⟩
/-- What markFunS answers and leaves. -/
def MarkFS (d : Nat) : Prop :=
  ∀ (w : World) (v : Value) (es : List Fn') (fp : List Nat) (k : Nat), ORows w 68 3 (OFn w d) v es fp → fp.Nodup → 1 ≤ k → k + (es.map (cntF d)).sum ≤ 1099511627776 →
    Calls Tryz.prog 26 #[v, .int .i64 k] w fun e w' => e = .returned (.int .i64 ((k + (es.map (cntF d)).sum : Nat) : Int)) ∧ ORows w' 68 3 (OFn w' d) v (markL (markF d) (cntF d) k es) fp ∧ Off fp w w'
theorem MarkFS.at {d : Nat} (h : MarkFS d) {w : World} {v : Value} (es : List Fn') (fp : List Nat) (k : Nat) (z : Int) (hz : z = k) (ho : ORows w 68 3 (OFn w d) v es fp) (hn : fp.Nodup) (h1 : 1 ≤ k) (hb : k + (es.map (cntF d)).sum ≤ 1099511627776) :
    Calls Tryz.prog 26 #[v, .int .i64 z] w fun e w' => e = .returned (.int .i64 ((k + (es.map (cntF d)).sum : Nat) : Int)) ∧ ORows w' 68 3 (OFn w' d) v (markL (markF d) (cntF d) k es) fp ∧ Off fp w w' := by
  subst hz; exact h w v es fp k ho hn h1 hb

set_option maxHeartbeats 16000000 in
theorem MarkFS_of {d : Nat} (ihC : MarkCS d) : MarkFS d := by
  intro w v es fp k h hnd hk1 hkb
  obtain ⟨p, cap, rfl, hcl, hcm⟩ := h.shape
  have hnb : es.length ≤ 9223372036854775807 := by unfold maxLen at hcm; omega
  have HL : Hid ((markL (markF d) (cntF d) k es).length = es.length) := markL_length _ _ _ _
  have HO : Hid (ORows w 68 3 (OFn w d) (.slice p es.length cap) es fp) := h
  have HND : Hid fp.Nodup := hnd
  have HKB : Hid (k + (es.map (cntF d)).sum ≤ 1099511627776) := hkb
  generalize hn : es.length = n at *
  have HN : Hid (es.length = n) := hn
  clear h hnd hn hkb
  go_enter Tryz.func26, Tryz.ntmps26
  go_wp2
  go_loopw [1, 5] (fun kv iv wr => ∃ i kk : Nat, i ≤ n ∧ iv = .int .i64 i ∧ kv = .int .i64 kk ∧ Hid (kk = k + ((es.take i).map (cntF d)).sum) ∧ Hid (ORows wr 68 3 (OFn wr d) (.slice p n cap) (mix i (markL (markF d) (cntF d) k es) es) fp) ∧ Hid (Off fp w wr)) (fun _ iv _ => n - (intOf iv).toNat)
  case atStart => exact ⟨0, k, Nat.zero_le _, rfl, rfl, (by show k = _; simp), (by show ORows _ _ _ _ _ _ _; rw [mix_zero]; exact HO.out), Off.refl _ _⟩
  case round =>
    obtain ⟨i, kk, hi, rfl, rfl, HK, HR, HF⟩ := hrel
    by_cases hlt : i < n
    · obtain ⟨x, hxi⟩ : ∃ x, es[i]? = some x := ⟨es[i]'(by rw [HN.out]; exact hlt), List.getElem?_eq_getElem _⟩
      have hml : (mix i (markL (markF d) (cntF d) k es) es).length = n := by rw [mix_length (by rw [HL.out, HN.out]), HN.out]
      have hmx : (mix i (markL (markF d) (cntF d) k es) es)[i]? = some x := by rw [mix_at (by rw [HL.out, HN.out]) (by rw [HN.out]; exact hlt)]; exact hxi
      have HMX : Hid ((mix i (markL (markF d) (cntF d) k es) es).length = n) := hml
      rcases HR.out with hnil | ⟨hne, cells, g, cap', fps, ho, hv, hl, hfp, hat⟩
      · rw [hnil.1] at hml; simp at hml; omega
      rw [hml] at ho hv hl
      obtain ⟨f, hf⟩ : ∃ f, fps[i]? = some f := ⟨fps[i]'(by rw [hl]; exact hlt), List.getElem?_eq_getElem _⟩
      obtain ⟨cs, hcs4, hcs, hx⟩ := hat i x f hmx hf
      cases hv
      have hlc : cells.length = n * 3 := ho.1
      have hnp := nodup_parts (hfp ▸ HND.out)
      have hsum : ((es.take (i + 1)).map (cntF d)).sum = ((es.take i).map (cntF d)).sum + cntF d x := sum_take_succ _ es i x hxi
      have hle : ((es.take (i + 1)).map (cntF d)).sum ≤ (es.map (cntF d)).sum := sum_take_le _ es (i + 1)
      have hkk := HK.out
      have hkb := HKB.out
      have hg0 : g ∈ fp := by rw [hfp]; simp
      have hfs : ∀ a ∈ f, a ∈ fp := fun a ha => by rw [hfp]; exact List.mem_cons_of_mem _ (List.mem_flatten.2 ⟨f, List.mem_of_getElem? hf, ha⟩)
      have hgf : g ∉ f := (hnp.1 f (List.mem_of_getElem? hf)).1
      have hfn : f.Nodup := (hnp.1 f (List.mem_of_getElem? hf)).2
      have HMI : Hid ((markL (markF d) (cntF d) k es)[i]? = some ((markF d) kk x)) := by
        show _ = _
        rw [markL_at _ _ _ _ _ _ hxi, ← HK.out]
      have HAT : Hid (∀ (j : Nat) y f', (mix i (markL (markF d) (cntF d) k es) es)[j]? = some y → fps[j]? = some f' → ∃ cs : List Value, cs.length = 3 ∧ (∀ q, q < 3 → cells[j * 3 + q]? = cs[q]?) ∧ OFn wr d cs y f') := hat
      have HNP : Hid (∀ (i j : Nat) f f', i ≠ j → fps[i]? = some f → fps[j]? = some f' → ∀ a ∈ f, a ∉ f') := hnp.2
      have HNG : Hid (∀ f ∈ fps, g ∉ f ∧ f.Nodup) := hnp.1
      have HFP : Hid (fp = g :: fps.flatten) := hfp
      have HNE : Hid (mix i (markL (markF d) (cntF d) k es) es ≠ []) := hne
      have HFS : Hid ((∀ a ∈ f, a ∈ fp) ∧ g ∈ fp ∧ g ∉ f ∧ f.Nodup) := ⟨hfs, hg0, hgf, hfn⟩
      have hki : (i : Int) < (n : Int) := by omega
      have hi0 : (0 : Int) ≤ (i : Int) := by omega
      clear hat hnp hfp hne hfs hg0 hgf hfn hml hmx HKB HO
      obtain ⟨cv, rfl, hrs, hri, hcls⟩ := hx
      obtain ⟨pc, cc, hcv, _⟩ := hcls.shape
      subst hcv
      have HCS : Hid (∀ (j : Nat), j < 3 → cells[i * 3 + j]? = [Value.string x.name, .int .i64 x.arity, .slice pc x.clauses.length cc][j]?) := hcs
      have HOW : Hid (wr.ownsRow 0 68 3 (.slice (some ⟨g, 0, none⟩) n cap) n cells) := ho
      have HCL : Hid (ORows wr 45 2 (OCls wr d) (.slice pc x.clauses.length cc) x.clauses f) := hcls
      have hcx : cntF d x = 2 + (x.clauses.map (cntC (cntE d))).sum := rfl
      have HSUM : Hid (k + ((es.take (i + 1)).map (cntF d)).sum = kk + 2 + (x.clauses.map (cntC (cntE d))).sum) := by show _ = _; omega
      have HK2 : Hid (kk + 2 + (x.clauses.map (cntC (cntE d))).sum ≤ 1099511627776) := by show _ ≤ _; omega
      have hkk2 : kk + 2 ≤ 1099511627776 := by omega
      have hgl : g < wr.heap.size := owns_lt ho rfl
      have hk11 : 1 ≤ kk := by omega
      clear ho hcs hcs4 hsum hle hkk hkb hcx hcls
      go_wp2_with fail
      refine (markText_at kk _ rfl (by omega) (by omega)).mono ?_
      rintro e w1 ⟨rfl, hb⟩
      have o1 := HOW.out.kept (grownBy_belowR (r := none) hb) (Or.inr (by simp [Value.ownBlock]))
      have e0 : w1.cell? ⟨g, i * 3, none⟩ = some (.string x.name) := by
        rw [o1.cellAt (i * 3) (by omega)]; exact HCS.out 0 (by omega)
      have z0 := o1.frozenAt (i * 3)
      have s1 := o1.stored (i * 3) (.string (mtext kk))
      have e1 : (w1.setCell ⟨g, i * 3, none⟩ (.string (mtext kk))).cell? ⟨g, i * 3 + 1, none⟩ = some (.int .i64 x.arity) := by
        rw [s1.1.cellAt (i * 3 + 1) (by omega), List.getElem?_set_ne (by omega)]; exact HCS.out 1 (by omega)
      have z1 := s1.1.frozenAt (i * 3 + 1)
      have s2 := s1.1.stored (i * 3 + 1) (.int .i64 ((kk : Int) + 1))
      have e2 : ((w1.setCell ⟨g, i * 3, none⟩ (.string (mtext kk))).setCell ⟨g, i * 3 + 1, none⟩ (.int .i64 ((kk : Int) + 1))).cell? ⟨g, i * 3 + 2, none⟩ = some (.slice pc x.clauses.length cc) := by
        rw [s2.1.cellAt (i * 3 + 2) (by omega), List.getElem?_set_ne (by omega), List.getElem?_set_ne (by omega)]; exact HCS.out 2 (by omega)
      have hoff : Off [g] wr ((w1.setCell ⟨g, i * 3, none⟩ (.string (mtext kk))).setCell ⟨g, i * 3 + 1, none⟩ (.int .i64 ((kk : Int) + 1))) := (Off.of_below hb).trans ((Off.of_grown s1.2 (by simp)).trans (Off.of_grown s2.2 (by simp)))
      have HOFF : Hid (Off [g] wr ((w1.setCell ⟨g, i * 3, none⟩ (.string (mtext kk))).setCell ⟨g, i * 3 + 1, none⟩ (.int .i64 ((kk : Int) + 1)))) := hoff
      have HS2 : Hid (((w1.setCell ⟨g, i * 3, none⟩ (.string (mtext kk))).setCell ⟨g, i * 3 + 1, none⟩ (.int .i64 ((kk : Int) + 1))).ownsRow 0 68 3 (.slice (some ⟨g, 0, none⟩) n cap) n ((cells.set (i * 3) (.string (mtext kk))).set (i * 3 + 1) (.int .i64 ((kk : Int) + 1)))) := s2.1
      have hkeep : ∀ f', g ∉ f' → (∀ a ∈ f', a < wr.heap.size) → KeepOn f' wr ((w1.setCell ⟨g, i * 3, none⟩ (.string (mtext kk))).setCell ⟨g, i * 3 + 1, none⟩ (.int .i64 ((kk : Int) + 1))) := fun f' h1 h2 => hoff.keep (fun a ha => ⟨h2 a ha, fun hm => h1 (by rw [List.mem_singleton] at hm; exact hm ▸ ha)⟩)
      have hk1 := hkeep f HFS.out.2.2.1 (HCL.out.lt (fun _ _ _ h => OCl.lt' h (fun _ _ _ h => h.lt)))
      have HCL2 : Hid (ORows ((w1.setCell ⟨g, i * 3, none⟩ (.string (mtext kk))).setCell ⟨g, i * 3 + 1, none⟩ (.int .i64 ((kk : Int) + 1))) 45 2 (OCls ((w1.setCell ⟨g, i * 3, none⟩ (.string (mtext kk))).setCell ⟨g, i * 3 + 1, none⟩ (.int .i64 ((kk : Int) + 1))) d) (.slice pc x.clauses.length cc) x.clauses f) := HCL.out.keep hk1 (fun cs x f' _ hs h => OCls.keep h (hk1.sub hs))
      have HKP : Hid (∀ f', g ∉ f' → (∀ a ∈ f', a < wr.heap.size) → KeepOn f' wr ((w1.setCell ⟨g, i * 3, none⟩ (.string (mtext kk))).setCell ⟨g, i * 3 + 1, none⟩ (.int .i64 ((kk : Int) + 1)))) := hkeep
      clear s1 s2 o1 hoff hb hk1 hkeep
      go_wp2_with fail
      refine (ihC.at x.clauses f (kk + 2) _ (by omega) HCL2.out HFS.out.2.2.2 (by omega) HK2.out).mono ?_
      rintro e w4 ⟨rfl, r4, off4⟩
      have hown : w4.ownsRow 0 68 3 (.slice (some ⟨g, 0, none⟩) n cap) n ((cells.set (i * 3) (.string (mtext kk))).set (i * 3 + 1) (.int .i64 ((kk : Int) + 1))) := owns_block HS2.out rfl (off4.block g (owns_lt HS2.out rfl) HFS.out.2.2.1)
      have hset := ORows.set (R := OFn wr d) (R' := OFn w4 d) (x' := markF d kk x) (i := i) (f := f) HNE.out (by rw [HMX.out]; exact hown) (by rw [HMX.out]) (by rw [HMX.out]; exact hl) HAT.out hf
        (fun m hm => by rw [List.getElem?_set_ne (by omega), List.getElem?_set_ne (by omega)])
        [.string (mtext kk), .int .i64 ((kk : Int) + 1), .slice pc x.clauses.length cc] rfl
        (fun j hj => by
          match j, hj with
          | 0, _ => rw [List.getElem?_set_ne (by omega)]; exact List.getElem?_set_self (by omega)
          | 1, _ => rw [List.getElem?_set_self (by rw [List.length_set]; omega)]; rfl
          | 2, _ => rw [List.getElem?_set_ne (by omega), List.getElem?_set_ne (by omega)]; exact HCS.out 2 (by omega))
        ⟨_, rfl, mtext_ok (by omega), nat_ok (n := kk + 1) (by omega), r4⟩
        (fun j y f' cs hj hf' h => h.keep (fun a ha => by
          have h1 := (HNG.out f' (List.mem_of_getElem? hf')).1
          have h2 := h.lt a ha
          have h3 := HNP.out j i f' _ hj hf' hf a ha
          exact (off4.block a (Nat.lt_of_lt_of_le h2 HOFF.out.size) h3).trans (HKP.out f' h1 h.lt a ha)))
      rw [mix_succ (by rw [HL.out, HN.out]) HMI.out, ← HFP.out] at hset
      have HSET : Hid (ORows w4 68 3 (OFn w4 d) (.slice (some ⟨g, 0, none⟩) n cap) (mix (i + 1) (markL (markF d) (cntF d) k es) es) fp) := hset
      have HF2 : Hid (Off fp w w4) := HF.out.trans ((HOFF.out.sub (fun a ha => by rw [List.mem_singleton] at ha; exact ha ▸ HFS.out.2.1)).trans (off4.sub HFS.out.1))
      clear hset hown r4 off4
      go_wp2_with fail
      exact ⟨⟨i + 1, kk + 2 + (x.clauses.map (cntC (cntE d))).sum, by omega, by go_num, rfl, HSUM.out.symm, HSET, HF2⟩, by simp [intOf]; omega⟩
    · obtain rfl : i = n := by omega
      have HE : Hid (kk = k + (es.map (cntF d)).sum) := by
        have := HK.out
        rw [List.take_of_length_le (by rw [HN.out]; exact Nat.le_refl _)] at this
        exact this
      have HR2 : Hid (ORows wr 68 3 (OFn wr d) (.slice p i cap) (markL (markF d) (cntF d) k es) fp) := by
        have := HR.out
        rw [mix_all (by rw [HL.out, HN.out]) (by rw [HN.out]; exact Nat.le_refl _)] at this
        exact this
      clear HR HO
      go_wp2_with fail
      go_ret
      exact ⟨by rw [HE.out]; rfl, HR2.out, HF.out⟩

theorem markFS_all (d : Nat) : MarkFS d := MarkFS_of (markCS_all d)
def cntM (d : Nat) (m : Md) : Nat := (m.exports.map cntR).sum + (m.funs.map (cntF d)).sum
def markM (d : Nat) (k : Nat) (m : Md) : Md := ⟨m.name, markL markR cntR k m.exports, markL (markF d) (cntF d) (k + (m.exports.map cntR).sum) m.funs⟩
end Go.Proofs.YtoknolophmhlgaaGreatDoor
/-
  How many marks there are in what is marked.
-/
namespace Go.Proofs.YtoknolophmhlgaaGreatDoor
open Go.ChangeShapes Go.WideShapes Go.ChangeAt Go.RowKit
set_option linter.unusedVariables false

theorem cntE_le : ∀ (d : Nat) (x : Ex), cntE d x ≤ 4 + 5 * wtEx d x
  | 0, _ => by simp [cntE]
  | d + 1, .mk k n t m ks cs => by
    have hS : ∀ (l : List Ex), (l.map (cntE d)).sum ≤ 5 * wtS (wtEx d) l := by
      intro l
      induction l with
      | nil => simp
      | cons y ys ih =>
        have h1 := cntE_le d y
        have h2 : wtS (wtEx d) (y :: ys) = 1 + wtEx d y + wtS (wtEx d) ys := by simp [wtS]; omega
        simp only [List.map_cons, List.sum_cons]; omega
    have hC : ∀ (l : List Cl), (l.map (cntC (cntE d))).sum ≤ 5 * wtS (wtCl (wtEx d)) l := by
      intro l
      induction l with
      | nil => simp
      | cons y ys ih =>
        have h1 := hS y.1
        have h3 := hS y.2
        have h4 : wtCl (wtEx d) y = wtS (wtEx d) y.1 + wtS (wtEx d) y.2 := rfl
        have h5 : cntC (cntE d) y = (y.1.map (cntE d)).sum + (y.2.map (cntE d)).sum := rfl
        have h2 : wtS (wtCl (wtEx d)) (y :: ys) = 1 + wtCl (wtEx d) y + wtS (wtCl (wtEx d)) ys := by simp [wtS]; omega
        simp only [List.map_cons, List.sum_cons]; omega
    have h1 := hS ks
    have h2 := hC cs
    have hw : wtEx (d + 1) (.mk k n t m ks cs) = t.size + m.size + wtS (wtEx d) ks + wtS (wtCl (wtEx d)) cs := rfl
    have hc : cntE (d + 1) (.mk k n t m ks cs) = 4 + (ks.map (cntE d)).sum + (cs.map (cntC (cntE d))).sum := rfl
    rw [hc, hw]; omega
theorem cntCS_le (d : Nat) : ∀ (l : List Cl), (l.map (cntC (cntE d))).sum ≤ 5 * wtS (wtCl (wtEx d)) l := by
  have hS : ∀ (l : List Ex), (l.map (cntE d)).sum ≤ 5 * wtS (wtEx d) l := by
    intro l
    induction l with
    | nil => simp
    | cons y ys ih =>
      have h1 := cntE_le d y
      have h2 : wtS (wtEx d) (y :: ys) = 1 + wtEx d y + wtS (wtEx d) ys := by simp [wtS]; omega
      simp only [List.map_cons, List.sum_cons]; omega
  intro l
  induction l with
  | nil => simp
  | cons y ys ih =>
    have h1 := hS y.1
    have h3 := hS y.2
    have h4 : wtCl (wtEx d) y = wtS (wtEx d) y.1 + wtS (wtEx d) y.2 := rfl
    have h5 : cntC (cntE d) y = (y.1.map (cntE d)).sum + (y.2.map (cntE d)).sum := rfl
    have h2 : wtS (wtCl (wtEx d)) (y :: ys) = 1 + wtCl (wtEx d) y + wtS (wtCl (wtEx d)) ys := by simp [wtS]; omega
    simp only [List.map_cons, List.sum_cons]; omega
theorem cntRS_eq : ∀ (l : List Rf), (l.map cntR).sum = 2 * l.length
  | [] => rfl
  | x :: xs => by
    have := cntRS_eq xs
    simp only [List.map_cons, List.sum_cons, List.length_cons]
    unfold cntR at *
    omega
theorem cntM_le (d : Nat) (m : Md) : cntM d m ≤ 5 * wtMd d m := by
  have h1 := cntRS_eq m.exports
  have h2 : ∀ (l : List Fn'), (l.map (cntF d)).sum ≤ 5 * wtS (wtFn d) l := by
    intro l
    induction l with
    | nil => simp
    | cons y ys ih =>
      have h3 := cntCS_le d y.clauses
      have h4 : cntF d y = 2 + (y.clauses.map (cntC (cntE d))).sum := rfl
      have h5 : wtFn d y = y.name.size + wtS (wtCl (wtEx d)) y.clauses := rfl
      have h6 : wtS (wtFn d) (y :: ys) = 1 + wtFn d y + wtS (wtFn d) ys := by simp [wtS]; omega
      simp only [List.map_cons, List.sum_cons]; omega
  have h3 := h2 m.funs
  have h4 : wtMd d m = m.name.size + wtS wtRf m.exports + wtS (wtFn d) m.funs := rfl
  have h5 : wtS wtRf m.exports = m.exports.length + (m.exports.map wtRf).sum := rfl
  have h6 : cntM d m = (m.exports.map cntR).sum + (m.funs.map (cntF d)).sum := rfl
  omega
end Go.Proofs.YtoknolophmhlgaaGreatDoor
