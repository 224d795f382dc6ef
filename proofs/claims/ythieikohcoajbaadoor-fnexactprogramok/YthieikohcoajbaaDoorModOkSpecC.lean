/-
  The specification's ModuleOk, by contract: expressions and clauses.
-/
import Derived.Test.YthieikohcoajbaaDoorModOkSpecB
namespace Go.Proofs.YthieikohcoajbaaDoor
open Go.ChangeShapes Go.WideShapes Go.ChangeAt Go.RowKit
set_option linter.unusedVariables false

def RgC (d : Nat) : Prop :=
  ∀ (w : World) (cs : List Value) (x : Ex) (pat : Bool) (deep : Int), HEx w All d cs x → -1 ≤ deep → deep ≤ 40 → Calls Tryd.prog 42 #[.agg cs.toArray, .bool pat, .int .i64 deep] w fun e w' => e = .returned (.bool (exOk d x pat deep)) ∧ Below w.heap.size w w'
def ClC (d : Nat) : Prop :=
  ∀ (w : World) (cs : List Value) (c : Cl) (pats deep : Int), HCl w All (HEx w All d) cs c → -1 ≤ deep → deep ≤ 40 → Calls Tryd.prog 27 #[.agg cs.toArray, .int .i64 pats, .int .i64 deep] w fun e w' => e = .returned (.bool (clB (fun y q => exOk d y q deep) c pats)) ∧ Below w.heap.size w w'

set_option maxHeartbeats 8000000 in
set_option maxRecDepth 100000 in
theorem clauseS_of {d : Nat} (hE : RgC d) : ClC d := by
  intro w cs c pats deep h hd0 hd1
  obtain ⟨pv, bv, rfl, f0, f1⟩ := h
  obtain ⟨ps, bs⟩ := c
  simp only at f0 f1
  obtain ⟨p, cap, rfl, hcl, hcm, hx⟩ := f0
  obtain ⟨q, cap', rfl, hcl', hcm', hy⟩ := f1
  have hnb : ps.length ≤ 9223372036854775807 := by unfold maxLen at hcm; omega
  have hmb : bs.length ≤ 9223372036854775807 := by unfold maxLen at hcm'; omega
  have hv : clB (fun y q => exOk d y q deep) (ps, bs) pats = (decide ((ps.length : Int) = pats) && (inB bs.length 1 20 && (ps.all (fun y => exOk d y true deep) && bs.all (fun y => exOk d y false deep)))) := rfl
  rw [hv]
  clear hv
  generalize hn : ps.length = n at *
  generalize hm : bs.length = m at *
  have HN : Hid (ps.length = n) := hn
  have HM : Hid (bs.length = m) := hm
  have HX : Hid (ps ≠ [] → ∃ g off, p = some ⟨g, off, none⟩ ∧ All g ∧ g < w.heap.size ∧ ∀ i x, ps[i]? = some x → ∃ cs, cs.length = 6 ∧ (∀ j, j < 6 → w.cell? ⟨g, off + i * 6 + j, none⟩ = cs[j]?) ∧ HEx w All d cs x) := hx
  have HY : Hid (bs ≠ [] → ∃ g off, q = some ⟨g, off, none⟩ ∧ All g ∧ g < w.heap.size ∧ ∀ i x, bs[i]? = some x → ∃ cs, cs.length = 6 ∧ (∀ j, j < 6 → w.cell? ⟨g, off + i * 6 + j, none⟩ = cs[j]?) ∧ HEx w All d cs x) := hy
  obtain ⟨W1, hW1⟩ : ∃ W1, W1 = w.alloc (.cells #[.slice p n cap, .slice q m cap'] 64) := ⟨_, rfl⟩
  have bA : Hid (Blk W1 w.heap.size #[.slice p n cap, .slice q m cap'] 64) := by show Blk _ _ _ _; rw [hW1]; exact Blk.new
  have B1 : Hid (Below w.heap.size w W1) := by show Below _ _ _; rw [hW1]; exact (Below.refl _ _).alloc (Nat.le_refl _) _
  have HW1 : Hid (W1 = w.alloc (.cells #[.slice p n cap, .slice q m cap'] 64)) := hW1
  clear hx hy hn hm hW1
  by_cases c1 : (n : Int) = pats
  · subst c1
    cases hin : inB m 1 20 with
    | true =>
      go_enter Tryd.func27, Tryd.ntmps27
      go_wp2_with (first | (go_at_call 24; go_must (refine (l01In_any _ _ _ _).mono ?_; rintro e w9 ⟨rfl, rfl⟩; rw [hin])))
      rw [← HW1.out]
      go_loopw [7] (fun iv wr => ∃ k1 : Nat, k1 ≤ n ∧ iv = .int .i64 k1 ∧ Hid ((ps.take k1).all (fun y => exOk d y true deep) = true) ∧ Hid (SameOn All W1 wr) ∧ Below w.heap.size w wr) (fun iv _ => n - (intOf iv).toNat)
      case atStart => exact ⟨0, Nat.zero_le _, rfl, by show _ = _; simp, ⟨Nat.le_refl _, fun _ _ _ => rfl⟩, B1.out⟩
      case round =>
        obtain ⟨k1, hk, rfl, hall, hso, hb⟩ := hrel
        have HB : Hid (Below w.heap.size w wr) := hb
        have b1 := bA.out.same_on hso.out
        have xa0 := b1.cell 0 _ rfl
        have xa1 := b1.cell 1 _ rfl
        clear b1
        by_cases hlt : k1 < n
        · obtain ⟨x, hxk⟩ : ∃ x, ps[k1]? = some x := ⟨ps[k1]'(by rw [HN.out]; exact hlt), List.getElem?_eq_getElem _⟩
          obtain ⟨g, off, rfl, -, hgl, hat⟩ := HX.out (by intro h; rw [h] at hxk; simp at hxk)
          obtain ⟨cs, hcsl, hcs, r1⟩ := hat k1 x hxk
          have E1 : ∀ w', SameOn All wr w' → HEx w' All d cs x := fun w' hw => r1.mono (SameOn.trans (SameOn.of_below hb) hw) (fun _ h => h)
          obtain ⟨c0, c1, c2, c3, c4, c5, rfl⟩ := len6 hcsl
          have a0 := hcs 0 (by omega)
          have a1 := hcs 1 (by omega)
          have a2 := hcs 2 (by omega)
          have a3 := hcs 3 (by omega)
          have a4 := hcs 4 (by omega)
          have a5 := hcs 5 (by omega)
          rw [← hb.cell (p := ⟨g, _, none⟩) hgl] at a0 a1 a2 a3 a4 a5
          simp at a0 a1 a2 a3 a4 a5
          have hki : (k1 : Int) < (n : Int) := by omega
          have hk0 : (0 : Int) ≤ (k1 : Int) := by omega
          clear hb hcs hat hcsl r1
          generalize hcv : (fun y => exOk d y true deep) x = cv
          have HCV : Hid ((fun y => exOk d y true deep) x = cv) := hcv
          have HC2 : Hid (cv = true → (ps.take (k1 + 1)).all (fun y => exOk d y true deep) = true) := fun h => allT_succ _ ps k1 x hxk hall.out (hcv.trans h)
          have HC3 : Hid (cv = false → ps.all (fun y => exOk d y true deep) = false) := fun h => allT_at _ ps k1 x hxk (hcv.trans h)
          clear hcv
          go_wp2_with fail
          refine (hE _ _ x true deep (E1 _ ⟨Nat.le_refl _, fun _ _ _ => rfl⟩) (by omega) (by omega)).mono ?_
          rintro e w4 ⟨rfl, hb4⟩
          have HB4 : Hid (Below w.heap.size w w4) := HB.out.trans (hb4.mono HB.out.size)
          have HS4 : Hid (SameOn All W1 w4) := hso.out.trans (SameOn.of_below hb4)
          rw [show exOk d x true deep = cv from HCV.out]
          clear hb4
          cases cv with
          | true =>
            have HT := HC2.out rfl
            clear HC2 HC3 HCV
            have HT' : Hid _ := HT
            clear HT
            go_wp2_with fail
            exact ⟨⟨k1 + 1, by omega, by go_num, HT'.out, HS4.out, HB4.out⟩, by simp [intOf]; omega⟩
          | false =>
            have HF : Hid (ps.all (fun y => exOk d y true deep) = false) := HC3.out rfl
            clear HC2 HC3 HCV
            go_wp2_with fail
            go_ret
            exact ⟨by first | (rw [HF.out]; simp) | simp [HF.out], HB4.out⟩
        · have HD_ps : Hid (ps.all (fun y => exOk d y true deep) = true) := by
            have := hall.out
            rwa [List.take_of_length_le (by rw [HN.out]; omega)] at this
          clear hb
          go_wp2_with fail
          clear xa0 xa1
          go_loopw [8] (fun iv wr => ∃ k2 : Nat, k2 ≤ m ∧ iv = .int .i64 k2 ∧ Hid ((bs.take k2).all (fun y => exOk d y false deep) = true) ∧ Hid (SameOn All W1 wr) ∧ Below w.heap.size w wr) (fun iv _ => m - (intOf iv).toNat)
          case atStart => exact ⟨0, Nat.zero_le _, rfl, by show _ = _; simp, hso.out, HB.out⟩
          case round =>
            obtain ⟨k2, hk, rfl, hall, hso, hb⟩ := hrel
            have HB : Hid (Below w.heap.size w wr) := hb
            have b1 := bA.out.same_on hso.out
            have xa0 := b1.cell 0 _ rfl
            have xa1 := b1.cell 1 _ rfl
            clear b1
            by_cases hlt : k2 < m
            · obtain ⟨x, hxk⟩ : ∃ x, bs[k2]? = some x := ⟨bs[k2]'(by rw [HM.out]; exact hlt), List.getElem?_eq_getElem _⟩
              obtain ⟨g, off, rfl, -, hgl, hat⟩ := HY.out (by intro h; rw [h] at hxk; simp at hxk)
              obtain ⟨cs, hcsl, hcs, r1⟩ := hat k2 x hxk
              have E1 : ∀ w', SameOn All wr w' → HEx w' All d cs x := fun w' hw => r1.mono (SameOn.trans (SameOn.of_below hb) hw) (fun _ h => h)
              obtain ⟨c0, c1, c2, c3, c4, c5, rfl⟩ := len6 hcsl
              have a0 := hcs 0 (by omega)
              have a1 := hcs 1 (by omega)
              have a2 := hcs 2 (by omega)
              have a3 := hcs 3 (by omega)
              have a4 := hcs 4 (by omega)
              have a5 := hcs 5 (by omega)
              rw [← hb.cell (p := ⟨g, _, none⟩) hgl] at a0 a1 a2 a3 a4 a5
              simp at a0 a1 a2 a3 a4 a5
              have hki : (k2 : Int) < (m : Int) := by omega
              have hk0 : (0 : Int) ≤ (k2 : Int) := by omega
              clear hb hcs hat hcsl r1
              generalize hcv : (fun y => exOk d y false deep) x = cv
              have HCV : Hid ((fun y => exOk d y false deep) x = cv) := hcv
              have HC2 : Hid (cv = true → (bs.take (k2 + 1)).all (fun y => exOk d y false deep) = true) := fun h => allT_succ _ bs k2 x hxk hall.out (hcv.trans h)
              have HC3 : Hid (cv = false → bs.all (fun y => exOk d y false deep) = false) := fun h => allT_at _ bs k2 x hxk (hcv.trans h)
              clear hcv
              go_wp2_with fail
              refine (hE _ _ x false deep (E1 _ ⟨Nat.le_refl _, fun _ _ _ => rfl⟩) (by omega) (by omega)).mono ?_
              rintro e w4 ⟨rfl, hb4⟩
              have HB4 : Hid (Below w.heap.size w w4) := HB.out.trans (hb4.mono HB.out.size)
              have HS4 : Hid (SameOn All W1 w4) := hso.out.trans (SameOn.of_below hb4)
              rw [show exOk d x false deep = cv from HCV.out]
              clear hb4
              cases cv with
              | true =>
                have HT := HC2.out rfl
                clear HC2 HC3 HCV
                have HT' : Hid _ := HT
                clear HT
                go_wp2_with fail
                exact ⟨⟨k2 + 1, by omega, by go_num, HT'.out, HS4.out, HB4.out⟩, by simp [intOf]; omega⟩
              | false =>
                have HF : Hid (bs.all (fun y => exOk d y false deep) = false) := HC3.out rfl
                clear HC2 HC3 HCV
                go_wp2_with fail
                go_ret
                exact ⟨by first | (rw [HF.out]; simp) | simp [HF.out], HB4.out⟩
            · have HD_bs : Hid (bs.all (fun y => exOk d y false deep) = true) := by
                have := hall.out
                rwa [List.take_of_length_le (by rw [HM.out]; omega)] at this
              clear hb
              go_wp2_with fail
              go_ret
              exact ⟨by rw [HD_ps.out, HD_bs.out]; simp, HB.out⟩
    | false =>
      go_enter Tryd.func27, Tryd.ntmps27
      go_wp2_with (first | (go_at_call 24; go_must (refine (l01In_any _ _ _ _).mono ?_; rintro e w9 ⟨rfl, rfl⟩; rw [hin])))
      rw [← HW1.out]
      go_ret
      exact ⟨by simp, B1.out⟩
  · have c2 : ((n : Int) != pats) = true := by simpa using c1
    go_enter Tryd.func27, Tryd.ntmps27
    go_wp2
    rw [← HW1.out]
    go_ret
    exact ⟨by simp [c1], B1.out⟩

end Go.Proofs.YthieikohcoajbaaDoor
