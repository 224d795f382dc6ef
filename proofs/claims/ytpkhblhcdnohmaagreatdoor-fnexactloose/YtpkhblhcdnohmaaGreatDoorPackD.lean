/-
  Texts of the proof, packed: ModOkSpecC, ModOkSpecD, ModOkSpecE, LooseSpec, Frame, Frame2, Boxes.
-/
import Derived.Test.YtpkhblhcdnohmaaGreatDoorPackC
import Derived.Test.YtpkhblhcdnohmaaGreatDoorPackA
import Derived.Test.YtpkhblhcdnohmaaGreatDoorRows
import Derived.WalkKit
import Derived.ProofKit
import Derived.OpenShut
import Derived.OpenVars
import Derived.LaidMore
import Derived.Lib.LaidTab
import Derived.Deep.DeepHandedRow
/-
  The specification's ModuleOk, by contract: expressions and clauses.
-/
namespace Go.Proofs.YtpkhblhcdnohmaaGreatDoor
open Go.ChangeShapes Go.WideShapes Go.ChangeAt Go.RowKit
set_option linter.unusedVariables false

def RgC (d : Nat) : Prop :=
  ∀ (w : World) (cs : List Value) (x : Ex) (pat : Bool) (deep : Int), HEx w All d cs x → -1 ≤ deep → deep ≤ 40 → Calls Tryz.prog 51 #[.agg cs.toArray, .bool pat, .int .i64 deep] w fun e w' => e = .returned (.bool (exOk d x pat deep)) ∧ Below w.heap.size w w'
def ClC (d : Nat) : Prop :=
  ∀ (w : World) (cs : List Value) (c : Cl) (pats deep : Int), HCl w All (HEx w All d) cs c → -1 ≤ deep → deep ≤ 40 → Calls Tryz.prog 33 #[.agg cs.toArray, .int .i64 pats, .int .i64 deep] w fun e w' => e = .returned (.bool (clB (fun y q => exOk d y q deep) c pats)) ∧ Below w.heap.size w w'

set_option maxHeartbeats 8000000 in
set_option maxRecDepth 100000 in
theorem clauseS_of {d : Nat} (hE : RgC d) : ClC d := by
  intro w cs c pats deep h hd0 hd1
  obtain ⟨pv, bv, rfl, f0, f1⟩ := h
  obtain ⟨ps, bs⟩ := c
  simp only at f0 f1
  obtain ⟨p, cap, rfl, hcl, hcm, hx⟩ := f0
  obtain ⟨q, cap', rfl, hcl', hcm', hy⟩ := f1
  have hnb : ps.length ≤ 9223372036854775807 := by unfold maxLen at hcm; omega
  have hmb : bs.length ≤ 9223372036854775807 := by unfold maxLen at hcm'; omega
  have hv : clB (fun y q => exOk d y q deep) (ps, bs) pats = (decide ((ps.length : Int) = pats) && (inB bs.length 1 20 && (ps.all (fun y => exOk d y true deep) && bs.all (fun y => exOk d y false deep)))) := rfl
  rw [hv]
  clear hv
  generalize hn : ps.length = n at *
  generalize hm : bs.length = m at *
  have HN : Hid (ps.length = n) := hn
  have HM : Hid (bs.length = m) := hm
  have HX : Hid (ps ≠ [] → ∃ g off, p = some ⟨g, off, none⟩ ∧ All g ∧ g < w.heap.size ∧ ∀ i x, ps[i]? = some x → ∃ cs, cs.length = 6 ∧ (∀ j, j < 6 → w.cell? ⟨g, off + i * 6 + j, none⟩ = cs[j]?) ∧ HEx w All d cs x) := hx
  have HY : Hid (bs ≠ [] → ∃ g off, q = some ⟨g, off, none⟩ ∧ All g ∧ g < w.heap.size ∧ ∀ i x, bs[i]? = some x → ∃ cs, cs.length = 6 ∧ (∀ j, j < 6 → w.cell? ⟨g, off + i * 6 + j, none⟩ = cs[j]?) ∧ HEx w All d cs x) := hy
  obtain ⟨W1, hW1⟩ : ∃ W1, W1 = w.alloc (.cells #[.slice p n cap, .slice q m cap'] 48) := ⟨_, rfl⟩
  have bA : Hid (Blk W1 w.heap.size #[.slice p n cap, .slice q m cap'] 48) := by show Blk _ _ _ _; rw [hW1]; exact Blk.new
  have B1 : Hid (Below w.heap.size w W1) := by show Below _ _ _; rw [hW1]; exact (Below.refl _ _).alloc (Nat.le_refl _) _
  have HW1 : Hid (W1 = w.alloc (.cells #[.slice p n cap, .slice q m cap'] 48)) := hW1
  clear hx hy hn hm hW1
  by_cases c1 : (n : Int) = pats
  · subst c1
    cases hin : inB m 1 20 with
    | true =>
      go_enter Tryz.func33, Tryz.ntmps33
      go_wp2_with (first | (go_at_call 30; go_must (refine (l01In_any _ _ _ _).mono ?_; rintro e w9 ⟨rfl, rfl⟩; rw [hin])))
      rw [← HW1.out]
      go_loopw [7] (fun iv wr => ∃ k1 : Nat, k1 ≤ n ∧ iv = .int .i64 k1 ∧ Hid ((ps.take k1).all (fun y => exOk d y true deep) = true) ∧ Hid (SameOn All W1 wr) ∧ Below w.heap.size w wr) (fun iv _ => n - (intOf iv).toNat)
      case atStart => exact ⟨0, Nat.zero_le _, rfl, by show _ = _; simp, ⟨Nat.le_refl _, fun _ _ _ => rfl⟩, B1.out⟩
      case round =>
        obtain ⟨k1, hk, rfl, hall, hso, hb⟩ := hrel
        have HB : Hid (Below w.heap.size w wr) := hb
        have b1 := bA.out.same_on hso.out
        have xa0 := b1.cell 0 _ rfl
        have xa1 := b1.cell 1 _ rfl
        clear b1
        by_cases hlt : k1 < n
        · obtain ⟨x, hxk⟩ : ∃ x, ps[k1]? = some x := ⟨ps[k1]'(by rw [HN.out]; exact hlt), List.getElem?_eq_getElem _⟩
          obtain ⟨g, off, rfl, -, hgl, hat⟩ := HX.out (by intro h; rw [h] at hxk; simp at hxk)
          obtain ⟨cs, hcsl, hcs, r1⟩ := hat k1 x hxk
          have E1 : ∀ w', SameOn All wr w' → HEx w' All d cs x := fun w' hw => r1.mono (SameOn.trans (SameOn.of_below hb) hw) (fun _ h => h)
          obtain ⟨c0, c1, c2, c3, c4, c5, rfl⟩ := len6 hcsl
          have a0 := hcs 0 (by omega)
          have a1 := hcs 1 (by omega)
          have a2 := hcs 2 (by omega)
          have a3 := hcs 3 (by omega)
          have a4 := hcs 4 (by omega)
          have a5 := hcs 5 (by omega)
          rw [← hb.cell (p := ⟨g, _, none⟩) hgl] at a0 a1 a2 a3 a4 a5
          simp at a0 a1 a2 a3 a4 a5
          have hki : (k1 : Int) < (n : Int) := by omega
          have hk0 : (0 : Int) ≤ (k1 : Int) := by omega
          clear hb hcs hat hcsl r1
          generalize hcv : (fun y => exOk d y true deep) x = cv
          have HCV : Hid ((fun y => exOk d y true deep) x = cv) := hcv
          have HC2 : Hid (cv = true → (ps.take (k1 + 1)).all (fun y => exOk d y true deep) = true) := fun h => allT_succ _ ps k1 x hxk hall.out (hcv.trans h)
          have HC3 : Hid (cv = false → ps.all (fun y => exOk d y true deep) = false) := fun h => allT_at _ ps k1 x hxk (hcv.trans h)
          clear hcv
          go_wp2_with fail
          refine (hE _ _ x true deep (E1 _ ⟨Nat.le_refl _, fun _ _ _ => rfl⟩) (by omega) (by omega)).mono ?_
          rintro e w4 ⟨rfl, hb4⟩
          have HB4 : Hid (Below w.heap.size w w4) := HB.out.trans (hb4.mono HB.out.size)
          have HS4 : Hid (SameOn All W1 w4) := hso.out.trans (SameOn.of_below hb4)
          rw [show exOk d x true deep = cv from HCV.out]
          clear hb4
          cases cv with
          | true =>
            have HT := HC2.out rfl
            clear HC2 HC3 HCV
            have HT' : Hid _ := HT
            clear HT
            go_wp2_with fail
            exact ⟨⟨k1 + 1, by omega, by go_num, HT'.out, HS4.out, HB4.out⟩, by simp [intOf]; omega⟩
          | false =>
            have HF : Hid (ps.all (fun y => exOk d y true deep) = false) := HC3.out rfl
            clear HC2 HC3 HCV
            go_wp2_with fail
            go_ret
            exact ⟨by first | (rw [HF.out]; simp) | simp [HF.out], HB4.out⟩
        · have HD_ps : Hid (ps.all (fun y => exOk d y true deep) = true) := by
            have := hall.out
            rwa [List.take_of_length_le (by rw [HN.out]; omega)] at this
          clear hb
          go_wp2_with fail
          clear xa0 xa1
          go_loopw [8] (fun iv wr => ∃ k2 : Nat, k2 ≤ m ∧ iv = .int .i64 k2 ∧ Hid ((bs.take k2).all (fun y => exOk d y false deep) = true) ∧ Hid (SameOn All W1 wr) ∧ Below w.heap.size w wr) (fun iv _ => m - (intOf iv).toNat)
          case atStart => exact ⟨0, Nat.zero_le _, rfl, by show _ = _; simp, hso.out, HB.out⟩
          case round =>
            obtain ⟨k2, hk, rfl, hall, hso, hb⟩ := hrel
            have HB : Hid (Below w.heap.size w wr) := hb
            have b1 := bA.out.same_on hso.out
            have xa0 := b1.cell 0 _ rfl
            have xa1 := b1.cell 1 _ rfl
            clear b1
            by_cases hlt : k2 < m
            · obtain ⟨x, hxk⟩ : ∃ x, bs[k2]? = some x := ⟨bs[k2]'(by rw [HM.out]; exact hlt), List.getElem?_eq_getElem _⟩
              obtain ⟨g, off, rfl, -, hgl, hat⟩ := HY.out (by intro h; rw [h] at hxk; simp at hxk)
              obtain ⟨cs, hcsl, hcs, r1⟩ := hat k2 x hxk
              have E1 : ∀ w', SameOn All wr w' → HEx w' All d cs x := fun w' hw => r1.mono (SameOn.trans (SameOn.of_below hb) hw) (fun _ h => h)
              obtain ⟨c0, c1, c2, c3, c4, c5, rfl⟩ := len6 hcsl
              have a0 := hcs 0 (by omega)
              have a1 := hcs 1 (by omega)
              have a2 := hcs 2 (by omega)
              have a3 := hcs 3 (by omega)
              have a4 := hcs 4 (by omega)
              have a5 := hcs 5 (by omega)
              rw [← hb.cell (p := ⟨g, _, none⟩) hgl] at a0 a1 a2 a3 a4 a5
              simp at a0 a1 a2 a3 a4 a5
              have hki : (k2 : Int) < (m : Int) := by omega
              have hk0 : (0 : Int) ≤ (k2 : Int) := by omega
              clear hb hcs hat hcsl r1
              generalize hcv : (fun y => exOk d y false deep) x = cv
              have HCV : Hid ((fun y => exOk d y false deep) x = cv) := hcv
              have HC2 : Hid (cv = true → (bs.take (k2 + 1)).all (fun y => exOk d y false deep) = true) := fun h => allT_succ _ bs k2 x hxk hall.out (hcv.trans h)
              have HC3 : Hid (cv = false → bs.all (fun y => exOk d y false deep) = false) := fun h => allT_at _ bs k2 x hxk (hcv.trans h)
              clear hcv
              go_wp2_with fail
              refine (hE _ _ x false deep (E1 _ ⟨Nat.le_refl _, fun _ _ _ => rfl⟩) (by omega) (by omega)).mono ?_
              rintro e w4 ⟨rfl, hb4⟩
              have HB4 : Hid (Below w.heap.size w w4) := HB.out.trans (hb4.mono HB.out.size)
              have HS4 : Hid (SameOn All W1 w4) := hso.out.trans (SameOn.of_below hb4)
              rw [show exOk d x false deep = cv from HCV.out]
              clear hb4
              cases cv with
              | true =>
                have HT := HC2.out rfl
                clear HC2 HC3 HCV
                have HT' : Hid _ := HT
                clear HT
                go_wp2_with fail
                exact ⟨⟨k2 + 1, by omega, by go_num, HT'.out, HS4.out, HB4.out⟩, by simp [intOf]; omega⟩
              | false =>
                have HF : Hid (bs.all (fun y => exOk d y false deep) = false) := HC3.out rfl
                clear HC2 HC3 HCV
                go_wp2_with fail
                go_ret
                exact ⟨by first | (rw [HF.out]; simp) | simp [HF.out], HB4.out⟩
            · have HD_bs : Hid (bs.all (fun y => exOk d y false deep) = true) := by
                have := hall.out
                rwa [List.take_of_length_le (by rw [HM.out]; omega)] at this
              clear hb
              go_wp2_with fail
              go_ret
              exact ⟨by rw [HD_ps.out, HD_bs.out]; simp, HB.out⟩
    | false =>
      go_enter Tryz.func33, Tryz.ntmps33
      go_wp2_with (first | (go_at_call 30; go_must (refine (l01In_any _ _ _ _).mono ?_; rintro e w9 ⟨rfl, rfl⟩; rw [hin])))
      rw [← HW1.out]
      go_ret
      exact ⟨by simp, B1.out⟩
  · have c2 : ((n : Int) != pats) = true := by simpa using c1
    go_enter Tryz.func33, Tryz.ntmps33
    go_wp2
    rw [← HW1.out]
    go_ret
    exact ⟨by simp [c1], B1.out⟩

end Go.Proofs.YtpkhblhcdnohmaaGreatDoor
/-
  The specification's ModuleOk, by contract: an expression.
-/
namespace Go.Proofs.YtpkhblhcdnohmaaGreatDoor
open Go.ChangeShapes Go.WideShapes Go.ChangeAt Go.RowKit
set_option linter.unusedVariables false

set_option maxHeartbeats 16000000 in
set_option maxRecDepth 100000 in
theorem rightS_of {d : Nat} (h1 : RgC d) (h2 : ClC d) : RgC (d + 1) := by
  intro w cs x pat deep h hd0 hd1
  obtain ⟨kv, cv, rfl, -, -, hts, hms, f0, f1⟩ := h
  obtain ⟨kx, nx, tx, mx, ks, cl⟩ := x
  simp only [Ex.kind, Ex.n, Ex.text, Ex.mod, Ex.kids, Ex.clauses] at *
  obtain ⟨p, cap, rfl, hcl, hcm, hx⟩ := f0
  obtain ⟨q, cap', rfl, hcl', hcm', hy⟩ := f1
  have hnb : ks.length ≤ 9223372036854775807 := by unfold maxLen at hcm; omega
  have hmb : cl.length ≤ 9223372036854775807 := by unfold maxLen at hcm'; omega
  have hv := exOk_eq d kx nx tx mx ks cl pat deep
  rw [hv]
  clear hv
  generalize hn : ks.length = n at *
  generalize hm : cl.length = m at *
  have HN : Hid (ks.length = n) := hn
  have HM : Hid (cl.length = m) := hm
  have HX : Hid (ks ≠ [] → ∃ g off, p = some ⟨g, off, none⟩ ∧ All g ∧ g < w.heap.size ∧ ∀ i x, ks[i]? = some x → ∃ cs, cs.length = 6 ∧ (∀ j, j < 6 → w.cell? ⟨g, off + i * 6 + j, none⟩ = cs[j]?) ∧ HEx w All d cs x) := hx
  have HY : Hid (cl ≠ [] → ∃ g off, q = some ⟨g, off, none⟩ ∧ All g ∧ g < w.heap.size ∧ ∀ i x, cl[i]? = some x → ∃ cs, cs.length = 2 ∧ (∀ j, j < 2 → w.cell? ⟨g, off + i * 2 + j, none⟩ = cs[j]?) ∧ HCl w All (HEx w All d) cs x) := hy
  clear hx hy hn hm
  by_cases c1 : deep < 0
  · rw [decide_eq_false (by omega)]
    go_enter Tryz.func51, Tryz.ntmps51
    go_wp2
    go_ret
    exact ⟨by simp, (Below.refl _ _).alloc (Nat.le_refl _) _⟩
  rw [decide_eq_true (by omega : 0 ≤ deep)]
  cases hpl : plainB kx nx tx mx n m with
  | false =>
    go_enter Tryz.func51, Tryz.ntmps51
    go_wp2_with fail
    refine (plainS_any _ _ _ _ _ _ _ _ _ _ _ hts hms hnb hmb).mono ?_
    rintro e W1 ⟨rfl, hb⟩
    rw [hpl]
    have B1 : Hid (Below w.heap.size w W1) := ((Below.refl _ _).alloc (Nat.le_refl _) _).trans (hb.mono (by simp))
    have bA : Hid (Blk W1 w.heap.size #[.int .i64 kx, .int .i64 nx, .string tx, .string mx, .slice p n cap, .slice q m cap'] 73) := (Blk.new (w := w)).next hb
    have xa0 := bA.out.cell 0 _ rfl
    have xa1 := bA.out.cell 1 _ rfl
    have xa2 := bA.out.cell 2 _ rfl
    have xa3 := bA.out.cell 3 _ rfl
    have xa4 := bA.out.cell 4 _ rfl
    have xa5 := bA.out.cell 5 _ rfl
    clear hb
    go_wp2
    go_ret
    exact ⟨by simp, B1.out⟩
  | true =>
    obtain ⟨r0, r1⟩ := plainB_range hpl
    cases pat with
    | true =>
      by_cases c6 : kx ≤ 6
      · have h6 : inB kx 0 6 = true := by simp [inB]; omega
        have hpt : patB kx true = true := by simp [patB]; omega
        rw [hpt, Bool.true_or]
        simp only [Bool.true_and]
        go_enter Tryz.func51, Tryz.ntmps51
        go_wp2_with fail
        refine (plainS_any _ _ _ _ _ _ _ _ _ _ _ hts hms hnb hmb).mono ?_
        rintro e W1 ⟨rfl, hb⟩
        rw [hpl]
        have B1 : Hid (Below w.heap.size w W1) := ((Below.refl _ _).alloc (Nat.le_refl _) _).trans (hb.mono (by simp))
        have bA : Hid (Blk W1 w.heap.size #[.int .i64 kx, .int .i64 nx, .string tx, .string mx, .slice p n cap, .slice q m cap'] 73) := (Blk.new (w := w)).next hb
        have xa0 := bA.out.cell 0 _ rfl
        have xa1 := bA.out.cell 1 _ rfl
        have xa2 := bA.out.cell 2 _ rfl
        have xa3 := bA.out.cell 3 _ rfl
        have xa4 := bA.out.cell 4 _ rfl
        have xa5 := bA.out.cell 5 _ rfl
        clear hb
        go_wp2_with (first | (go_at_call 30; go_must (refine (l01In_any _ _ _ _).mono ?_; rintro e w9 ⟨rfl, hw9⟩; rw [h6, hw9]; clear hw9 w9)))
        clear xa0 xa1 xa2 xa3 xa4 xa5
        go_loopw [7] (fun iv wr => ∃ k1 : Nat, k1 ≤ n ∧ iv = .int .i64 k1 ∧ Hid (kidsB (fun y q => exOk d y q (deep - 1)) (ks.take k1) true true = true) ∧ Hid (SameOn All W1 wr) ∧ Below w.heap.size w wr) (fun iv _ => n - (intOf iv).toNat)
        case atStart => exact ⟨0, Nat.zero_le _, rfl, kidsB_nil _ _ _ _, ⟨Nat.le_refl _, fun _ _ _ => rfl⟩, B1.out⟩
        case round =>
          obtain ⟨k1, hk, rfl, hall, hso, hb⟩ := hrel
          have HB : Hid (Below w.heap.size w wr) := hb
          have b1 := bA.out.same_on hso.out
          have hlw := b1.lt
          have xa0 := b1.cell 0 _ rfl
          have xa1 := b1.cell 1 _ rfl
          have xa2 := b1.cell 2 _ rfl
          have xa3 := b1.cell 3 _ rfl
          have xa4 := b1.cell 4 _ rfl
          have xa5 := b1.cell 5 _ rfl
          clear b1
          by_cases hlt : k1 < n
          · obtain ⟨x, hxk⟩ : ∃ x, ks[k1]? = some x := ⟨ks[k1]'(by rw [HN.out]; exact hlt), List.getElem?_eq_getElem _⟩
            obtain ⟨g, off, rfl, -, hgl, hat⟩ := HX.out (by intro h; rw [h] at hxk; simp at hxk)
            obtain ⟨cs, hcsl, hcs, r1⟩ := hat k1 x hxk
            have E1 : ∀ w', SameOn All wr w' → HEx w' All d cs x := fun w' hw => r1.mono (SameOn.trans (SameOn.of_below hb) hw) (fun _ h => h)
            obtain ⟨c0, c1, c2, c3, c4, c5, rfl⟩ := len6 hcsl
            have a0 := hcs 0 (by omega)
            have a1 := hcs 1 (by omega)
            have a2 := hcs 2 (by omega)
            have a3 := hcs 3 (by omega)
            have a4 := hcs 4 (by omega)
            have a5 := hcs 5 (by omega)
            rw [← hb.cell (p := ⟨g, _, none⟩) hgl] at a0 a1 a2 a3 a4 a5
            simp at a0 a1 a2 a3 a4 a5
            have hki : (k1 : Int) < (n : Int) := by omega
            have hk0 : (0 : Int) ≤ (k1 : Int) := by omega
            have hgw : g < wr.heap.size := Nat.lt_of_lt_of_le hgl hb.size
            have qa0 : ∀ m : Wd (fun w' => SameOn All wr w' ∧ Below w.heap.size w w'), m.val.cell? ⟨g, off + k1 * 6, none⟩ = some c0 := fun m => (World.cell?_of_block (m.ok.1.2 g trivial hgw)).trans a0
            have qa1 : ∀ m : Wd (fun w' => SameOn All wr w' ∧ Below w.heap.size w w'), m.val.cell? ⟨g, off + k1 * 6 + 1, none⟩ = some c1 := fun m => (World.cell?_of_block (m.ok.1.2 g trivial hgw)).trans a1
            have qa2 : ∀ m : Wd (fun w' => SameOn All wr w' ∧ Below w.heap.size w w'), m.val.cell? ⟨g, off + k1 * 6 + 2, none⟩ = some c2 := fun m => (World.cell?_of_block (m.ok.1.2 g trivial hgw)).trans a2
            have qa3 : ∀ m : Wd (fun w' => SameOn All wr w' ∧ Below w.heap.size w w'), m.val.cell? ⟨g, off + k1 * 6 + 3, none⟩ = some c3 := fun m => (World.cell?_of_block (m.ok.1.2 g trivial hgw)).trans a3
            have qa4 : ∀ m : Wd (fun w' => SameOn All wr w' ∧ Below w.heap.size w w'), m.val.cell? ⟨g, off + k1 * 6 + 4, none⟩ = some c4 := fun m => (World.cell?_of_block (m.ok.1.2 g trivial hgw)).trans a4
            have qa5 : ∀ m : Wd (fun w' => SameOn All wr w' ∧ Below w.heap.size w w'), m.val.cell? ⟨g, off + k1 * 6 + 5, none⟩ = some c5 := fun m => (World.cell?_of_block (m.ok.1.2 g trivial hgw)).trans a5
            have qx0 : ∀ m : Wd (fun w' => SameOn All wr w' ∧ Below w.heap.size w w'), m.val.cell? ⟨w.heap.size, 0, none⟩ = some (.int .i64 kx) := fun m => (World.cell?_of_block (m.ok.1.2 w.heap.size trivial hlw)).trans xa0
            have qx4 : ∀ m : Wd (fun w' => SameOn All wr w' ∧ Below w.heap.size w w'), m.val.cell? ⟨w.heap.size, 4, none⟩ = some (.slice (some ⟨g, off, none⟩) n cap) := fun m => (World.cell?_of_block (m.ok.1.2 w.heap.size trivial hlw)).trans xa4
            clear hb hcs hat hcsl r1
            generalize hcv : exOk d x true (deep - 1) = cv
            have HCV : Hid (exOk d x true (deep - 1) = cv) := hcv
            have HC2 : Hid (cv = true → kidsB (fun y q => exOk d y q (deep - 1)) (ks.take (k1 + 1)) true true = true) := fun h => kidsB_succ _ ks _ _ k1 x hxk hall.out (by rw [ite_self]; exact hcv.trans h)
            have HC3 : Hid (cv = false → kidsB (fun y q => exOk d y q (deep - 1)) ks true true = false) := fun h => kidsB_at _ ks _ _ k1 x hxk (by rw [ite_self]; exact hcv.trans h)
            clear hcv
            go_wp2
            have hCne : Nonempty (Wd (fun w' => SameOn All wr w' ∧ Below w.heap.size w w')) := ⟨⟨wr.drew, ⟨⟨Nat.le_refl _, fun _ _ _ => rfl⟩, HB.out.drew⟩⟩⟩
            refine wp_region_class (fun w' => SameOn All wr w' ∧ Below w.heap.size w w') (by kernel_rfl) (by kernel_rfl) ⟨⟨Nat.le_refl _, fun _ _ _ => rfl⟩, HB.out.drew⟩ ?_
            repeat (go_big_quiet_step (first | (rename_i m; go_at_call 51; refine (h1 _ _ x true (deep - 1) (E1 _ m.ok.1) (by omega) (by omega)).mono ?_; rintro e w1 ⟨rfl, hb1⟩; exact ⟨by rw [HCV.out], ⟨⟨w1, ⟨(SameOn.trans m.ok.1 (SameOn.of_below hb1)), m.ok.2.trans (hb1.mono m.ok.2.size)⟩⟩, rfl⟩⟩)))
            refine wpQuiet_nil ?_
            rintro _ ⟨mq, rfl⟩
            have HB4 : Hid (Below w.heap.size w mq.val) := mq.ok.2
            have HS4 : Hid (SameOn All W1 mq.val) := hso.out.trans mq.ok.1
            generalize mq.val = w4 at HB4 HS4 ⊢
            clear HCV
            cases cv with
            | true =>
              have HT' : Hid _ := HC2.out rfl
              clear HC2 HC3
              go_wp2_with fail
              exact ⟨⟨k1 + 1, by omega, by go_num, HT'.out, HS4.out, HB4.out⟩, by simp [intOf]; omega⟩
            | false =>
              have HF : Hid _ := HC3.out rfl
              clear HC2 HC3
              go_wp2_with fail
              go_ret
              exact ⟨by rw [HF.out]; simp, HB4.out⟩
          · have HD_ks : Hid (kidsB (fun y q => exOk d y q (deep - 1)) ks true true = true) := by
              have := hall.out
              rwa [List.take_of_length_le (by rw [HN.out]; omega)] at this
            clear hb
            go_wp2_with fail
            clear xa0 xa1 xa2 xa3 xa4 xa5
            go_loopw [8] (fun iv wr => ∃ k2 : Nat, k2 ≤ m ∧ iv = .int .i64 k2 ∧ Hid ((cl.take k2).all (fun y => clB (fun z q => exOk d z q (deep - 1)) y 1) = true) ∧ Hid (SameOn All W1 wr) ∧ Below w.heap.size w wr) (fun iv _ => m - (intOf iv).toNat)
            case atStart => exact ⟨0, Nat.zero_le _, rfl, by show _ = _; simp, hso.out, HB.out⟩
            case round =>
              obtain ⟨k2, hk, rfl, hall, hso, hb⟩ := hrel
              have HB : Hid (Below w.heap.size w wr) := hb
              have b1 := bA.out.same_on hso.out
              have xa0 := b1.cell 0 _ rfl
              have xa1 := b1.cell 1 _ rfl
              have xa2 := b1.cell 2 _ rfl
              have xa3 := b1.cell 3 _ rfl
              have xa4 := b1.cell 4 _ rfl
              have xa5 := b1.cell 5 _ rfl
              clear b1
              by_cases hlt : k2 < m
              · obtain ⟨x, hxk⟩ : ∃ x, cl[k2]? = some x := ⟨cl[k2]'(by rw [HM.out]; exact hlt), List.getElem?_eq_getElem _⟩
                obtain ⟨g, off, rfl, -, hgl, hat⟩ := HY.out (by intro h; rw [h] at hxk; simp at hxk)
                obtain ⟨cs, hcsl, hcs, r1⟩ := hat k2 x hxk
                have E1 : ∀ w', SameOn All wr w' → HCl w' All (HEx w' All d) cs x := fun w' hw => r1.mono (SameOn.trans (SameOn.of_below hb) hw) (fun _ h => h) (fun _ _ h => h.mono (SameOn.trans (SameOn.of_below hb) hw) (fun _ h => h))
                obtain ⟨c0, c1, rfl⟩ := len2 hcsl
                have a0 := hcs 0 (by omega)
                have a1 := hcs 1 (by omega)
                rw [← hb.cell (p := ⟨g, _, none⟩) hgl] at a0 a1
                simp at a0 a1
                have hki : (k2 : Int) < (m : Int) := by omega
                have hk0 : (0 : Int) ≤ (k2 : Int) := by omega
                clear hb hcs hat hcsl r1
                generalize hcv : (fun y => clB (fun z q => exOk d z q (deep - 1)) y 1) x = cv
                have HCV : Hid ((fun y => clB (fun z q => exOk d z q (deep - 1)) y 1) x = cv) := hcv
                have HC2 : Hid (cv = true → (cl.take (k2 + 1)).all (fun y => clB (fun z q => exOk d z q (deep - 1)) y 1) = true) := fun h => allT_succ _ cl k2 x hxk hall.out (hcv.trans h)
                have HC3 : Hid (cv = false → cl.all (fun y => clB (fun z q => exOk d z q (deep - 1)) y 1) = false) := fun h => allT_at _ cl k2 x hxk (hcv.trans h)
                clear hcv
                go_wp2_with fail
                refine (h2 _ _ x 1 (deep - 1) (E1 _ ⟨Nat.le_refl _, fun _ _ _ => rfl⟩) (by omega) (by omega)).mono ?_
                rintro e w4 ⟨rfl, hb4⟩
                have HB4 : Hid (Below w.heap.size w w4) := HB.out.trans (hb4.mono HB.out.size)
                have HS4 : Hid (SameOn All W1 w4) := hso.out.trans (SameOn.of_below hb4)
                rw [show clB (fun z q => exOk d z q (deep - 1)) x 1 = cv from HCV.out]
                clear hb4
                cases cv with
                | true =>
                  have HT := HC2.out rfl
                  clear HC2 HC3 HCV
                  have HT' : Hid _ := HT
                  clear HT
                  go_wp2_with fail
                  exact ⟨⟨k2 + 1, by omega, by go_num, HT'.out, HS4.out, HB4.out⟩, by simp [intOf]; omega⟩
                | false =>
                  have HF : Hid (cl.all (fun y => clB (fun z q => exOk d z q (deep - 1)) y 1) = false) := HC3.out rfl
                  clear HC2 HC3 HCV
                  go_wp2_with fail
                  go_ret
                  exact ⟨by first | (rw [HF.out]; simp) | simp [HF.out], HB4.out⟩
              · have HD_cl : Hid (cl.all (fun y => clB (fun z q => exOk d z q (deep - 1)) y 1) = true) := by
                  have := hall.out
                  rwa [List.take_of_length_le (by rw [HM.out]; omega)] at this
                clear hb
                go_wp2_with fail
                go_ret
                exact ⟨by rw [HD_ks.out, HD_cl.out]; simp, HB.out⟩
      · have h6 : inB kx 0 6 = false := by simp [inB]; omega
        have hpt : patB kx true = false := by simp [patB]; omega
        rw [hpt]
        go_enter Tryz.func51, Tryz.ntmps51
        go_wp2_with fail
        refine (plainS_any _ _ _ _ _ _ _ _ _ _ _ hts hms hnb hmb).mono ?_
        rintro e W1 ⟨rfl, hb⟩
        rw [hpl]
        have B1 : Hid (Below w.heap.size w W1) := ((Below.refl _ _).alloc (Nat.le_refl _) _).trans (hb.mono (by simp))
        have bA : Hid (Blk W1 w.heap.size #[.int .i64 kx, .int .i64 nx, .string tx, .string mx, .slice p n cap, .slice q m cap'] 73) := (Blk.new (w := w)).next hb
        have xa0 := bA.out.cell 0 _ rfl
        have xa1 := bA.out.cell 1 _ rfl
        have xa2 := bA.out.cell 2 _ rfl
        have xa3 := bA.out.cell 3 _ rfl
        have xa4 := bA.out.cell 4 _ rfl
        have xa5 := bA.out.cell 5 _ rfl
        clear hb
        go_wp2_with (first | (go_at_call 30; go_must (refine (l01In_any _ _ _ _).mono ?_; rintro e w9 ⟨rfl, hw9⟩; rw [h6, hw9]; clear hw9 w9)))
        go_ret
        exact ⟨by simp, B1.out⟩
    | false =>
      by_cases k3 : kx = 3
      · subst k3
        have hpt : patB 3 false = false := by simp [patB]
        rw [hpt]
        go_enter Tryz.func51, Tryz.ntmps51
        go_wp2_with fail
        refine (plainS_any _ _ _ _ _ _ _ _ _ _ _ hts hms hnb hmb).mono ?_
        rintro e W1 ⟨rfl, hb⟩
        rw [hpl]
        have B1 : Hid (Below w.heap.size w W1) := ((Below.refl _ _).alloc (Nat.le_refl _) _).trans (hb.mono (by simp))
        have bA : Hid (Blk W1 w.heap.size #[.int .i64 3, .int .i64 nx, .string tx, .string mx, .slice p n cap, .slice q m cap'] 73) := (Blk.new (w := w)).next hb
        have xa0 := bA.out.cell 0 _ rfl
        have xa1 := bA.out.cell 1 _ rfl
        have xa2 := bA.out.cell 2 _ rfl
        have xa3 := bA.out.cell 3 _ rfl
        have xa4 := bA.out.cell 4 _ rfl
        have xa5 := bA.out.cell 5 _ rfl
        clear hb
        go_wp2
        go_ret
        exact ⟨by simp, B1.out⟩
      have hpt : patB kx false = true := by simp [patB, k3]
      rw [hpt]
      by_cases k9 : kx = 9
      · subst k9
        have e9 : (false || decide ((9 : Int) = 9)) = true := rfl
        rw [e9]
        simp only [Bool.true_and]
        go_enter Tryz.func51, Tryz.ntmps51
        go_wp2_with fail
        refine (plainS_any _ _ _ _ _ _ _ _ _ _ _ hts hms hnb hmb).mono ?_
        rintro e W1 ⟨rfl, hb⟩
        rw [hpl]
        have B1 : Hid (Below w.heap.size w W1) := ((Below.refl _ _).alloc (Nat.le_refl _) _).trans (hb.mono (by simp))
        have bA : Hid (Blk W1 w.heap.size #[.int .i64 9, .int .i64 nx, .string tx, .string mx, .slice p n cap, .slice q m cap'] 73) := (Blk.new (w := w)).next hb
        have xa0 := bA.out.cell 0 _ rfl
        have xa1 := bA.out.cell 1 _ rfl
        have xa2 := bA.out.cell 2 _ rfl
        have xa3 := bA.out.cell 3 _ rfl
        have xa4 := bA.out.cell 4 _ rfl
        have xa5 := bA.out.cell 5 _ rfl
        clear hb
        go_wp2_with fail
        clear xa0 xa1 xa2 xa3 xa4 xa5
        go_loopw [7] (fun iv wr => ∃ k1 : Nat, k1 ≤ n ∧ iv = .int .i64 k1 ∧ Hid (kidsB (fun y q => exOk d y q (deep - 1)) (ks.take k1) true false = true) ∧ Hid (SameOn All W1 wr) ∧ Below w.heap.size w wr) (fun iv _ => n - (intOf iv).toNat)
        case atStart => exact ⟨0, Nat.zero_le _, rfl, kidsB_nil _ _ _ _, ⟨Nat.le_refl _, fun _ _ _ => rfl⟩, B1.out⟩
        case round =>
          obtain ⟨k1, hk, rfl, hall, hso, hb⟩ := hrel
          have HB : Hid (Below w.heap.size w wr) := hb
          have b1 := bA.out.same_on hso.out
          have hlw := b1.lt
          have xa0 := b1.cell 0 _ rfl
          have xa1 := b1.cell 1 _ rfl
          have xa2 := b1.cell 2 _ rfl
          have xa3 := b1.cell 3 _ rfl
          have xa4 := b1.cell 4 _ rfl
          have xa5 := b1.cell 5 _ rfl
          clear b1
          by_cases hlt : k1 < n
          · obtain ⟨x, hxk⟩ : ∃ x, ks[k1]? = some x := ⟨ks[k1]'(by rw [HN.out]; exact hlt), List.getElem?_eq_getElem _⟩
            obtain ⟨g, off, rfl, -, hgl, hat⟩ := HX.out (by intro h; rw [h] at hxk; simp at hxk)
            obtain ⟨cs, hcsl, hcs, r1⟩ := hat k1 x hxk
            have E1 : ∀ w', SameOn All wr w' → HEx w' All d cs x := fun w' hw => r1.mono (SameOn.trans (SameOn.of_below hb) hw) (fun _ h => h)
            obtain ⟨c0, c1, c2, c3, c4, c5, rfl⟩ := len6 hcsl
            have a0 := hcs 0 (by omega)
            have a1 := hcs 1 (by omega)
            have a2 := hcs 2 (by omega)
            have a3 := hcs 3 (by omega)
            have a4 := hcs 4 (by omega)
            have a5 := hcs 5 (by omega)
            rw [← hb.cell (p := ⟨g, _, none⟩) hgl] at a0 a1 a2 a3 a4 a5
            simp at a0 a1 a2 a3 a4 a5
            have hki : (k1 : Int) < (n : Int) := by omega
            have hk0 : (0 : Int) ≤ (k1 : Int) := by omega
            have hgw : g < wr.heap.size := Nat.lt_of_lt_of_le hgl hb.size
            have qa0 : ∀ m : Wd (fun w' => SameOn All wr w' ∧ Below w.heap.size w w'), m.val.cell? ⟨g, off + k1 * 6, none⟩ = some c0 := fun m => (World.cell?_of_block (m.ok.1.2 g trivial hgw)).trans a0
            have qa1 : ∀ m : Wd (fun w' => SameOn All wr w' ∧ Below w.heap.size w w'), m.val.cell? ⟨g, off + k1 * 6 + 1, none⟩ = some c1 := fun m => (World.cell?_of_block (m.ok.1.2 g trivial hgw)).trans a1
            have qa2 : ∀ m : Wd (fun w' => SameOn All wr w' ∧ Below w.heap.size w w'), m.val.cell? ⟨g, off + k1 * 6 + 2, none⟩ = some c2 := fun m => (World.cell?_of_block (m.ok.1.2 g trivial hgw)).trans a2
            have qa3 : ∀ m : Wd (fun w' => SameOn All wr w' ∧ Below w.heap.size w w'), m.val.cell? ⟨g, off + k1 * 6 + 3, none⟩ = some c3 := fun m => (World.cell?_of_block (m.ok.1.2 g trivial hgw)).trans a3
            have qa4 : ∀ m : Wd (fun w' => SameOn All wr w' ∧ Below w.heap.size w w'), m.val.cell? ⟨g, off + k1 * 6 + 4, none⟩ = some c4 := fun m => (World.cell?_of_block (m.ok.1.2 g trivial hgw)).trans a4
            have qa5 : ∀ m : Wd (fun w' => SameOn All wr w' ∧ Below w.heap.size w w'), m.val.cell? ⟨g, off + k1 * 6 + 5, none⟩ = some c5 := fun m => (World.cell?_of_block (m.ok.1.2 g trivial hgw)).trans a5
            have qx0 : ∀ m : Wd (fun w' => SameOn All wr w' ∧ Below w.heap.size w w'), m.val.cell? ⟨w.heap.size, 0, none⟩ = some (.int .i64 9) := fun m => (World.cell?_of_block (m.ok.1.2 w.heap.size trivial hlw)).trans xa0
            have qx4 : ∀ m : Wd (fun w' => SameOn All wr w' ∧ Below w.heap.size w w'), m.val.cell? ⟨w.heap.size, 4, none⟩ = some (.slice (some ⟨g, off, none⟩) n cap) := fun m => (World.cell?_of_block (m.ok.1.2 w.heap.size trivial hlw)).trans xa4
            clear hb hcs hat hcsl r1
            by_cases hz : k1 = 0
            · have HIF : Hid ((if k1 = 0 then true else false) = true) := by show _ = _; rw [if_pos hz]
              have hz2 : ((k1 : Int) == 0) = true := by simp; omega
              clear hz
              generalize hcv : exOk d x true (deep - 1) = cv
              have HCV : Hid (exOk d x true (deep - 1) = cv) := hcv
              have HC2 : Hid (cv = true → kidsB (fun y q => exOk d y q (deep - 1)) (ks.take (k1 + 1)) true false = true) := fun h => kidsB_succ _ ks _ _ k1 x hxk hall.out (by rw [HIF.out]; exact hcv.trans h)
              have HC3 : Hid (cv = false → kidsB (fun y q => exOk d y q (deep - 1)) ks true false = false) := fun h => kidsB_at _ ks _ _ k1 x hxk (by rw [HIF.out]; exact hcv.trans h)
              clear hcv
              go_wp2
              have hCne : Nonempty (Wd (fun w' => SameOn All wr w' ∧ Below w.heap.size w w')) := ⟨⟨wr.drew, ⟨⟨Nat.le_refl _, fun _ _ _ => rfl⟩, HB.out.drew⟩⟩⟩
              refine wp_region_class (fun w' => SameOn All wr w' ∧ Below w.heap.size w w') (by kernel_rfl) (by kernel_rfl) ⟨⟨Nat.le_refl _, fun _ _ _ => rfl⟩, HB.out.drew⟩ ?_
              repeat (go_big_quiet_step (first | (rename_i m; go_at_call 51; refine (h1 _ _ x true (deep - 1) (E1 _ m.ok.1) (by omega) (by omega)).mono ?_; rintro e w1 ⟨rfl, hb1⟩; exact ⟨by rw [HCV.out], ⟨⟨w1, ⟨(SameOn.trans m.ok.1 (SameOn.of_below hb1)), m.ok.2.trans (hb1.mono m.ok.2.size)⟩⟩, rfl⟩⟩)))
              refine wpQuiet_nil ?_
              rintro _ ⟨mq, rfl⟩
              have HB4 : Hid (Below w.heap.size w mq.val) := mq.ok.2
              have HS4 : Hid (SameOn All W1 mq.val) := hso.out.trans mq.ok.1
              generalize mq.val = w4 at HB4 HS4 ⊢
              clear HCV
              cases cv with
              | true =>
                have HT' : Hid _ := HC2.out rfl
                clear HC2 HC3
                go_wp2_with fail
                exact ⟨⟨k1 + 1, by omega, by go_num, HT'.out, HS4.out, HB4.out⟩, by simp [intOf]; omega⟩
              | false =>
                have HF : Hid _ := HC3.out rfl
                clear HC2 HC3
                go_wp2_with fail
                go_ret
                exact ⟨by rw [HF.out]; simp, HB4.out⟩
            · have HIF : Hid ((if k1 = 0 then true else false) = false) := by show _ = _; rw [if_neg hz]
              have hz2 : ((k1 : Int) == 0) = false := by simp; omega
              clear hz
              generalize hcv : exOk d x false (deep - 1) = cv
              have HCV : Hid (exOk d x false (deep - 1) = cv) := hcv
              have HC2 : Hid (cv = true → kidsB (fun y q => exOk d y q (deep - 1)) (ks.take (k1 + 1)) true false = true) := fun h => kidsB_succ _ ks _ _ k1 x hxk hall.out (by rw [HIF.out]; exact hcv.trans h)
              have HC3 : Hid (cv = false → kidsB (fun y q => exOk d y q (deep - 1)) ks true false = false) := fun h => kidsB_at _ ks _ _ k1 x hxk (by rw [HIF.out]; exact hcv.trans h)
              clear hcv
              go_wp2
              have hCne : Nonempty (Wd (fun w' => SameOn All wr w' ∧ Below w.heap.size w w')) := ⟨⟨wr.drew, ⟨⟨Nat.le_refl _, fun _ _ _ => rfl⟩, HB.out.drew⟩⟩⟩
              refine wp_region_class (fun w' => SameOn All wr w' ∧ Below w.heap.size w w') (by kernel_rfl) (by kernel_rfl) ⟨⟨Nat.le_refl _, fun _ _ _ => rfl⟩, HB.out.drew⟩ ?_
              repeat (go_big_quiet_step (first | (rename_i m; go_at_call 51; refine (h1 _ _ x false (deep - 1) (E1 _ m.ok.1) (by omega) (by omega)).mono ?_; rintro e w1 ⟨rfl, hb1⟩; exact ⟨by rw [HCV.out], ⟨⟨w1, ⟨(SameOn.trans m.ok.1 (SameOn.of_below hb1)), m.ok.2.trans (hb1.mono m.ok.2.size)⟩⟩, rfl⟩⟩)))
              refine wpQuiet_nil ?_
              rintro _ ⟨mq, rfl⟩
              have HB4 : Hid (Below w.heap.size w mq.val) := mq.ok.2
              have HS4 : Hid (SameOn All W1 mq.val) := hso.out.trans mq.ok.1
              generalize mq.val = w4 at HB4 HS4 ⊢
              clear HCV
              cases cv with
              | true =>
                have HT' : Hid _ := HC2.out rfl
                clear HC2 HC3
                go_wp2_with fail
                exact ⟨⟨k1 + 1, by omega, by go_num, HT'.out, HS4.out, HB4.out⟩, by simp [intOf]; omega⟩
              | false =>
                have HF : Hid _ := HC3.out rfl
                clear HC2 HC3
                go_wp2_with fail
                go_ret
                exact ⟨by rw [HF.out]; simp, HB4.out⟩
          · have HD_ks : Hid (kidsB (fun y q => exOk d y q (deep - 1)) ks true false = true) := by
              have := hall.out
              rwa [List.take_of_length_le (by rw [HN.out]; omega)] at this
            clear hb
            go_wp2_with fail
            clear xa0 xa1 xa2 xa3 xa4 xa5
            go_loopw [8] (fun iv wr => ∃ k2 : Nat, k2 ≤ m ∧ iv = .int .i64 k2 ∧ Hid ((cl.take k2).all (fun y => clB (fun z q => exOk d z q (deep - 1)) y 1) = true) ∧ Hid (SameOn All W1 wr) ∧ Below w.heap.size w wr) (fun iv _ => m - (intOf iv).toNat)
            case atStart => exact ⟨0, Nat.zero_le _, rfl, by show _ = _; simp, hso.out, HB.out⟩
            case round =>
              obtain ⟨k2, hk, rfl, hall, hso, hb⟩ := hrel
              have HB : Hid (Below w.heap.size w wr) := hb
              have b1 := bA.out.same_on hso.out
              have xa0 := b1.cell 0 _ rfl
              have xa1 := b1.cell 1 _ rfl
              have xa2 := b1.cell 2 _ rfl
              have xa3 := b1.cell 3 _ rfl
              have xa4 := b1.cell 4 _ rfl
              have xa5 := b1.cell 5 _ rfl
              clear b1
              by_cases hlt : k2 < m
              · obtain ⟨x, hxk⟩ : ∃ x, cl[k2]? = some x := ⟨cl[k2]'(by rw [HM.out]; exact hlt), List.getElem?_eq_getElem _⟩
                obtain ⟨g, off, rfl, -, hgl, hat⟩ := HY.out (by intro h; rw [h] at hxk; simp at hxk)
                obtain ⟨cs, hcsl, hcs, r1⟩ := hat k2 x hxk
                have E1 : ∀ w', SameOn All wr w' → HCl w' All (HEx w' All d) cs x := fun w' hw => r1.mono (SameOn.trans (SameOn.of_below hb) hw) (fun _ h => h) (fun _ _ h => h.mono (SameOn.trans (SameOn.of_below hb) hw) (fun _ h => h))
                obtain ⟨c0, c1, rfl⟩ := len2 hcsl
                have a0 := hcs 0 (by omega)
                have a1 := hcs 1 (by omega)
                rw [← hb.cell (p := ⟨g, _, none⟩) hgl] at a0 a1
                simp at a0 a1
                have hki : (k2 : Int) < (m : Int) := by omega
                have hk0 : (0 : Int) ≤ (k2 : Int) := by omega
                clear hb hcs hat hcsl r1
                generalize hcv : (fun y => clB (fun z q => exOk d z q (deep - 1)) y 1) x = cv
                have HCV : Hid ((fun y => clB (fun z q => exOk d z q (deep - 1)) y 1) x = cv) := hcv
                have HC2 : Hid (cv = true → (cl.take (k2 + 1)).all (fun y => clB (fun z q => exOk d z q (deep - 1)) y 1) = true) := fun h => allT_succ _ cl k2 x hxk hall.out (hcv.trans h)
                have HC3 : Hid (cv = false → cl.all (fun y => clB (fun z q => exOk d z q (deep - 1)) y 1) = false) := fun h => allT_at _ cl k2 x hxk (hcv.trans h)
                clear hcv
                go_wp2_with fail
                refine (h2 _ _ x 1 (deep - 1) (E1 _ ⟨Nat.le_refl _, fun _ _ _ => rfl⟩) (by omega) (by omega)).mono ?_
                rintro e w4 ⟨rfl, hb4⟩
                have HB4 : Hid (Below w.heap.size w w4) := HB.out.trans (hb4.mono HB.out.size)
                have HS4 : Hid (SameOn All W1 w4) := hso.out.trans (SameOn.of_below hb4)
                rw [show clB (fun z q => exOk d z q (deep - 1)) x 1 = cv from HCV.out]
                clear hb4
                cases cv with
                | true =>
                  have HT := HC2.out rfl
                  clear HC2 HC3 HCV
                  have HT' : Hid _ := HT
                  clear HT
                  go_wp2_with fail
                  exact ⟨⟨k2 + 1, by omega, by go_num, HT'.out, HS4.out, HB4.out⟩, by simp [intOf]; omega⟩
                | false =>
                  have HF : Hid (cl.all (fun y => clB (fun z q => exOk d z q (deep - 1)) y 1) = false) := HC3.out rfl
                  clear HC2 HC3 HCV
                  go_wp2_with fail
                  go_ret
                  exact ⟨by first | (rw [HF.out]; simp) | simp [HF.out], HB4.out⟩
              · have HD_cl : Hid (cl.all (fun y => clB (fun z q => exOk d z q (deep - 1)) y 1) = true) := by
                  have := hall.out
                  rwa [List.take_of_length_le (by rw [HM.out]; omega)] at this
                clear hb
                go_wp2_with fail
                go_ret
                exact ⟨by rw [HD_ks.out, HD_cl.out]; simp, HB.out⟩
      · have e9 : (false || decide (kx = 9)) = false := by simp [k9]
        have k9b : (kx == 9) = false := by simpa using k9
        have k3b : (kx == 3) = false := by simpa using k3
        rw [e9]
        simp only [Bool.true_and]
        go_enter Tryz.func51, Tryz.ntmps51
        go_wp2_with fail
        refine (plainS_any _ _ _ _ _ _ _ _ _ _ _ hts hms hnb hmb).mono ?_
        rintro e W1 ⟨rfl, hb⟩
        rw [hpl]
        have B1 : Hid (Below w.heap.size w W1) := ((Below.refl _ _).alloc (Nat.le_refl _) _).trans (hb.mono (by simp))
        have bA : Hid (Blk W1 w.heap.size #[.int .i64 kx, .int .i64 nx, .string tx, .string mx, .slice p n cap, .slice q m cap'] 73) := (Blk.new (w := w)).next hb
        have xa0 := bA.out.cell 0 _ rfl
        have xa1 := bA.out.cell 1 _ rfl
        have xa2 := bA.out.cell 2 _ rfl
        have xa3 := bA.out.cell 3 _ rfl
        have xa4 := bA.out.cell 4 _ rfl
        have xa5 := bA.out.cell 5 _ rfl
        clear hb
        go_wp2_with fail
        clear xa0 xa1 xa2 xa3 xa4 xa5
        go_loopw [7] (fun iv wr => ∃ k1 : Nat, k1 ≤ n ∧ iv = .int .i64 k1 ∧ Hid (kidsB (fun y q => exOk d y q (deep - 1)) (ks.take k1) false false = true) ∧ Hid (SameOn All W1 wr) ∧ Below w.heap.size w wr) (fun iv _ => n - (intOf iv).toNat)
        case atStart => exact ⟨0, Nat.zero_le _, rfl, kidsB_nil _ _ _ _, ⟨Nat.le_refl _, fun _ _ _ => rfl⟩, B1.out⟩
        case round =>
          obtain ⟨k1, hk, rfl, hall, hso, hb⟩ := hrel
          have HB : Hid (Below w.heap.size w wr) := hb
          have b1 := bA.out.same_on hso.out
          have hlw := b1.lt
          have xa0 := b1.cell 0 _ rfl
          have xa1 := b1.cell 1 _ rfl
          have xa2 := b1.cell 2 _ rfl
          have xa3 := b1.cell 3 _ rfl
          have xa4 := b1.cell 4 _ rfl
          have xa5 := b1.cell 5 _ rfl
          clear b1
          by_cases hlt : k1 < n
          · obtain ⟨x, hxk⟩ : ∃ x, ks[k1]? = some x := ⟨ks[k1]'(by rw [HN.out]; exact hlt), List.getElem?_eq_getElem _⟩
            obtain ⟨g, off, rfl, -, hgl, hat⟩ := HX.out (by intro h; rw [h] at hxk; simp at hxk)
            obtain ⟨cs, hcsl, hcs, r1⟩ := hat k1 x hxk
            have E1 : ∀ w', SameOn All wr w' → HEx w' All d cs x := fun w' hw => r1.mono (SameOn.trans (SameOn.of_below hb) hw) (fun _ h => h)
            obtain ⟨c0, c1, c2, c3, c4, c5, rfl⟩ := len6 hcsl
            have a0 := hcs 0 (by omega)
            have a1 := hcs 1 (by omega)
            have a2 := hcs 2 (by omega)
            have a3 := hcs 3 (by omega)
            have a4 := hcs 4 (by omega)
            have a5 := hcs 5 (by omega)
            rw [← hb.cell (p := ⟨g, _, none⟩) hgl] at a0 a1 a2 a3 a4 a5
            simp at a0 a1 a2 a3 a4 a5
            have hki : (k1 : Int) < (n : Int) := by omega
            have hk0 : (0 : Int) ≤ (k1 : Int) := by omega
            have hgw : g < wr.heap.size := Nat.lt_of_lt_of_le hgl hb.size
            have qa0 : ∀ m : Wd (fun w' => SameOn All wr w' ∧ Below w.heap.size w w'), m.val.cell? ⟨g, off + k1 * 6, none⟩ = some c0 := fun m => (World.cell?_of_block (m.ok.1.2 g trivial hgw)).trans a0
            have qa1 : ∀ m : Wd (fun w' => SameOn All wr w' ∧ Below w.heap.size w w'), m.val.cell? ⟨g, off + k1 * 6 + 1, none⟩ = some c1 := fun m => (World.cell?_of_block (m.ok.1.2 g trivial hgw)).trans a1
            have qa2 : ∀ m : Wd (fun w' => SameOn All wr w' ∧ Below w.heap.size w w'), m.val.cell? ⟨g, off + k1 * 6 + 2, none⟩ = some c2 := fun m => (World.cell?_of_block (m.ok.1.2 g trivial hgw)).trans a2
            have qa3 : ∀ m : Wd (fun w' => SameOn All wr w' ∧ Below w.heap.size w w'), m.val.cell? ⟨g, off + k1 * 6 + 3, none⟩ = some c3 := fun m => (World.cell?_of_block (m.ok.1.2 g trivial hgw)).trans a3
            have qa4 : ∀ m : Wd (fun w' => SameOn All wr w' ∧ Below w.heap.size w w'), m.val.cell? ⟨g, off + k1 * 6 + 4, none⟩ = some c4 := fun m => (World.cell?_of_block (m.ok.1.2 g trivial hgw)).trans a4
            have qa5 : ∀ m : Wd (fun w' => SameOn All wr w' ∧ Below w.heap.size w w'), m.val.cell? ⟨g, off + k1 * 6 + 5, none⟩ = some c5 := fun m => (World.cell?_of_block (m.ok.1.2 g trivial hgw)).trans a5
            have qx0 : ∀ m : Wd (fun w' => SameOn All wr w' ∧ Below w.heap.size w w'), m.val.cell? ⟨w.heap.size, 0, none⟩ = some (.int .i64 kx) := fun m => (World.cell?_of_block (m.ok.1.2 w.heap.size trivial hlw)).trans xa0
            have qx4 : ∀ m : Wd (fun w' => SameOn All wr w' ∧ Below w.heap.size w w'), m.val.cell? ⟨w.heap.size, 4, none⟩ = some (.slice (some ⟨g, off, none⟩) n cap) := fun m => (World.cell?_of_block (m.ok.1.2 w.heap.size trivial hlw)).trans xa4
            clear hb hcs hat hcsl r1
            generalize hcv : exOk d x false (deep - 1) = cv
            have HCV : Hid (exOk d x false (deep - 1) = cv) := hcv
            have HC2 : Hid (cv = true → kidsB (fun y q => exOk d y q (deep - 1)) (ks.take (k1 + 1)) false false = true) := fun h => kidsB_succ _ ks _ _ k1 x hxk hall.out (by rw [ite_self]; exact hcv.trans h)
            have HC3 : Hid (cv = false → kidsB (fun y q => exOk d y q (deep - 1)) ks false false = false) := fun h => kidsB_at _ ks _ _ k1 x hxk (by rw [ite_self]; exact hcv.trans h)
            clear hcv
            go_wp2
            have hCne : Nonempty (Wd (fun w' => SameOn All wr w' ∧ Below w.heap.size w w')) := ⟨⟨wr.drew, ⟨⟨Nat.le_refl _, fun _ _ _ => rfl⟩, HB.out.drew⟩⟩⟩
            refine wp_region_class (fun w' => SameOn All wr w' ∧ Below w.heap.size w w') (by kernel_rfl) (by kernel_rfl) ⟨⟨Nat.le_refl _, fun _ _ _ => rfl⟩, HB.out.drew⟩ ?_
            repeat (go_big_quiet_step (first | (rename_i m; go_at_call 51; refine (h1 _ _ x false (deep - 1) (E1 _ m.ok.1) (by omega) (by omega)).mono ?_; rintro e w1 ⟨rfl, hb1⟩; exact ⟨by rw [HCV.out], ⟨⟨w1, ⟨(SameOn.trans m.ok.1 (SameOn.of_below hb1)), m.ok.2.trans (hb1.mono m.ok.2.size)⟩⟩, rfl⟩⟩)))
            refine wpQuiet_nil ?_
            rintro _ ⟨mq, rfl⟩
            have HB4 : Hid (Below w.heap.size w mq.val) := mq.ok.2
            have HS4 : Hid (SameOn All W1 mq.val) := hso.out.trans mq.ok.1
            generalize mq.val = w4 at HB4 HS4 ⊢
            clear HCV
            cases cv with
            | true =>
              have HT' : Hid _ := HC2.out rfl
              clear HC2 HC3
              go_wp2_with fail
              exact ⟨⟨k1 + 1, by omega, by go_num, HT'.out, HS4.out, HB4.out⟩, by simp [intOf]; omega⟩
            | false =>
              have HF : Hid _ := HC3.out rfl
              clear HC2 HC3
              go_wp2_with fail
              go_ret
              exact ⟨by rw [HF.out]; simp, HB4.out⟩
          · have HD_ks : Hid (kidsB (fun y q => exOk d y q (deep - 1)) ks false false = true) := by
              have := hall.out
              rwa [List.take_of_length_le (by rw [HN.out]; omega)] at this
            clear hb
            go_wp2_with fail
            clear xa0 xa1 xa2 xa3 xa4 xa5
            go_loopw [8] (fun iv wr => ∃ k2 : Nat, k2 ≤ m ∧ iv = .int .i64 k2 ∧ Hid ((cl.take k2).all (fun y => clB (fun z q => exOk d z q (deep - 1)) y 1) = true) ∧ Hid (SameOn All W1 wr) ∧ Below w.heap.size w wr) (fun iv _ => m - (intOf iv).toNat)
            case atStart => exact ⟨0, Nat.zero_le _, rfl, by show _ = _; simp, hso.out, HB.out⟩
            case round =>
              obtain ⟨k2, hk, rfl, hall, hso, hb⟩ := hrel
              have HB : Hid (Below w.heap.size w wr) := hb
              have b1 := bA.out.same_on hso.out
              have xa0 := b1.cell 0 _ rfl
              have xa1 := b1.cell 1 _ rfl
              have xa2 := b1.cell 2 _ rfl
              have xa3 := b1.cell 3 _ rfl
              have xa4 := b1.cell 4 _ rfl
              have xa5 := b1.cell 5 _ rfl
              clear b1
              by_cases hlt : k2 < m
              · obtain ⟨x, hxk⟩ : ∃ x, cl[k2]? = some x := ⟨cl[k2]'(by rw [HM.out]; exact hlt), List.getElem?_eq_getElem _⟩
                obtain ⟨g, off, rfl, -, hgl, hat⟩ := HY.out (by intro h; rw [h] at hxk; simp at hxk)
                obtain ⟨cs, hcsl, hcs, r1⟩ := hat k2 x hxk
                have E1 : ∀ w', SameOn All wr w' → HCl w' All (HEx w' All d) cs x := fun w' hw => r1.mono (SameOn.trans (SameOn.of_below hb) hw) (fun _ h => h) (fun _ _ h => h.mono (SameOn.trans (SameOn.of_below hb) hw) (fun _ h => h))
                obtain ⟨c0, c1, rfl⟩ := len2 hcsl
                have a0 := hcs 0 (by omega)
                have a1 := hcs 1 (by omega)
                rw [← hb.cell (p := ⟨g, _, none⟩) hgl] at a0 a1
                simp at a0 a1
                have hki : (k2 : Int) < (m : Int) := by omega
                have hk0 : (0 : Int) ≤ (k2 : Int) := by omega
                clear hb hcs hat hcsl r1
                generalize hcv : (fun y => clB (fun z q => exOk d z q (deep - 1)) y 1) x = cv
                have HCV : Hid ((fun y => clB (fun z q => exOk d z q (deep - 1)) y 1) x = cv) := hcv
                have HC2 : Hid (cv = true → (cl.take (k2 + 1)).all (fun y => clB (fun z q => exOk d z q (deep - 1)) y 1) = true) := fun h => allT_succ _ cl k2 x hxk hall.out (hcv.trans h)
                have HC3 : Hid (cv = false → cl.all (fun y => clB (fun z q => exOk d z q (deep - 1)) y 1) = false) := fun h => allT_at _ cl k2 x hxk (hcv.trans h)
                clear hcv
                go_wp2_with fail
                refine (h2 _ _ x 1 (deep - 1) (E1 _ ⟨Nat.le_refl _, fun _ _ _ => rfl⟩) (by omega) (by omega)).mono ?_
                rintro e w4 ⟨rfl, hb4⟩
                have HB4 : Hid (Below w.heap.size w w4) := HB.out.trans (hb4.mono HB.out.size)
                have HS4 : Hid (SameOn All W1 w4) := hso.out.trans (SameOn.of_below hb4)
                rw [show clB (fun z q => exOk d z q (deep - 1)) x 1 = cv from HCV.out]
                clear hb4
                cases cv with
                | true =>
                  have HT := HC2.out rfl
                  clear HC2 HC3 HCV
                  have HT' : Hid _ := HT
                  clear HT
                  go_wp2_with fail
                  exact ⟨⟨k2 + 1, by omega, by go_num, HT'.out, HS4.out, HB4.out⟩, by simp [intOf]; omega⟩
                | false =>
                  have HF : Hid (cl.all (fun y => clB (fun z q => exOk d z q (deep - 1)) y 1) = false) := HC3.out rfl
                  clear HC2 HC3 HCV
                  go_wp2_with fail
                  go_ret
                  exact ⟨by first | (rw [HF.out]; simp) | simp [HF.out], HB4.out⟩
              · have HD_cl : Hid (cl.all (fun y => clB (fun z q => exOk d z q (deep - 1)) y 1) = true) := by
                  have := hall.out
                  rwa [List.take_of_length_le (by rw [HM.out]; omega)] at this
                clear hb
                go_wp2_with fail
                go_ret
                exact ⟨by rw [HD_ks.out, HD_cl.out]; simp, HB.out⟩

theorem right_allS : ∀ d, RgC d
  | 0 => fun w cs x pat deep h _ _ => h.elim
  | d + 1 => rightS_of (right_allS d) (clauseS_of (right_allS d))
theorem clause_allS (d : Nat) : ClC d := clauseS_of (right_allS d)

end Go.Proofs.YtpkhblhcdnohmaaGreatDoor
/-
  The specification's ModuleOk, by contract: modules.
-/
namespace Go.Proofs.YtpkhblhcdnohmaaGreatDoor
open Go.ChangeShapes Go.WideShapes Go.ChangeAt Go.RowKit
set_option linter.unusedVariables false

theorem any_take_lt {α : Type} (f : α → Bool) (xs : List α) (i k : Nat) (x : α) (h : xs[k]? = some x) (hf : f x = true) (hki : k < i) : (xs.take i).any f = true := by
  rw [List.any_eq_true]
  refine ⟨x, List.mem_of_getElem? (i := k) ?_, hf⟩
  rw [List.getElem?_take, if_pos hki]; exact h
theorem any_take_get {α : Type} (f : α → Bool) (xs : List α) (i : Nat) (h : (xs.take i).any f = true) : ∃ j x, j < i ∧ xs[j]? = some x ∧ f x = true := by
  rw [List.any_eq_true] at h
  obtain ⟨x, hx, hf⟩ := h
  obtain ⟨j, hj⟩ := List.mem_iff_getElem?.1 hx
  rw [List.getElem?_take] at hj
  split at hj
  · exact ⟨j, x, by assumption, hj, hf⟩
  · cases hj

set_option maxHeartbeats 8000000 in
set_option maxRecDepth 100000 in
theorem l02Find_any (d : Nat) (w : World) (ms : ByteArray) (pe : Option Addr) (ne ce : Nat) (v : Value) (fs : List Fn') (i : Nat) (f : Fn') (h : Rows w All 3 (HFn w All d) v fs) (hi : fs[i]? = some f) :
    Calls Tryz.prog 32 #[.agg #[.string ms, .slice pe ne ce, v], .string f.name, .int .i64 f.arity] w fun e w' => ∃ r : Int, e = .returned (.int .i64 r) ∧ (r == (i : Int)) = !(fs.take i).any (sameR ⟨f.name, f.arity⟩) ∧ Below w.heap.size w w' := by
  obtain ⟨pf, cf, rfl, hcl, hcm, hx⟩ := h
  have hnb : fs.length ≤ 9223372036854775807 := by unfold maxLen at hcm; omega
  have HI : Hid (fs[i]? = some f) := hi
  have hself : sameR ⟨f.name, f.arity⟩ f = true := by simp [sameR]
  have HSELF : Hid (sameR ⟨f.name, f.arity⟩ f = true) := hself
  obtain ⟨rs, rn, fcl⟩ := f
  simp only at *
  generalize hn : fs.length = nf at *
  have HN : Hid (fs.length = nf) := hn
  have HX : Hid (fs ≠ [] → ∃ g off, pf = some ⟨g, off, none⟩ ∧ All g ∧ g < w.heap.size ∧ ∀ i x, fs[i]? = some x → ∃ cs, cs.length = 3 ∧ (∀ j, j < 3 → w.cell? ⟨g, off + i * 3 + j, none⟩ = cs[j]?) ∧ HFn w All d cs x) := hx
  obtain ⟨W1, hW1⟩ : ∃ W1, W1 = w.alloc (.cells #[.string ms, .slice pe ne ce, .slice pf nf cf] 31) := ⟨_, rfl⟩
  have bA : Hid (Blk W1 w.heap.size #[.string ms, .slice pe ne ce, .slice pf nf cf] 31) := by show Blk _ _ _ _; rw [hW1]; exact Blk.new
  have B1 : Hid (Below w.heap.size w W1) := by show Below _ _ _; rw [hW1]; exact (Below.refl _ _).alloc (Nat.le_refl _) _
  have xa2 := bA.out.cell 2 _ rfl
  have HW1 : Hid (W1 = w.alloc (.cells #[.string ms, .slice pe ne ce, .slice pf nf cf] 31)) := hW1
  clear hx hn hi hself hW1
  go_enter Tryz.func32, Tryz.ntmps32
  go_wp2_with fail
  rw [← HW1.out]
  go_loop [7] (fun iv => ∃ k : Nat, k ≤ nf ∧ iv = .int .i64 k ∧ Hid ((fs.take k).any (sameR ⟨rs, rn⟩) = false)) (fun iv => nf - (intOf iv).toNat)
  case atStart => exact ⟨0, Nat.zero_le _, rfl, by show _ = _; simp⟩
  case round =>
    obtain ⟨k, hk, rfl, hall⟩ := hrel
    by_cases hlt : k < nf
    · obtain ⟨x, hxk⟩ : ∃ x, fs[k]? = some x := ⟨fs[k]'(by rw [HN.out]; exact hlt), List.getElem?_eq_getElem _⟩
      obtain ⟨g, off, rfl, -, hgl, hat⟩ := HX.out (by intro h; rw [h] at hxk; simp at hxk)
      obtain ⟨cs, hcsl, hcs, r1⟩ := hat k x hxk
      obtain ⟨p1, n1, q1, rfl⟩ := fnShape r1
      have HC2 : Hid (sameR ⟨rs, rn⟩ x = false → (fs.take (k + 1)).any (sameR ⟨rs, rn⟩) = false) := fun h => anyT_succ _ fs k _ hxk hall.out h
      have HC3 : Hid (sameR ⟨rs, rn⟩ x = true → ((k : Int) == (i : Int)) = !(fs.take i).any (sameR ⟨rs, rn⟩)) := fun h => by
        have hki : k ≤ i := Classical.byContradiction fun hc => by
          have := any_take_lt (sameR ⟨rs, rn⟩) fs k i _ HI.out HSELF.out (by omega)
          rw [hall.out] at this; cases this
        by_cases he : k = i
        · subst he; rw [hall.out]; simp
        · rw [any_take_lt (sameR ⟨rs, rn⟩) fs i k x hxk h (by omega)]; simp; omega
      obtain ⟨xs, xn, xc⟩ := x
      simp only at *
      have hsm : sameR ⟨rs, rn⟩ ⟨xs, xn, xc⟩ = (xs.toList == rs.toList && xn == rn) := rfl
      rw [hsm] at HC2 HC3
      have a0 := hcs 0 (by omega)
      have a1 := hcs 1 (by omega)
      have a2 := hcs 2 (by omega)
      rw [← B1.out.cell (p := ⟨g, _, none⟩) hgl] at a0 a1 a2
      simp at a0 a1 a2
      have hki : (k : Int) < (nf : Int) := by omega
      have hk0 : (0 : Int) ≤ (k : Int) := by omega
      clear hcs hat hcsl r1 hsm
      cases c1 : (xs.toList == rs.toList) with
      | false =>
        have HT' : Hid ((fs.take (k + 1)).any (sameR ⟨rs, rn⟩) = false) := HC2.out (by rw [c1]; rfl)
        clear HC2 HC3
        go_wp2
        go_round
        case rel => exact ⟨k + 1, by omega, by go_num, HT'⟩
        case measure => simp [intOf]; omega
      | true =>
        cases c2 : (xn == rn) with
        | false =>
          have HT' : Hid ((fs.take (k + 1)).any (sameR ⟨rs, rn⟩) = false) := HC2.out (by rw [c2, Bool.and_false])
          clear HC2 HC3
          go_wp2
          go_round
          case rel => exact ⟨k + 1, by omega, by go_num, HT'⟩
          case measure => simp [intOf]; omega
        | true =>
          have HF : Hid (((k : Int) == (i : Int)) = !(fs.take i).any (sameR ⟨rs, rn⟩)) := HC3.out (by rw [c1, c2]; rfl)
          clear HC2 HC3
          go_wp2
          go_ret
          exact ⟨_, rfl, HF.out, B1.out⟩
    · exfalso
      have h1 := hall.out
      have h2 := any_take_lt (sameR ⟨rs, rn⟩) fs k i _ HI.out HSELF.out (by
        have := (List.getElem?_eq_some_iff.1 HI.out).1
        have := HN.out
        omega)
      rw [h1] at h2; cases h2

set_option maxHeartbeats 16000000 in
set_option maxRecDepth 100000 in
/-- THE SPECIFICATION's ModuleOk. -/
theorem specModuleOk_any (d : Nat) (w : World) (cs : List Value) (m : Md) (h : HMd w All d cs m) :
    Calls Tryz.prog 15 #[.agg cs.toArray] w fun e w' => e = .returned (.bool (mdOk d m)) ∧ Below w.heap.size w w' := by
  obtain ⟨ev, fv, rfl, hs, f0, f1⟩ := h
  obtain ⟨ms, es, fs⟩ := m
  simp only at *
  have FR : ∀ w', Below w.heap.size w w' → Rows w' All 3 (HFn w' All d) fv fs := fun w' hw => f1.mono (SameOn.of_below hw) (fun _ h => h) (fun _ _ _ h => h.mono (SameOn.of_below hw) (fun _ h => h))
  obtain ⟨pe, ce, rfl, hce, hcme, hxe⟩ := f0
  obtain ⟨pf, cf, rfl, hcf, hcmf, hxf⟩ := f1
  have hne : es.length ≤ 9223372036854775807 := by unfold maxLen at hcme; omega
  have hnf : fs.length ≤ 9223372036854775807 := by unfold maxLen at hcmf; omega
  have hv : mdOk d ⟨ms, es, fs⟩ = (atomB ms && ((decide (es.length ≤ 20) && (List.range es.length).all (rfsAt es)) && (inB fs.length 1 30 && (List.range fs.length).all (fnsAt d fs)))) := rfl
  rw [hv]
  clear hv
  generalize hn : es.length = ne at *
  generalize hn2 : fs.length = nf at *
  have HN : Hid (es.length = ne) := hn
  have HN2 : Hid (fs.length = nf) := hn2
  have HE : Hid (es ≠ [] → ∃ g off, pe = some ⟨g, off, none⟩ ∧ All g ∧ g < w.heap.size ∧ ∀ i x, es[i]? = some x → ∃ cs, cs.length = 2 ∧ (∀ j, j < 2 → w.cell? ⟨g, off + i * 2 + j, none⟩ = cs[j]?) ∧ HRf cs x) := hxe
  have HF0 : Hid (fs ≠ [] → ∃ g off, pf = some ⟨g, off, none⟩ ∧ All g ∧ g < w.heap.size ∧ ∀ i x, fs[i]? = some x → ∃ cs, cs.length = 3 ∧ (∀ j, j < 3 → w.cell? ⟨g, off + i * 3 + j, none⟩ = cs[j]?) ∧ HFn w All d cs x) := hxf
  obtain ⟨W1, hW1⟩ : ∃ W1, W1 = w.alloc (.cells #[.string ms, .slice pe ne ce, .slice pf nf cf] 31) := ⟨_, rfl⟩
  have bA : Hid (Blk W1 w.heap.size #[.string ms, .slice pe ne ce, .slice pf nf cf] 31) := by show Blk _ _ _ _; rw [hW1]; exact Blk.new
  have B1 : Hid (Below w.heap.size w W1) := by show Below _ _ _; rw [hW1]; exact (Below.refl _ _).alloc (Nat.le_refl _) _
  have HW1 : Hid (W1 = w.alloc (.cells #[.string ms, .slice pe ne ce, .slice pf nf cf] 31)) := hW1
  clear hxe hxf hn hn2 hW1
  cases ha : atomB ms with
  | false =>
    go_enter Tryz.func15, Tryz.ntmps15
    go_wp2_with (first | (go_at_call 29; go_must (refine (specAtomOk_any _ _ hs).mono ?_; rintro e w9 ⟨rfl, rfl⟩; rw [ha])))
    rw [← HW1.out]
    go_ret
    exact ⟨by simp, B1.out⟩
  | true =>
  by_cases h20 : ¬ ne ≤ 20
  · have h21 : (20 : Int) < (ne : Int) := by omega
    rw [decide_eq_false h20]
    go_enter Tryz.func15, Tryz.ntmps15
    go_wp2_with (first | (go_at_call 29; go_must (refine (specAtomOk_any _ _ hs).mono ?_; rintro e w9 ⟨rfl, rfl⟩; rw [ha])))
    rw [← HW1.out]
    go_ret
    exact ⟨by simp, B1.out⟩
  replace h20 : ne ≤ 20 := by omega
  have h21 : ¬ (20 : Int) < (ne : Int) := by omega
  rw [decide_eq_true h20]
  cases hin : inB nf 1 30 with
  | false =>
    go_enter Tryz.func15, Tryz.ntmps15
    go_wp2_with (first | (go_at_call 29; go_must (refine (specAtomOk_any _ _ hs).mono ?_; rintro e w9 ⟨rfl, rfl⟩; rw [ha])) | (go_at_call 30; go_must (refine (l01In_any _ _ _ _).mono ?_; rintro e w9 ⟨rfl, rfl⟩; rw [hin])))
    rw [← HW1.out]
    go_ret
    exact ⟨by simp, B1.out⟩
  | true =>
  simp only [Bool.true_and]
  go_enter Tryz.func15, Tryz.ntmps15
  go_wp2_with (first | (go_at_call 29; go_must (refine (specAtomOk_any _ _ hs).mono ?_; rintro e w9 ⟨rfl, rfl⟩; rw [ha])) | (go_at_call 30; go_must (refine (l01In_any _ _ _ _).mono ?_; rintro e w9 ⟨rfl, rfl⟩; rw [hin])))
  rw [← HW1.out]
  go_loopw [3] (fun iv wr => ∃ k : Nat, k ≤ ne ∧ iv = .int .i64 k ∧ Hid ((List.range k).all (rfsAt es) = true) ∧ Hid (SameOn All W1 wr) ∧ Below w.heap.size w wr) (fun iv _ => ne - (intOf iv).toNat)
  case atStart => exact ⟨0, Nat.zero_le _, rfl, by show _ = _; simp, ⟨Nat.le_refl _, fun _ _ _ => rfl⟩, B1.out⟩
  case round =>
    obtain ⟨k, hk, rfl, hall, hso, hb⟩ := hrel
    have HB : Hid (Below w.heap.size w wr) := hb
    have b1 := bA.out.same_on hso.out
    have hlw := b1.lt
    have xa0 := b1.cell 0 _ rfl
    have xa1 := b1.cell 1 _ rfl
    have xa2 := b1.cell 2 _ rfl
    clear b1
    by_cases hlt : k < ne
    · obtain ⟨x, hxk⟩ : ∃ x, es[k]? = some x := ⟨es[k]'(by rw [HN.out]; exact hlt), List.getElem?_eq_getElem _⟩
      obtain ⟨g, off, rfl, -, hgl, hat⟩ := HE.out (by intro h; rw [h] at hxk; simp at hxk)
      obtain ⟨cs, hcsl, hcs, r1⟩ := hat k x hxk
      obtain ⟨rfl, hxs, -⟩ := r1
      have hgw : g < wr.heap.size := Nat.lt_of_lt_of_le hgl hb.size
      have HAT0 : Hid (k = 0 → rfsAt es k = refB x) := fun h => rfsAt_zero h hxk
      have HATS : Hid (∀ j, k = j + 1 → ∃ q : Rf, rfsAt es k = (refB x && lessB q x) ∧ wr.cell? ⟨g, off + j * 2, none⟩ = some (.string q.name) ∧ wr.cell? ⟨g, off + j * 2 + 1, none⟩ = some (.int .i64 q.arity)) := fun j hj => by
        obtain ⟨q, hq⟩ : ∃ q, es[j]? = some q := ⟨es[j]'(by rw [HN.out]; omega), List.getElem?_eq_getElem _⟩
        obtain ⟨cs', _, hcs', rfl, hqs, _⟩ := hat j q hq
        have b0 := hcs' 0 (by omega)
        have b1 := hcs' 1 (by omega)
        rw [← hb.cell (p := ⟨g, _, none⟩) hgl] at b0 b1
        exact ⟨q, rfsAt_succ (by omega) (by rw [hj]; exact hq) hxk, by simpa using b0, by simpa using b1⟩
      have a0 := hcs 0 (by omega)
      have a1 := hcs 1 (by omega)
      rw [← hb.cell (p := ⟨g, _, none⟩) hgl] at a0 a1
      simp at a0 a1
      have hki : (k : Int) < (ne : Int) := by omega
      have hk0 : (0 : Int) ≤ (k : Int) := by omega
      obtain ⟨xs, xn⟩ := x
      simp only at *
      have hrf : refB ⟨xs, xn⟩ = (atomB xs && inB xn 0 6) := rfl
      rw [hrf] at HAT0 HATS
      generalize hca : atomB xs = ca at *
      have HCA : Hid (atomB xs = ca) := hca
      generalize hci : inB xn 0 6 = ci at *
      have HCI : Hid (inB xn 0 6 = ci) := hci
      obtain ⟨W5, hW5⟩ : ∃ W5, W5 = wr.alloc (.cells #[.string xs, .int .i64 xn] 50) := ⟨_, rfl⟩
      have bF : Hid (Blk W5 wr.heap.size #[.string xs, .int .i64 xn] 50) := by show Blk _ _ _ _; rw [hW5]; exact Blk.new
      have K5 : Hid (Below wr.heap.size wr W5) := by show Below _ _ _; rw [hW5]; exact (Below.refl _ _).alloc (Nat.le_refl _) _
      have B5 : Hid (Below w.heap.size w W5) := hb.trans (K5.out.mono hb.size)
      have S5 : Hid (SameOn All W1 W5) := hso.out.trans (SameOn.of_below K5.out)
      have HW5 : Hid (W5 = wr.alloc (.cells #[.string xs, .int .i64 xn] 50)) := hW5
      have hg5 : g < W5.heap.size := Nat.lt_of_lt_of_le hgw K5.out.size
      have z0 := bF.out.cell 0 _ rfl
      have z1 := bF.out.cell 1 _ rfl
      have l2 := bF.out.lt
      have bM := bA.out.same_on S5.out
      have u1 := bM.cell 1 _ rfl
      have l3 := bM.lt
      have qz0 : ∀ m : Wd (fun w' => SameOn All W5 w' ∧ Below w.heap.size w w'), m.val.cell? ⟨wr.heap.size, 0, none⟩ = some (.string xs) := fun m => (World.cell?_of_block (m.ok.1.2 wr.heap.size trivial l2)).trans z0
      have qz1 : ∀ m : Wd (fun w' => SameOn All W5 w' ∧ Below w.heap.size w w'), m.val.cell? ⟨wr.heap.size, 1, none⟩ = some (.int .i64 xn) := fun m => (World.cell?_of_block (m.ok.1.2 wr.heap.size trivial l2)).trans z1
      have qu1 : ∀ m : Wd (fun w' => SameOn All W5 w' ∧ Below w.heap.size w w'), m.val.cell? ⟨w.heap.size, 1, none⟩ = some (.slice (some ⟨g, off, none⟩) ne ce) := fun m => (World.cell?_of_block (m.ok.1.2 w.heap.size trivial l3)).trans u1
      clear hb hcs hat hcsl hW5 z0 z1 l2 hca hci bM u1 l3
      by_cases hac : (ca && ci) = false
      · have HF : Hid ((List.range ne).all (rfsAt es) = false) := rangeT_at _ ne k hlt (by
          rcases Nat.eq_zero_or_pos k with h | h
          · rw [HAT0.out h, hac]
          · obtain ⟨q, hq, _⟩ := HATS.out (k - 1) (by omega)
            rw [hq, hac]; rfl)
        clear HAT0 HATS
        cases ca with
        | false =>
          go_wp2_with fail
          rw [← HW5.out]
          have hCne : Nonempty (Wd (fun w' => SameOn All W5 w' ∧ Below w.heap.size w w')) := ⟨⟨W5.drew, ⟨⟨Nat.le_refl _, fun _ _ _ => rfl⟩, B5.out.drew⟩⟩⟩
          refine wp_region_class (fun w' => SameOn All W5 w' ∧ Below w.heap.size w w') (by kernel_rfl) (by kernel_rfl) ⟨⟨Nat.le_refl _, fun _ _ _ => rfl⟩, B5.out.drew⟩ ?_
          repeat (go_big_quiet_step (first | (rename_i m; go_at_call 29; refine (specAtomOk_any _ _ hxs).mono ?_; rintro e w1 ⟨rfl, rfl⟩; exact ⟨by rw [HCA.out], ⟨m, rfl⟩⟩)))
          refine wpQuiet_nil ?_
          rintro _ ⟨mq, rfl⟩
          have HB4 : Hid (Below w.heap.size w mq.val) := mq.ok.2
          have HS4 : Hid (SameOn All W5 mq.val) := mq.ok.1
          generalize mq.val = w4 at HB4 HS4 ⊢
          go_wp2_with fail
          go_ret
          exact ⟨by rw [HF.out]; rfl, HB4.out⟩
        | true =>
          obtain rfl : ci = false := by simpa using hac
          clear hac
          go_wp2_with fail
          rw [← HW5.out]
          have hCne : Nonempty (Wd (fun w' => SameOn All W5 w' ∧ Below w.heap.size w w')) := ⟨⟨W5.drew, ⟨⟨Nat.le_refl _, fun _ _ _ => rfl⟩, B5.out.drew⟩⟩⟩
          refine wp_region_class (fun w' => SameOn All W5 w' ∧ Below w.heap.size w w') (by kernel_rfl) (by kernel_rfl) ⟨⟨Nat.le_refl _, fun _ _ _ => rfl⟩, B5.out.drew⟩ ?_
          repeat (go_big_quiet_step (first | (rename_i m; go_at_call 29; refine (specAtomOk_any _ _ hxs).mono ?_; rintro e w1 ⟨rfl, rfl⟩; exact ⟨by rw [HCA.out], ⟨m, rfl⟩⟩) | (rename_i m; go_at_call 30; refine (l01In_any _ _ _ _).mono ?_; rintro e w1 ⟨rfl, rfl⟩; exact ⟨by rw [HCI.out], ⟨m, rfl⟩⟩)))
          refine wpQuiet_nil ?_
          rintro _ ⟨mq, rfl⟩
          have HB4 : Hid (Below w.heap.size w mq.val) := mq.ok.2
          have HS4 : Hid (SameOn All W5 mq.val) := mq.ok.1
          generalize mq.val = w4 at HB4 HS4 ⊢
          go_wp2_with fail
          go_ret
          exact ⟨by rw [HF.out]; rfl, HB4.out⟩
      · obtain ⟨rfl, rfl⟩ : ca = true ∧ ci = true := by simpa using hac
        clear hac
        rcases Nat.eq_zero_or_pos k with hz | hz
        · have HT' : Hid ((List.range (k + 1)).all (rfsAt es) = true) := rangeT_succ _ k hall.out (HAT0.out hz)
          have hz1 : ¬ (0 : Int) < (k : Int) := by omega
          have hz3 : ¬ 0 < k := by omega
          have hz4 : decide (0 < k) = false := decide_eq_false hz3
          clear HAT0 HATS hz
          go_wp2_with fail
          rw [← HW5.out]
          have hCne : Nonempty (Wd (fun w' => SameOn All W5 w' ∧ Below w.heap.size w w')) := ⟨⟨W5.drew, ⟨⟨Nat.le_refl _, fun _ _ _ => rfl⟩, B5.out.drew⟩⟩⟩
          refine wp_region_class (fun w' => SameOn All W5 w' ∧ Below w.heap.size w w') (by kernel_rfl) (by kernel_rfl) ⟨⟨Nat.le_refl _, fun _ _ _ => rfl⟩, B5.out.drew⟩ ?_
          repeat (go_big_quiet_step (first | (rename_i m; go_at_call 29; refine (specAtomOk_any _ _ hxs).mono ?_; rintro e w1 ⟨rfl, rfl⟩; exact ⟨by rw [HCA.out], ⟨m, rfl⟩⟩) | (rename_i m; go_at_call 30; refine (l01In_any _ _ _ _).mono ?_; rintro e w1 ⟨rfl, rfl⟩; exact ⟨by rw [HCI.out], ⟨m, rfl⟩⟩)))
          refine wpQuiet_nil ?_
          rintro _ ⟨mq, rfl⟩
          have HB4 : Hid (Below w.heap.size w mq.val) := mq.ok.2
          have HS4 : Hid (SameOn All W5 mq.val) := mq.ok.1
          generalize mq.val = w4 at HB4 HS4 ⊢
          have HS9 : Hid (SameOn All W1 w4) := S5.out.trans HS4.out
          go_wp2_with fail
          exact ⟨⟨k + 1, by omega, by go_num, HT'.out, HS9.out, HB4.out⟩, by simp [intOf]; omega⟩
        · obtain ⟨j, rfl⟩ : ∃ j, k = j + 1 := ⟨k - 1, by omega⟩
          obtain ⟨q, hat, y0, y1⟩ := HATS.out j rfl
          have HAT : Hid (rfsAt es (j + 1) = ((true && true) && lessB q ⟨xs, xn⟩)) := hat
          obtain ⟨qs, qn⟩ := q
          simp only at *
          have qy0 : ∀ m : Wd (fun w' => SameOn All W5 w' ∧ Below w.heap.size w w'), m.val.cell? ⟨g, off + j * 2, none⟩ = some (.string qs) := fun m => (World.cell?_of_block (m.ok.1.2 g trivial hg5)).trans (cell_next K5.out y0)
          have qy1 : ∀ m : Wd (fun w' => SameOn All W5 w' ∧ Below w.heap.size w w'), m.val.cell? ⟨g, off + j * 2 + 1, none⟩ = some (.int .i64 qn) := fun m => (World.cell?_of_block (m.ok.1.2 g trivial hg5)).trans (cell_next K5.out y1)
          have hji : (j : Int) < (ne : Int) := by omega
          have hj0 : (0 : Int) ≤ (j : Int) := by omega
          have hj1 : (0 : Int) < (j : Int) + 1 := by omega
          generalize hz9 : lessB ⟨qs, qn⟩ ⟨xs, xn⟩ = z
          have HCL : Hid (lessB ⟨qs, qn⟩ ⟨xs, xn⟩ = z) := hz9
          have HT2 : Hid (z = true → (List.range (j + 1 + 1)).all (rfsAt es) = true) := fun h => rangeT_succ _ (j + 1) hall.out (by rw [HAT.out, hz9, h]; rfl)
          have HF2 : Hid (z = false → (List.range ne).all (rfsAt es) = false) := fun h => rangeT_at _ ne (j + 1) hlt (by rw [HAT.out, hz9, h]; rfl)
          clear HAT0 HATS hat hz y0 y1 hz9
          go_wp2_with fail
          rw [← HW5.out]
          have hCne : Nonempty (Wd (fun w' => SameOn All W5 w' ∧ Below w.heap.size w w')) := ⟨⟨W5.drew, ⟨⟨Nat.le_refl _, fun _ _ _ => rfl⟩, B5.out.drew⟩⟩⟩
          refine wp_region_class (fun w' => SameOn All W5 w' ∧ Below w.heap.size w w') (by kernel_rfl) (by kernel_rfl) ⟨⟨Nat.le_refl _, fun _ _ _ => rfl⟩, B5.out.drew⟩ ?_
          repeat (go_big_quiet_step (first | (rename_i m; go_at_call 29; refine (specAtomOk_any _ _ hxs).mono ?_; rintro e w1 ⟨rfl, rfl⟩; exact ⟨by rw [HCA.out], ⟨m, rfl⟩⟩) | (rename_i m; go_at_call 30; refine (l01In_any _ _ _ _).mono ?_; rintro e w1 ⟨rfl, rfl⟩; exact ⟨by rw [HCI.out], ⟨m, rfl⟩⟩) | (rename_i m; go_at_call 31; refine (l02Less_any ⟨qs, qn⟩ ⟨xs, xn⟩ _).mono ?_; rintro e w1 ⟨rfl, hb1⟩; exact ⟨by rw [HCL.out], ⟨⟨w1, ⟨(SameOn.trans m.ok.1 (SameOn.of_below hb1)), m.ok.2.trans (hb1.mono m.ok.2.size)⟩⟩, rfl⟩⟩)))
          refine wpQuiet_nil ?_
          rintro _ ⟨mq, rfl⟩
          have HB4 : Hid (Below w.heap.size w mq.val) := mq.ok.2
          have HS4 : Hid (SameOn All W5 mq.val) := mq.ok.1
          generalize mq.val = w4 at HB4 HS4 ⊢
          have HS9 : Hid (SameOn All W1 w4) := S5.out.trans HS4.out
          cases z with
          | true =>
            have HT' : Hid _ := HT2.out rfl
            clear HT2 HF2
            go_wp2_with fail
            exact ⟨⟨j + 1 + 1, by omega, by go_num, HT'.out, HS9.out, HB4.out⟩, by simp [intOf]; omega⟩
          | false =>
            have HF' : Hid _ := HF2.out rfl
            clear HT2 HF2
            go_wp2_with fail
            go_ret
            exact ⟨by rw [HF'.out]; rfl, HB4.out⟩
    · have HDE : Hid ((List.range ne).all (rfsAt es) = true) := by
        obtain rfl : k = ne := by omega
        exact hall.out
      clear hb
      go_wp2_with fail
      clear xa0 xa1 xa2
      go_loopw [5] (fun iv wr => ∃ k : Nat, k ≤ nf ∧ iv = .int .i64 k ∧ Hid ((List.range k).all (fnsAt d fs) = true) ∧ Hid (SameOn All W1 wr) ∧ Below w.heap.size w wr) (fun iv _ => nf - (intOf iv).toNat)
      case atStart => exact ⟨0, Nat.zero_le _, rfl, by show _ = _; simp, hso.out, HB.out⟩
      case round =>
        clear HB hso
        obtain ⟨k, hk, rfl, hall, hso, hb⟩ := hrel
        have HB : Hid (Below w.heap.size w wr) := hb
        have b1 := bA.out.same_on hso.out
        have hlw := b1.lt
        have xa0 := b1.cell 0 _ rfl
        have xa1 := b1.cell 1 _ rfl
        have xa2 := b1.cell 2 _ rfl
        clear b1
        by_cases hlt : k < nf
        · obtain ⟨x, hxk⟩ : ∃ x, fs[k]? = some x := ⟨fs[k]'(by rw [HN2.out]; exact hlt), List.getElem?_eq_getElem _⟩
          obtain ⟨g, off, rfl, -, hgl, hat⟩ := HF0.out (by intro h; rw [h] at hxk; simp at hxk)
          obtain ⟨cs, hcsl, hcs, r1⟩ := hat k x hxk
          have HAT : Hid (fnsAt d fs k = (fnB d x && !(fs.take k).any (sameR ⟨x.name, x.arity⟩))) := fnsAt_eq hxk
          have HFI : Hid (∀ w', Below w.heap.size w w' → Calls Tryz.prog 32 #[.agg #[.string ms, .slice pe ne ce, .slice (some ⟨g, off, none⟩) nf cf], .string x.name, .int .i64 x.arity] w' fun e w'' => ∃ r : Int, e = .returned (.int .i64 r) ∧ (r == (k : Int)) = !(fs.take k).any (sameR ⟨x.name, x.arity⟩) ∧ Below w'.heap.size w' w'') := fun w' hw => l02Find_any d w' ms pe ne ce _ fs k x (FR w' hw) hxk
          obtain ⟨cv, rfl, hxs, -, hcr⟩ := r1
          obtain ⟨xs, xn, xc⟩ := x
          simp only at *
          have CR : ∀ w', Below w.heap.size w w' → Rows w' All 2 (HCl w' All (HEx w' All d)) cv xc := fun w' hw => hcr.mono (SameOn.of_below hw) (fun _ h => h) (fun _ _ _ h => h.mono (SameOn.of_below hw) (fun _ h => h) (fun _ _ h => h.mono (SameOn.of_below hw) (fun _ h => h)))
          obtain ⟨pc, cc, rfl, hcc, hcmc, hxc⟩ := hcr
          have hncb : xc.length ≤ 9223372036854775807 := by unfold maxLen at hcmc; omega
          have hfb : fnB d ⟨xs, xn, xc⟩ = ((atomB xs && inB xn 0 6) && (inB xc.length 1 20 && xc.all (fun c => clB (fun y q => exOk d y q 40) c xn))) := rfl
          rw [hfb] at HAT
          clear hfb
          generalize hn3 : xc.length = nc at *
          have HN3 : Hid (xc.length = nc) := hn3
          have HC0 : Hid (xc ≠ [] → ∃ g off, pc = some ⟨g, off, none⟩ ∧ All g ∧ g < w.heap.size ∧ ∀ i x, xc[i]? = some x → ∃ cs, cs.length = 2 ∧ (∀ j, j < 2 → w.cell? ⟨g, off + i * 2 + j, none⟩ = cs[j]?) ∧ HCl w All (HEx w All d) cs x) := hxc
          have a0 := hcs 0 (by omega)
          have a1 := hcs 1 (by omega)
          have a2 := hcs 2 (by omega)
          rw [← hb.cell (p := ⟨g, _, none⟩) hgl] at a0 a1 a2
          simp at a0 a1 a2
          have hki : (k : Int) < (nf : Int) := by omega
          have hk0 : (0 : Int) ≤ (k : Int) := by omega
          generalize hcb : (fs.take k).any (sameR ⟨xs, xn⟩) = cb at *
          obtain ⟨W5, hW5⟩ : ∃ W5, W5 = wr.alloc (.cells #[.string xs, .int .i64 xn, .slice pc nc cc] 43) := ⟨_, rfl⟩
          have bF : Hid (Blk W5 wr.heap.size #[.string xs, .int .i64 xn, .slice pc nc cc] 43) := by show Blk _ _ _ _; rw [hW5]; exact Blk.new
          have K5 : Hid (Below wr.heap.size wr W5) := by show Below _ _ _; rw [hW5]; exact (Below.refl _ _).alloc (Nat.le_refl _) _
          have B5 : Hid (Below w.heap.size w W5) := hb.trans (K5.out.mono hb.size)
          have S5 : Hid (SameOn All W1 W5) := hso.out.trans (SameOn.of_below K5.out)
          have HW5 : Hid (W5 = wr.alloc (.cells #[.string xs, .int .i64 xn, .slice pc nc cc] 43)) := hW5
          clear hb hcs hat hcsl hW5 hcb hxc hn3
          by_cases hac : (atomB xs && inB xn 0 6) = false
          · have HF : Hid ((List.range nf).all (fnsAt d fs) = false) := rangeT_at _ nf k hlt (by rw [HAT.out, hac]; rfl)
            clear HAT
            cases ca : atomB xs with
            | false =>
              go_wp2_with (first | (go_at_call 29; go_must (refine (specAtomOk_any _ _ hxs).mono ?_; rintro e w9 ⟨rfl, rfl⟩; rw [ca])))
              rw [← HW5.out]
              go_ret
              exact ⟨by rw [HDE.out, HF.out]; rfl, B5.out⟩
            | true =>
              have ci : inB xn 0 6 = false := by rw [ca] at hac; simpa using hac
              go_wp2_with (first | (go_at_call 29; go_must (refine (specAtomOk_any _ _ hxs).mono ?_; rintro e w9 ⟨rfl, rfl⟩; rw [ca])) | (go_at_call 30; go_must (refine (l01In_any _ _ _ _).mono ?_; rintro e w9 ⟨rfl, rfl⟩; rw [ci])))
              rw [← HW5.out]
              go_ret
              exact ⟨by rw [HDE.out, HF.out]; rfl, B5.out⟩
          obtain ⟨ca, ci⟩ : atomB xs = true ∧ inB xn 0 6 = true := by simpa using hac
          rw [ca, ci] at HAT
          clear hac
          have bM := bA.out.same_on S5.out
          have u0 := bM.cell 0 _ rfl
          have u1 := bM.cell 1 _ rfl
          have u2 := bM.cell 2 _ rfl
          rw [HW5.out] at u0 u1 u2
          clear bM
          cases cb with
          | true =>
            have HF : Hid ((List.range nf).all (fnsAt d fs) = false) := rangeT_at _ nf k hlt (by rw [HAT.out]; simp)
            clear HAT
            go_wp2_with (first | (go_at_call 29; go_must (refine (specAtomOk_any _ _ hxs).mono ?_; rintro e w9 ⟨rfl, rfl⟩; rw [ca])) | (go_at_call 30; go_must (refine (l01In_any _ _ _ _).mono ?_; rintro e w9 ⟨rfl, rfl⟩; rw [ci])))
            rw [← HW5.out]
            refine (HFI.out _ B5.out).mono ?_
            rintro e w6 ⟨r, rfl, hri, hb6⟩
            have hr2 : (r != (k : Int)) = true := by simpa using hri
            have B6 : Hid (Below w.heap.size w w6) := B5.out.trans (hb6.mono B5.out.size)
            clear hri hb6
            go_wp2_with fail
            go_ret
            exact ⟨by rw [HDE.out, HF.out]; rfl, B6.out⟩
          | false =>
            cases cin : inB nc 1 20 with
            | false =>
              have HF : Hid ((List.range nf).all (fnsAt d fs) = false) := rangeT_at _ nf k hlt (by rw [HAT.out, cin]; simp)
              clear HAT
              go_wp2_with (first | (go_at_call 29; go_must (refine (specAtomOk_any _ _ hxs).mono ?_; rintro e w9 ⟨rfl, rfl⟩; rw [ca])) | (go_at_call 30; go_must (refine (l01In_any _ _ _ _).mono ?_; rintro e w9 ⟨rfl, rfl⟩; rw [ci])))
              rw [← HW5.out]
              refine (HFI.out _ B5.out).mono ?_
              rintro e w6 ⟨r, rfl, hri, hb6⟩
              obtain rfl : r = (k : Int) := by simpa using hri
              have B6 : Hid (Below w.heap.size w w6) := B5.out.trans (hb6.mono B5.out.size)
              have S6 : Hid (SameOn All W5 w6) := SameOn.of_below hb6
              have bG : Hid (Blk w6 wr.heap.size #[.string xs, .int .i64 xn, .slice pc nc cc] 43) := bF.out.next hb6
              have v0 := bG.out.cell 0 _ rfl
              have v1 := bG.out.cell 1 _ rfl
              have v2 := bG.out.cell 2 _ rfl
              clear hri hb6
              go_wp2_with (first | (go_at_call 30; go_must (refine (l01In_any _ _ _ _).mono ?_; rintro e w9 ⟨rfl, hw9⟩; rw [cin, hw9]; clear hw9 w9)))
              go_ret
              exact ⟨by rw [HDE.out, HF.out]; rfl, B6.out⟩
            | true =>
              rw [cin] at HAT
              go_wp2_with (first | (go_at_call 29; go_must (refine (specAtomOk_any _ _ hxs).mono ?_; rintro e w9 ⟨rfl, rfl⟩; rw [ca])) | (go_at_call 30; go_must (refine (l01In_any _ _ _ _).mono ?_; rintro e w9 ⟨rfl, rfl⟩; rw [ci])))
              rw [← HW5.out]
              refine (HFI.out _ B5.out).mono ?_
              rintro e w6 ⟨r, rfl, hri, hb6⟩
              obtain rfl : r = (k : Int) := by simpa using hri
              have B6 : Hid (Below w.heap.size w w6) := B5.out.trans (hb6.mono B5.out.size)
              have S6 : Hid (SameOn All W5 w6) := SameOn.of_below hb6
              have bG : Hid (Blk w6 wr.heap.size #[.string xs, .int .i64 xn, .slice pc nc cc] 43) := bF.out.next hb6
              have v0 := bG.out.cell 0 _ rfl
              have v1 := bG.out.cell 1 _ rfl
              have v2 := bG.out.cell 2 _ rfl
              clear hri hb6
              go_wp2_with (first | (go_at_call 30; go_must (refine (l01In_any _ _ _ _).mono ?_; rintro e w9 ⟨rfl, hw9⟩; rw [cin, hw9]; clear hw9 w9)))
              clear v0 v1 v2 u0 u1 u2 xa0 xa1 xa2
              obtain ⟨W6, hW6⟩ : ∃ W6, W6 = wr.heap.size := ⟨_, rfl⟩
              have HW6 : Hid (W6 = wr.heap.size) := hW6
              rw [← hW6] at bG ⊢
              have S1 : Hid (SameOn All W1 w6) := S5.out.trans S6.out
              clear hW6 HW6 hlw bF HW5 K5 S5 S6 B5
              go_loopw [7] (fun iv wr => ∃ k2 : Nat, k2 ≤ nc ∧ iv = .int .i64 k2 ∧ Hid ((xc.take k2).all (fun c => clB (fun y q => exOk d y q 40) c xn) = true) ∧ Hid (SameOn All w6 wr) ∧ Below w.heap.size w wr) (fun iv _ => nc - (intOf iv).toNat)
              case atStart => exact ⟨0, Nat.zero_le _, rfl, by show _ = _; simp, ⟨Nat.le_refl _, fun _ _ _ => rfl⟩, B6.out⟩
              case round =>
                clear HB hso
                obtain ⟨k2, hk2, rfl, hall2, hso, hb⟩ := hrel
                have HB : Hid (Below w.heap.size w wr) := hb
                have b1 := bG.out.same_on hso.out
                have hlw := b1.lt
                have xa1 := b1.cell 1 _ rfl
                have xa2 := b1.cell 2 _ rfl
                clear b1
                by_cases hlt2 : k2 < nc
                · obtain ⟨c, hck⟩ : ∃ c, xc[k2]? = some c := ⟨xc[k2]'(by rw [HN3.out]; exact hlt2), List.getElem?_eq_getElem _⟩
                  obtain ⟨g2, off2, rfl, -, hgl2, hat2⟩ := HC0.out (by intro h; rw [h] at hck; simp at hck)
                  obtain ⟨cs, hcsl, hcs, r1⟩ := hat2 k2 c hck
                  have E1 : ∀ w', SameOn All wr w' → HCl w' All (HEx w' All d) cs c := fun w' hw => r1.mono (SameOn.trans (SameOn.of_below hb) hw) (fun _ h => h) (fun _ _ h => h.mono (SameOn.trans (SameOn.of_below hb) hw) (fun _ h => h))
                  obtain ⟨c0, c1, rfl⟩ := len2 hcsl
                  have a0 := hcs 0 (by omega)
                  have a1 := hcs 1 (by omega)
                  rw [← hb.cell (p := ⟨g2, _, none⟩) hgl2] at a0 a1
                  simp at a0 a1
                  have hki2 : (k2 : Int) < (nc : Int) := by omega
                  have hk02 : (0 : Int) ≤ (k2 : Int) := by omega
                  have hgw : g2 < wr.heap.size := Nat.lt_of_lt_of_le hgl2 hb.size
                  have qa0 : ∀ m : Wd (fun w' => SameOn All wr w' ∧ Below w.heap.size w w'), m.val.cell? ⟨g2, off2 + k2 * 2, none⟩ = some c0 := fun m => (World.cell?_of_block (m.ok.1.2 g2 trivial hgw)).trans a0
                  have qa1 : ∀ m : Wd (fun w' => SameOn All wr w' ∧ Below w.heap.size w w'), m.val.cell? ⟨g2, off2 + k2 * 2 + 1, none⟩ = some c1 := fun m => (World.cell?_of_block (m.ok.1.2 g2 trivial hgw)).trans a1
                  have qx1 : ∀ m : Wd (fun w' => SameOn All wr w' ∧ Below w.heap.size w w'), m.val.cell? ⟨W6, 1, none⟩ = some (.int .i64 xn) := fun m => (World.cell?_of_block (m.ok.1.2 W6 trivial hlw)).trans xa1
                  have qx2 : ∀ m : Wd (fun w' => SameOn All wr w' ∧ Below w.heap.size w w'), m.val.cell? ⟨W6, 2, none⟩ = some (.slice (some ⟨g2, off2, none⟩) nc cc) := fun m => (World.cell?_of_block (m.ok.1.2 W6 trivial hlw)).trans xa2
                  clear hb hcs hat2 hcsl r1
                  generalize hcv : clB (fun y q => exOk d y q 40) c xn = cv
                  have HCV : Hid (clB (fun y q => exOk d y q 40) c xn = cv) := hcv
                  have HC2 : Hid (cv = true → (xc.take (k2 + 1)).all (fun c => clB (fun y q => exOk d y q 40) c xn) = true) := fun h => allT_succ _ xc k2 c hck hall2.out (hcv.trans h)
                  have HC3 : Hid (cv = false → (List.range nf).all (fnsAt d fs) = false) := fun h => rangeT_at _ nf k hlt (by rw [HAT.out, allT_at _ xc k2 c hck (hcv.trans h)]; rfl)
                  clear hcv
                  go_wp2
                  have hCne : Nonempty (Wd (fun w' => SameOn All wr w' ∧ Below w.heap.size w w')) := ⟨⟨wr.drew, ⟨⟨Nat.le_refl _, fun _ _ _ => rfl⟩, HB.out.drew⟩⟩⟩
                  refine wp_region_class (fun w' => SameOn All wr w' ∧ Below w.heap.size w w') (by kernel_rfl) (by kernel_rfl) ⟨⟨Nat.le_refl _, fun _ _ _ => rfl⟩, HB.out.drew⟩ ?_
                  repeat (go_big_quiet_step (first | (rename_i m; go_at_call 33; refine (clause_allS d _ _ c xn 40 (E1 _ m.ok.1) (by omega) (by omega)).mono ?_; rintro e w1 ⟨rfl, hb1⟩; exact ⟨by rw [HCV.out], ⟨⟨w1, ⟨(SameOn.trans m.ok.1 (SameOn.of_below hb1)), m.ok.2.trans (hb1.mono m.ok.2.size)⟩⟩, rfl⟩⟩)))
                  refine wpQuiet_nil ?_
                  rintro _ ⟨mq, rfl⟩
                  have HB4 : Hid (Below w.heap.size w mq.val) := mq.ok.2
                  have HS4 : Hid (SameOn All w6 mq.val) := hso.out.trans mq.ok.1
                  generalize mq.val = w4 at HB4 HS4 ⊢
                  clear HCV
                  cases cv with
                  | true =>
                    have HT' : Hid _ := HC2.out rfl
                    clear HC2 HC3
                    go_wp2_with fail
                    exact ⟨⟨k2 + 1, by omega, by go_num, HT'.out, HS4.out, HB4.out⟩, by simp [intOf]; omega⟩
                  | false =>
                    have HF : Hid _ := HC3.out rfl
                    clear HC2 HC3
                    go_wp2_with fail
                    go_ret
                    exact ⟨by rw [HDE.out, HF.out]; rfl, HB4.out⟩
                · have HT' : Hid ((List.range (k + 1)).all (fnsAt d fs) = true) := rangeT_succ _ k hall.out (by
                    have := hall2.out
                    rw [List.take_of_length_le (by rw [HN3.out]; omega)] at this
                    rw [HAT.out, this]; rfl)
                  have HS9 : Hid (SameOn All W1 wr) := S1.out.trans hso.out
                  clear hb
                  go_wp2_with fail
                  exact ⟨⟨k + 1, by omega, by go_num, HT'.out, HS9.out, HB.out⟩, by simp [intOf]; omega⟩
        · have HD : Hid ((List.range nf).all (fnsAt d fs) = true) := by
            obtain rfl : k = nf := by omega
            exact hall.out
          clear hb
          go_wp2_with fail
          go_ret
          exact ⟨by rw [HDE.out, HD.out]; rfl, HB.out⟩
end Go.Proofs.YtpkhblhcdnohmaaGreatDoor
/-
  The specification's Loose, by contract.
-/
namespace Go.Proofs.YtpkhblhcdnohmaaGreatDoor
open Go.ChangeShapes Go.WideShapes Go.ChangeAt Go.RowKit
set_option linter.unusedVariables false
set_option maxRecDepth 100000

theorem sortS_pos (l : List ByteArray) : (0 < (sortS l).length) ↔ l ≠ [] := by
  unfold sortS
  have h1 : ∀ (l acc : List ByteArray), acc.length ≤ (l.foldl insS acc).length := by
    intro l
    induction l with
    | nil => intro acc; exact Nat.le_refl _
    | cons x xs ih =>
      intro acc
      refine Nat.le_trans ?_ (ih (insS acc x))
      clear ih
      induction acc with
      | nil => simp
      | cons y ys ih => unfold insS; split <;> (try split) <;> simp <;> omega
  have h2 : ∀ (acc : List ByteArray) (x : ByteArray), 0 < (insS acc x).length := by
    intro acc x
    cases acc with
    | nil => simp [insS]
    | cons y ys => unfold insS; split <;> (try split) <;> simp
  cases l with
  | nil => simp
  | cons x xs =>
    simp only [List.foldl_cons, ne_eq, reduceCtorEq, not_false_eq_true, iff_true]
    exact Nat.lt_of_lt_of_le (h2 [] x) (h1 xs _)
theorem looseB_sort (d : Nat) (c : Cl) : looseB d c = decide (0 < (sortS (cfV d c)).length) := by
  have h := sortS_pos (cfV d c)
  unfold looseB
  show (!(cfV d c).isEmpty) = _
  cases hc : cfV d c with
  | nil => rw [hc] at h; simp at h; simp [h]
  | cons x xs => rw [hc] at h; simp at h; simp [h]

set_option maxHeartbeats 8000000 in
theorem specLoose_any (d : Nat) (w : World) (cs : List Value) (m : Md) (h : HMd w All d cs m) (hw : wtMd d m ≤ 1048576) :
    Calls Tryz.prog 5 #[.agg cs.toArray] w fun e w' => ∃ u, e = .returned u ∧ OwnR w' w.heap.size u (looseM d m) ∧ Below w.heap.size w w' := by
  have HM : Hid (∀ w', Below w.heap.size w w' → HMd w' All d cs m) := fun w' hb => h.mono (SameOn.of_below hb) (fun _ h => h)
  obtain ⟨ev, fv, rfl, hs, f0, f1⟩ := h
  have HF1 : Hid (Rows w All 3 (HFn w All d) fv m.funs) := f1
  obtain ⟨pe, ce, rfl, -⟩ := f0
  obtain ⟨pf, cf, rfl, hcf, hcmf, -⟩ := id f1
  have hnf : m.funs.length ≤ 9223372036854775807 := by unfold maxLen at hcmf; omega
  have HWF : Hid (∀ f ∈ m.funs, f.clauses.length ≤ 1048576 ∧ ∀ c ∈ f.clauses, wtCl (wtEx d) c ≤ 1048576) := fun f hf => by
    have h0 : wtMd d m = m.name.size + wtS wtRf m.exports + wtS (wtFn d) m.funs := rfl
    obtain ⟨i, hi⟩ := List.mem_iff_getElem?.1 hf
    have h1 := sum_take_succ (wtFn d) m.funs i f hi
    have h2 := sum_take_le (wtFn d) m.funs (i + 1)
    have h3 : wtFn d f = f.name.size + wtS (wtCl (wtEx d)) f.clauses := rfl
    have w1 : wtS (wtFn d) m.funs = m.funs.length + (m.funs.map (wtFn d)).sum := rfl
    have w2 : wtS (wtCl (wtEx d)) f.clauses = f.clauses.length + (f.clauses.map (wtCl (wtEx d))).sum := rfl
    refine ⟨by omega, fun c hc => ?_⟩
    obtain ⟨j, hj⟩ := List.mem_iff_getElem?.1 hc
    have h4 := sum_take_succ (wtCl (wtEx d)) f.clauses j c hj
    have h5 := sum_take_le (wtCl (wtEx d)) f.clauses (j + 1)
    omega
  have HFL : Hid (m.funs.length ≤ 1048576) := by
    have h0 : wtMd d m = m.name.size + wtS wtRf m.exports + wtS (wtFn d) m.funs := rfl
    have w1 : wtS (wtFn d) m.funs = m.funs.length + (m.funs.map (wtFn d)).sum := rfl
    show _ ≤ _
    omega
  have BA : Below w.heap.size w (w.alloc (.cells #[.string m.name, .slice pe m.exports.length ce, .slice pf m.funs.length cf] 31)) := (Below.refl _ _).alloc (Nat.le_refl _) _
  have BB : Hid (Below w.heap.size w ((w.alloc (.cells #[.string m.name, .slice pe m.exports.length ce, .slice pf m.funs.length cf] 31)).alloc (.cells #[] 50))) := BA.alloc BA.size _
  have bA : Hid (Blk ((w.alloc (.cells #[.string m.name, .slice pe m.exports.length ce, .slice pf m.funs.length cf] 31)).alloc (.cells #[] 50)) w.heap.size #[.string m.name, .slice pe m.exports.length ce, .slice pf m.funs.length cf] 31) := Blk.new.alloc
  have O0 : Hid (OwnR ((w.alloc (.cells #[.string m.name, .slice pe m.exports.length ce, .slice pf m.funs.length cf] 31)).alloc (.cells #[] 50)) w.heap.size (.slice (some ⟨w.heap.size + 1, 0, none⟩) 0 0) []) := by
    have := (OwnR.fresh (w := w.alloc (.cells #[.string m.name, .slice pe m.exports.length ce, .slice pf m.funs.length cf] 31))).base BA.size
    rwa [alloc_hs] at this
  have HLM : Hid (looseM d m = if mdOk d m then looseL d m.funs else []) := rfl
  clear f1 hs BA hw
  cases hok : mdOk d m with
  | false =>
    rw [hok] at HLM
    go_enter Tryz.func5, Tryz.ntmps5
    go_wp2_with fail
    refine (specModuleOk_any d _ _ m (HM.out _ BB.out)).mono ?_
    rintro e w1 ⟨rfl, hb⟩
    rw [hok]
    have B1 : Hid (Below w.heap.size w w1) := BB.out.trans (hb.mono BB.out.size)
    have O1 : Hid (OwnR w1 w.heap.size (.slice (some ⟨w.heap.size + 1, 0, none⟩) 0 0) []) := O0.out.next hb
    clear hb
    go_wp2_with fail
    go_ret
    exact ⟨_, rfl, by rw [HLM.out]; exact O1.out, B1.out⟩
  | true =>
    rw [hok] at HLM
    obtain ⟨i, hi, hz0, hz1, hz2⟩ : ∃ i, Tryz.prog.info? 50 = some i ∧ i.zero = some (.agg #[.string ⟨#[]⟩, .int .i64 0]) ∧ i.size = 2 ∧ i.bytes = 24 := info_parts info_ref
    generalize hn : m.funs.length = nf at *
    have HN : Hid (m.funs.length = nf) := hn
    clear hn
    go_enter Tryz.func5, Tryz.ntmps5
    go_wp2_with fail
    refine (specModuleOk_any d _ _ m (HM.out _ BB.out)).mono ?_
    rintro e w1 ⟨rfl, hb⟩
    rw [hok]
    have B1 : Hid (Below w.heap.size w w1) := BB.out.trans (hb.mono BB.out.size)
    have O1 : Hid (OwnR w1 w.heap.size (.slice (some ⟨w.heap.size + 1, 0, none⟩) 0 0) []) := O0.out.next hb
    have b1 : Hid (Blk w1 w.heap.size #[.string m.name, .slice pe m.exports.length ce, .slice pf nf cf] 31) := bA.out.next hb
    clear hb
    go_wp2_with fail
    go_loopw [3, 4] (fun u iv wr => ∃ k : Nat, k ≤ nf ∧ iv = .int .i64 k ∧ Hid (OwnR wr w.heap.size u (looseL d (m.funs.take k))) ∧ Hid (Blk wr w.heap.size #[.string m.name, .slice pe m.exports.length ce, .slice pf nf cf] 31) ∧ Hid (Below w.heap.size w wr) ∧ (∀ b, u.ownBlock = some b → w.heap.size < b)) (fun _ iv _ => nf - (intOf iv).toNat)
    case atStart => exact ⟨0, Nat.zero_le _, rfl, by show OwnR _ _ _ _; simpa [looseL] using O1.out, b1.out, B1.out, fun b hb => by simp [Value.ownBlock] at hb; omega⟩
    case round =>
      clear O1 B1 b1 O0 BB bA
      obtain ⟨wq, rfl⟩ : ∃ wq, wq = wr := ⟨_, rfl⟩
      obtain ⟨k, hk, rfl, HO, HK, HB, hub⟩ := hrel
      have HUB : Hid (∀ b, u3.ownBlock = some b → w.heap.size < b) := hub
      have x2 := HK.out.cell 2 _ rfl
      clear hub
      by_cases hlt : k < nf
      · obtain ⟨f, hfk⟩ : ∃ f, m.funs[k]? = some f := ⟨m.funs[k]'(by rw [HN.out]; exact hlt), List.getElem?_eq_getElem _⟩
        obtain ⟨p', cap', hv, -, -, hx⟩ := HF1.out
        simp only [Value.slice.injEq] at hv
        obtain ⟨rfl, -, rfl⟩ := hv
        obtain ⟨g, off, rfl, -, hgl, hat⟩ := hx (by intro h; rw [h] at hfk; simp at hfk)
        obtain ⟨cs, hcsl, hcs, r1⟩ := hat k f hfk
        obtain ⟨cv, rfl, hfs, hfi, rc⟩ := r1
        have RC : Hid (Rows w All 2 (HCl w All (HEx w All d)) cv f.clauses) := rc
        obtain ⟨pc, cc, rfl, hcc, hcmc, -⟩ := id rc
        have hnc : f.clauses.length ≤ 9223372036854775807 := by unfold maxLen at hcmc; omega
        have a0 := hcs 0 (by omega)
        have a1 := hcs 1 (by omega)
        have a2 := hcs 2 (by omega)
        rw [← HB.out.cell (p := ⟨g, _, none⟩) hgl] at a0 a1 a2
        simp at a0 a1 a2
        have HWf : Hid (f.clauses.length ≤ 1048576 ∧ ∀ c ∈ f.clauses, wtCl (wtEx d) c ≤ 1048576) := HWF.out f (List.mem_of_getElem? hfk)
        have HSN : Hid (looseL d (m.funs.take (k + 1)) = if f.clauses.any (looseB d) then looseL d (m.funs.take k) ++ [⟨f.name, f.arity⟩] else looseL d (m.funs.take k)) := looseL_snoc d m.funs k f hfk
        have HLL : Hid ((looseL d (m.funs.take k)).length ≤ 1048576) := by
          have h1 := looseL_len d (m.funs.take k)
          rw [List.length_take, HN.out] at h1
          have h2 := HFL.out
          show _ ≤ _
          omega
        have hki : (k : Int) < (nf : Int) := by omega
        have hk0 : (0 : Int) ≤ (k : Int) := by omega
        generalize looseL d (m.funs.take k) = LK at *
        generalize hncl : f.clauses.length = nc at *
        have HNC : Hid (f.clauses.length = nc) := hncl
        have HBF : Hid (Below wq.heap.size wq (wq.alloc (.cells #[.string f.name, .int .i64 f.arity, .slice pc nc cc] 43))) := (Below.refl _ _).alloc (Nat.le_refl _) _
        have bF : Hid (Blk (wq.alloc (.cells #[.string f.name, .int .i64 f.arity, .slice pc nc cc] 43)) wq.heap.size #[.string f.name, .int .i64 f.arity, .slice pc nc cc] 43) := Blk.new
        have hws : w.heap.size ≤ wq.heap.size := HB.out.size
        clear hat hcs hcsl hx rc hncl hcc hcmc
        go_wp2_with fail
        go_loopw [6, 7] (fun sv jv wr => ∃ j : Nat, j ≤ nc ∧ jv = .int .i64 j ∧ sv = .bool ((f.clauses.take j).any (looseB d)) ∧ Hid (Below wq.heap.size wq wr) ∧ Hid (Blk wr wq.heap.size #[.string f.name, .int .i64 f.arity, .slice pc nc cc] 43)) (fun _ jv _ => nc - (intOf jv).toNat)
        case atStart => exact ⟨0, Nat.zero_le _, rfl, by simp, HBF.out, bF.out⟩
        case round =>
          clear bF HBF a0 a1 a2 x2
          obtain ⟨j, hj, rfl, rfl, HBs, HKs⟩ := hrel
          have y0 := HKs.out.cell 0 _ rfl
          have y1 := HKs.out.cell 1 _ rfl
          have y2 := HKs.out.cell 2 _ rfl
          have Bs : Hid (Below w.heap.size w wr) := HB.out.trans (HBs.out.mono hws)
          by_cases hltj : j < nc
          · obtain ⟨c, hcj⟩ : ∃ c, f.clauses[j]? = some c := ⟨f.clauses[j]'(by rw [HNC.out]; exact hltj), List.getElem?_eq_getElem _⟩
            obtain ⟨p', cap', hv, -, -, hx⟩ := RC.out
            simp only [Value.slice.injEq] at hv
            obtain ⟨rfl, -, rfl⟩ := hv
            obtain ⟨gc, offc, rfl, -, hglc, hatc⟩ := hx (by intro h; rw [h] at hcj; simp at hcj)
            obtain ⟨ccs, hccl, hccs, rr⟩ := hatc j c hcj
            have EC : Hid (HCl wr All (HEx wr All d) ccs c) := HCl.mono rr (SameOn.of_below Bs.out) (fun _ h => h) (fun _ _ h => h.mono (SameOn.of_below Bs.out) (fun _ h => h))
            obtain ⟨pv, bv, rfl, rp, rb⟩ := rr
            obtain ⟨pp, capp, rfl, -⟩ := rp
            obtain ⟨pb, capb, rfl, -⟩ := rb
            have c0 := hccs 0 (by omega)
            have c1 := hccs 1 (by omega)
            rw [← Bs.out.cell (p := ⟨gc, _, none⟩) hglc] at c0 c1
            simp at c0 c1
            have HWc : Hid (wtCl (wtEx d) c ≤ 1048576) := HWf.out.2 c (List.mem_of_getElem? hcj)
            have HAN : Hid ((f.clauses.take (j + 1)).any (looseB d) = ((f.clauses.take j).any (looseB d) || looseB d c)) := by
              show _ = _
              rw [List.take_add_one, hcj, List.any_append]; simp
            have hji : (j : Int) < (nc : Int) := by omega
            have hj0 : (0 : Int) ≤ (j : Int) := by omega
            clear hatc hccs hccl hx
            cases hs : (f.clauses.take j).any (looseB d) with
            | true =>
              rw [hs, Bool.true_or] at HAN
              go_wp2_with fail
              exact ⟨⟨j + 1, by omega, by go_num, by rw [HAN.out], HBs.out, HKs.out⟩, by simp [intOf]; omega⟩
            | false =>
              rw [hs, Bool.false_or] at HAN
              go_wp2_with fail
              refine (specClauseFree_any _ d _ c EC.out HWc.out).mono ?_
              rintro e w5 ⟨u5, rfl, ho5, hb5⟩
              have B5 : Hid (Below wq.heap.size wq w5) := HBs.out.trans (hb5.mono HBs.out.size)
              have b5 : Hid (Blk w5 wq.heap.size #[.string f.name, .int .i64 f.arity, .slice (some ⟨gc, offc, none⟩) nc cc] 43) := HKs.out.next hb5
              have HLB : Hid (looseB d c = decide (0 < (sortS (cfV d c)).length)) := looseB_sort d c
              obtain ⟨pu, cu, hu, hcu⟩ : ∃ a cap, u5 = .slice a (sortS (cfV d c)).length cap ∧ (sortS (cfV d c)).length ≤ 1099511627776 := by
                have hlen : (sortS (cfV d c)).length ≤ 1099511627776 := by
                  have h1 := cfV_len d c
                  have h2 := HWc.out
                  have h3 : wtCl (wtEx d) c = wtS (wtEx d) c.1 + wtS (wtEx d) c.2 := rfl
                  have h4 : ∀ (l acc : List ByteArray), (l.foldl insS acc).length ≤ acc.length + l.length := by
                    intro l
                    induction l with
                    | nil => intro acc; simp
                    | cons x xs ih =>
                      intro acc
                      have h5 := ih (insS acc x)
                      have h6 : (insS acc x).length ≤ acc.length + 1 := by
                        clear ih h5
                        induction acc with
                        | nil => simp [insS]
                        | cons y ys ih => unfold insS; split <;> (try split) <;> simp <;> omega
                      simp only [List.foldl_cons, List.length_cons]
                      omega
                  have h7 := h4 (cfV d c) []
                  have h8 : sortS (cfV d c) = (cfV d c).foldl insS [] := rfl
                  rw [h8]
                  simp only [List.length_nil] at h7
                  omega
                rcases ho5.1.2 with ⟨hv, hn⟩ | ⟨g', cap', cur, hv, _⟩
                · exact ⟨none, 0, by rw [hv, hn], hlen⟩
                · exact ⟨_, cap', hv, hlen⟩
              subst hu
              clear ho5 hb5
              generalize (sortS (cfV d c)).length = ln at *
              go_wp2_with fail
              exact ⟨⟨j + 1, by omega, by go_num, by
                rw [HAN.out, HLB.out], B5.out, b5.out⟩, by simp [intOf]; omega⟩
          · have hall : (f.clauses.take j) = f.clauses := List.take_of_length_le (by rw [HNC.out]; omega)
            rw [hall]
            have Os : Hid (OwnR wr w.heap.size u3 LK) := HO.out.next HBs.out
            have Ks : Hid (Blk wr w.heap.size #[.string m.name, .slice pe m.exports.length ce, .slice (some ⟨g, off, none⟩) nf cf] 31) := HK.out.next HBs.out
            clear hall
            cases hl : f.clauses.any (looseB d) with
            | false =>
              rw [hl] at HSN
              go_wp2_with fail
              exact ⟨⟨k + 1, by omega, by go_num, by show OwnR _ _ _ _; rw [HSN.out]; exact Os.out, Ks.out, Bs.out, HUB.out⟩, by simp [intOf]; omega⟩
            | true =>
              rw [hl] at HSN
              have hLL := HLL.out
              have O4 : Hid (OwnR (wr.alloc (.cells #[.string f.name, .int .i64 f.arity] 50)) w.heap.size u3 LK) := Os.out.next ((Below.refl _ _).alloc (Nat.le_refl _) _)
              have K4 : Hid (Blk (wr.alloc (.cells #[.string f.name, .int .i64 f.arity] 50)) w.heap.size #[.string m.name, .slice pe m.exports.length ce, .slice (some ⟨g, off, none⟩) nf cf] 31) := Ks.out.alloc
              have B4 : Hid (Below w.heap.size w (wr.alloc (.cells #[.string f.name, .int .i64 f.arity] 50))) := Bs.out.alloc Bs.out.size _
              have N1 : Hid (∀ j u, (refs [⟨f.name, f.arity⟩])[j]? = some u → (wr.alloc (.cells #[.string f.name, .int .i64 f.arity] 50)).cell? ((⟨wr.heap.size, 0, none⟩ : Addr).add j) = some u) := one_ref
              go_wp2_with (at_builtin; refine wpList_append_own _ rfl _ _ 27 rfl w.heap.size 50 i (.agg #[.string ⟨#[]⟩, .int .i64 0]) 2 24 Tryz.underlying27 hi hz0 hz1 hz2 rfl (by decide) _ _ _ rfl O4.out.1 _ 1 1 (refs [⟨f.name, f.arity⟩]) rfl rfl N1.out (refs_oneCell _) (by unfold maxLen; omega) (by omega) O4.out.2 ?_)
              intro v5 w5 hown hgr hat5
              have O5 : Hid (OwnR w5 w.heap.size v5 (LK ++ [⟨f.name, f.arity⟩])) := OwnR.of hown (by simp) rfl (Nat.le_trans O4.out.2 hgr.size)
              have B5 : Hid (Below w.heap.size w w5) := B4.out.trans (O4.out.below hgr)
              have K5 : Hid (Blk w5 w.heap.size #[.string m.name, .slice pe m.exports.length ce, .slice (some ⟨g, off, none⟩) nf cf] 31) := (hgr.block w.heap.size K4.out.lt (fun e => by have := HUB.out _ e.symm; omega)).trans K4.out
              have U5 : Hid (∀ b, v5.ownBlock = some b → w.heap.size < b) := fun b hb => by
                have h1 := (O5.out.off hb).1
                rcases Nat.lt_or_ge w.heap.size b with h | h
                · exact h
                · exfalso
                  obtain rfl : b = w.heap.size := by omega
                  have h2 := K5.out
                  rcases hown.2 with ⟨hv, _⟩ | ⟨g', cap', cur, hv, _, hg', _⟩
                  · rw [hv] at hb; cases hb
                  · rw [hv] at hb
                    simp [Value.ownBlock] at hb
                    subst hb
                    unfold Blk at h2
                    rw [hg'] at h2
                    cases h2
              clear hown hgr hat5
              go_wp2_with fail
              exact ⟨⟨k + 1, by omega, by go_num, by show OwnR _ _ _ _; rw [HSN.out]; exact O5.out, K5.out, B5.out, U5.out⟩, by simp [intOf]; omega⟩
      · have HS : Hid (OwnR wq w.heap.size u3 (looseM d m)) := by
          have h1 := HO.out
          rw [List.take_of_length_le (by rw [HN.out]; omega)] at h1
          show OwnR _ _ _ _
          rw [HLM.out]
          exact h1
        go_wp2_with fail
        go_ret
        exact ⟨_, rfl, HS.out, HB.out⟩
end Go.Proofs.YtpkhblhcdnohmaaGreatDoor
/-
  Laws of no one function: what a law's statement asks behind the call, where nothing that was there has turned and the call answers true; a start that fits; what a listed array of texts holds.
-/
namespace Go.Proofs.YtpkhblhcdnohmaaGreatDoor
open Go.ChangeShapes Go.WideShapes Go.ChangeAt Go.RowKit
set_option linter.unusedVariables false

theorem trodAll_below {H : Type} {enc : TypeId × Value → H} {P : Program} (hl : laidOutB P = true) {W W' : World} (hb : Below W.heap.size W W') :
    ∀ {ts : List TypeId} {vs : List Value} {ds : List (DataW H)} {ps : List MemPlace}, (ts.all fun t => P.readableRec t && decide (t < P.types.size)) = true →
      DataW.TrodAll enc P W 0 (fun _ => true) true ts vs ds ps → (∀ x ∈ ps, x.block < W.heap.size) → DataW.TrodAll enc P W' 0 (fun b => decide (b < W.heap.size)) true ts vs ds ps
  | [], _, _, _, _, h, _ => by
    obtain ⟨rfl, rfl, rfl⟩ := trodAll_nil h
    exact trodAll_mk0
  | t :: ts, vs, ds, ps, ht, h, hlt => by
    obtain ⟨v, vs', d, ds', p, q, rfl, rfl, rfl, h0, hs⟩ := trodAll_cons h
    simp only [List.all_cons, Bool.and_eq_true, decide_eq_true_eq] at ht
    exact trodAll_cons_mk (Below.trod hl ht.1.1 ht.1.2 h0 hb (fun x hx => hlt x (by simp [hx])))
      (trodAll_below hl hb ht.2 hs (fun x hx => hlt x (by simp [hx])))

/-- WHAT THE STATEMENT ASKS BEHIND THE CALL, of a law that answers true and turns nothing that was there. -/
theorem post_true {H : Type} {enc : TypeId × Value → H} {P : Program} {f : Func} {s : ChangeSpec} {W W' : World} {args : Array Value} {ds gs : List (DataW H)} {before : List MemPlace}
    (hl : laidOutB P = true) (hts : (f.params.toList.all fun t => P.readableRec t && decide (t < P.types.size)) = true) (hvs : varsRowed P s.vars = true) {tb : TypeId} (htb : P.underlying tb = some .bool)
    (hres : f.resultTypes = #[tb]) (hW : DataW.Whole enc P f.params.toList s.vars false W args.toList ds gs before)
    (hfn : s.fn H (ds ++ gs) = { results := [.lit (.bool true)], args := ds, vars := gs }) (hb : Below W.heap.size W W') :
    s.post enc P f false true false false W args (.bool true) W' := by
  have hlt : ∀ x ∈ before, x.block < W.heap.size := fun x hx => by simpa using hW.lt x hx
  have hW' := hW
  obtain ⟨p, q, hA, hV, rfl, hfz, hnd⟩ := hW
  refine ⟨ds, gs, p ++ q, [], p, q, hW', ?_, ?_, ?_, hb.frame _, fun h => by cases h⟩
  · rw [hfn, hres]
    exact trodAll_mk1 (shut_bool htb true)
  · rw [hfn]
    exact trodAll_below hl hb hts hA (fun x hx => hlt x (by simp [hx]))
  · rw [hfn]
    exact Below.trodVars hl hb hvs hV

/-- 'THERE IS AN INPUT THAT FITS', at a world whose shape is shown. -/
theorem witness_row_shaped {H : Type} {enc : TypeId × Value → H} {C : Checked} {os : Os} {f : FuncId} {fn : Func} {s : OpenSpec} {conds : List PathCond} {apart : Bool} {laid : List (String × DataW Unit)} (w0 : World) (args : Array Value) (hos : w0.os = os)
    (hsh : (w0.forCall (fun _ _ => 0) ⟨#[], args, []⟩).Shaped C.prog)
    (hok : Input.okWideB C.prog (w0.forCall (fun _ _ => 0) ⟨#[], args, []⟩) f ⟨#[], args, []⟩ = true)
    (hrow : s.preRow enc C.prog fn conds apart laid (w0.forCall (fun _ _ => 0) ⟨#[], args, []⟩).memory args) :
    ∃ (w : World) (tape : Tape) (i : Input), w.os = os ∧ (w.forCall tape i).Shaped C.prog ∧ i.vars = [] ∧ Input.okWide C.prog (w.forCall tape i) .any w.heap.size f i ∧
      s.preRow enc C.prog fn conds apart laid (w.forCall tape i).memory i.args ∧ ({} : Assume).holds C.prog (lone (Frame.enter C.prog f i.args .normal) [] (w.forCall tape i)) :=
  ⟨w0, fun _ _ => 0, ⟨#[], args, []⟩, hos, hsh, (Input.okWide_of_okWideB (base := 0) hok).1, (Input.okWide_of_okWideB hok).2, hrow, by
    simp [Assume.holds]⟩

/-- A listed array of texts, as a row lists it. -/
def strTab {H : Type} (ss : List (List UInt8)) : DataW H := .agg (ss.map fun s => .lit (.string s))

theorem cells_of_strTab {H : Type} {enc : TypeId × Value → H} {P : Program} {w : World} {base : Nat} {sp : Nat → Bool} {held : Bool} {fuel : Nat} {t e : TypeId} {n : Nat} {cs : List Value} {ss : List (List UInt8)} {p : List MemPlace}
    (ht : P.underlying t = some (.array n e)) (he : P.underlying e = some .string) (hce : P.cellsOf e = 1) (hct : P.cellsOf t = n)
    (h : DataW.trod enc P w base sp held fuel t cs = some (strTab ss, p)) : cs = ss.map fun s => Value.string ⟨s.toArray⟩ := by
  cases fuel with
  | zero => simp [DataW.trod] at h
  | succ fuel =>
    simp only [DataW.trod, ht, hce, hct, Nat.mul_one] at h
    split at h
    · rename_i hl
      obtain ⟨xs, hm, hx⟩ := Option.map_eq_some_iff.1 h
      have hxs : xs.map (·.1) = ss.map fun s => (DataW.lit (.string s) : DataW H) := by
        have := congrArg Prod.fst hx
        simpa [strTab] using this
      have hxl : xs.length = n := by simpa using Lib.mapM_length hm
      have hzl : ss.length = n := by
        have := congrArg List.length hxs
        simp at this
        omega
      apply List.ext_getElem?
      intro i
      by_cases hi : i < n
      · obtain ⟨b, hb, hf⟩ := Lib.mapM_at hm i i (by simp [hi])
        obtain ⟨z, hc, rfl, _⟩ := DataW.trod_string he hf
        have h1 : cs[i]? = some (.string z) := by
          have := congrArg (·[0]?) hc
          simpa [List.getElem?_take, List.getElem?_drop] using this
        have h2 : (xs.map (·.1))[i]? = some (DataW.lit (.string z.data.toList) : DataW H) := by simp [hb]
        rw [hxs] at h2
        simp only [List.getElem?_map, Option.map_eq_some_iff, DataW.lit.injEq, Lit.string.injEq] at h2
        obtain ⟨z', hz', rfl⟩ := h2
        simp [h1, hz']
      · rw [List.getElem?_eq_none (by omega), List.getElem?_eq_none (by simp; omega)]
    · cases h

/-- The variable NAME holds just these texts. -/
def StrIs (P : Program) (w : World) (name : String) (ss : List (List UInt8)) : Prop := w.var? P name = some (ss.map fun s => Value.string ⟨s.toArray⟩).toArray

theorem strIs_of_vars {P : Program} {W : World} {name : String} {ss : List (List UInt8)} {rest : List (String × DataW Unit)} {ps : List MemPlace} {g : Nat} {t e : TypeId} {n : Nat}
    (hg : P.globalNamed name = some g) (hty : (P.globals[g]?).map (·.type) = some t) (ht : P.underlying t = some (.array n e)) (he : P.underlying e = some .string) (hce : P.cellsOf e = 1) (hct : P.cellsOf t = n)
    (h : DataW.LaidVars P W ((name, strTab ss) :: rest) ps) : StrIs P W name ss ∧ ∃ q, DataW.LaidVars P W rest q := by
  obtain ⟨g', t', cs, fuel, p, q, hg', ht', hvar, hd, hq, _⟩ := h
  obtain rfl := Option.some.inj (hg.symm.trans hg')
  obtain rfl := Option.some.inj (hty.symm.trans ht')
  refine ⟨?_, q, hq⟩
  unfold StrIs
  rw [hvar, ← cells_of_strTab ht he hce hct hd]

theorem tabIs_of_vars {P : Program} {W : World} {name : String} {k : IntKind} {zs : List Int} {rest : List (String × DataW Unit)} {ps : List MemPlace} {g : Nat} {t e : TypeId} {n : Nat}
    (hg : P.globalNamed name = some g) (hty : (P.globals[g]?).map (·.type) = some t) (ht : P.underlying t = some (.array n e)) (he : P.underlying e = some (.int k)) (hce : P.cellsOf e = 1) (hct : P.cellsOf t = n)
    (h : DataW.LaidVars P W ((name, Lib.tabData k zs) :: rest) ps) : Lib.TabIs P W name k zs ∧ ∃ q, DataW.LaidVars P W rest q := by
  obtain ⟨g', t', cs, fuel, p, q, hg', ht', hvar, hd, hq, _⟩ := h
  obtain rfl := Option.some.inj (hg.symm.trans hg')
  obtain rfl := Option.some.inj (hty.symm.trans ht')
  refine ⟨?_, q, hq⟩
  unfold Lib.TabIs
  rw [hvar, ← Lib.cells_of_tab ht he hce hct hd]

theorem StrIs.cell {P : Program} {W : World} {name : String} {ss : List (List UInt8)} {g : Nat} (h : StrIs P W name ss) (hg : P.globalNamed name = some g) (i : Nat) (hi : i < ss.length) :
    W.cell? ⟨g, i, none⟩ = some (.string ⟨(ss.getD i []).toArray⟩) := by
  have := World.var?_cell hg h i
  simpa [List.getD, hi] using this

theorem trodVars_length {H : Type} {enc : TypeId × Value → H} {P : Program} {w : World} {sp : Nat → Bool} :
    ∀ {ns : List String} {gs : List (DataW H)} {ps : List MemPlace}, DataW.TrodVars enc P w sp ns gs ps → gs.length = ns.length
  | [], [], _, _ => rfl
  | [], _ :: _, _, h => h.elim
  | _ :: _, [], _, h => h.elim
  | n :: ns, d :: ds, ps, h => by
    obtain ⟨g, t, cs, fuel, p, q, h1, h2, h3, h4, hs, e⟩ := h
    simp [trodVars_length hs]

/-- The premises at a start, by closed facts: for the first form (k: always true) and for the second (k: its bound). -/
theorem preRow_of_bool {H : Type} {enc : TypeId × Value → H} {P : Program} {f : Func} {s : OpenSpec} {conds : List PathCond} {apart : Bool} {laid : List (String × DataW Unit)} {w : World} {args : Array Value} (fuel : Nat)
    (k : (H : Type) → List (DataW H) → Bool) (hk : ∀ k', s.cond = some k' → k' = k)
    (hx : ((DataW.whole enc P w f.params.toList s.vars apart args.toList fuel).any fun x => conds.all (PathCond.test P ⟨f.params.toList, x.1, s.bare.plain.varTypes P, x.2.1⟩) && k H (x.1 ++ x.2.1)) = true)
    (hsz : s.bare.sizedB enc P f apart w args fuel = true) (hl : laidMetH P laid w) : s.preRow enc P f conds apart laid w args := by
  cases h : DataW.whole enc P w f.params.toList s.vars apart args.toList fuel with
  | none => rw [h] at hx; cases hx
  | some x =>
    rw [h] at hx
    simp only [Option.any_some, Bool.and_eq_true] at hx
    exact OpenSpec.preRow_of_cond fuel h hx.1 (fun k' hk' => by rw [hk k' hk']; exact hx.2) hsz hl
end Go.Proofs.YtpkhblhcdnohmaaGreatDoor
/-
  What a listed array of structs of integers holds.
-/
namespace Go.Proofs.YtpkhblhcdnohmaaGreatDoor
open Go.ChangeShapes Go.WideShapes Go.ChangeAt Go.RowKit
set_option linter.unusedVariables false

/-- A listed array of structs of integers, as a row lists it. -/
def gridTab {H : Type} (rs : List (List Int)) : DataW H := .agg (rs.map fun r => .agg (r.map fun z => .lit (.int .i64 z)))

theorem cells_of_grid {H : Type} {enc : TypeId × Value → H} {P : Program} {w : World} {base : Nat} {sp : Nat → Bool} {held : Bool} {fuel : Nat} {t e ti : TypeId} {n c : Nat} {fs : Array Field} {cs : List Value} {rs : List (List Int)} {p : List MemPlace}
    (ht : P.underlying t = some (.array n e)) (he : P.underlying e = some (.struct fs)) (hti : P.underlying ti = some (.int .i64)) (hfs : (fs.toList.map fun f => (f.type, f.offset)) = (List.range c).map fun j => (ti, j)) (hci : P.cellsOf ti = 1) (hce : P.cellsOf e = c)
    (h : DataW.trod enc P w base sp held fuel t cs = some (gridTab rs, p)) : ∀ i r j z, rs[i]? = some r → r[j]? = some z → cs[i * c + j]? = some (.int .i64 z) := by
  intro i r j z hi hj
  cases fuel with
  | zero => simp [DataW.trod] at h
  | succ fuel =>
    simp only [DataW.trod, ht] at h
    split at h
    · obtain ⟨xs, hm, hx⟩ := Option.map_eq_some_iff.1 h
      have hxs : xs.map (·.1) = rs.map fun r => (DataW.agg (r.map fun z => .lit (.int .i64 z)) : DataW H) := by
        have := congrArg Prod.fst hx
        simpa [gridTab] using this
      have hxl : xs.length = n := by simpa using Lib.mapM_length hm
      have hil : i < n := by
        have h1 := congrArg List.length hxs
        have h2 := (List.getElem?_eq_some_iff.1 hi).1
        simp at h1
        omega
      obtain ⟨b, hb, hf⟩ := Lib.mapM_at hm i i (by simp [hil])
      have hb1 : b.1 = .agg (r.map fun z => .lit (.int .i64 z)) := by
        have := congrArg (·[i]?) hxs
        simp [hb, hi] at this
        exact this
      rw [hce] at hf
      cases fuel with
      | zero => simp [DataW.trod] at hf
      | succ fuel =>
        simp only [DataW.trod, he] at hf
        split at hf
        · obtain ⟨ys, hm2, hy⟩ := Option.map_eq_some_iff.1 hf
          have hys : ys.map (·.1) = r.map fun z => (DataW.lit (.int .i64 z) : DataW H) := by
            have := congrArg Prod.fst hy
            rw [hb1] at this
            simpa using this
          have hyl : ys.length = fs.toList.length := Lib.mapM_length hm2
          have hjl : j < fs.toList.length := by
            have h1 := congrArg List.length hys
            have h2 := (List.getElem?_eq_some_iff.1 hj).1
            simp at h1 hyl ⊢
            omega
          obtain ⟨f, hfj⟩ : ∃ f, fs.toList[j]? = some f := ⟨_, List.getElem?_eq_getElem hjl⟩
          obtain ⟨y, hyj, hty⟩ := Lib.mapM_at hm2 j f hfj
          have hfe : f.type = ti ∧ f.offset = j ∧ j < c := by
            have h1 := congrArg (·[j]?) hfs
            simp only [List.getElem?_map, hfj, Option.map_some] at h1
            have hjc : j < c := by
              have h2 := congrArg List.length hfs
              simp at h2 hjl
              omega
            rw [List.getElem?_range hjc] at h1
            simp at h1
            exact ⟨h1.1, h1.2, hjc⟩
          rw [hfe.1, hfe.2.1, hci] at hty
          obtain ⟨z', hc, rfl, _⟩ := DataW.trod_int hti hty
          have h2 := congrArg (·[j]?) hys
          simp [hyj, hj] at h2
          subst h2
          have h3 := congrArg (·[0]?) hc
          simp only [List.getElem?_take, List.getElem?_drop, List.getElem?_cons_zero] at h3
          simpa [hfe.2.2] using h3
        · cases hf
    · cases h

theorem gridIs_of_vars {P : Program} {W : World} {name : String} {rs : List (List Int)} {rest : List (String × DataW Unit)} {ps : List MemPlace} {g : Nat} {t e ti : TypeId} {n c : Nat} {fs : Array Field}
    (hg : P.globalNamed name = some g) (hty : (P.globals[g]?).map (·.type) = some t) (ht : P.underlying t = some (.array n e)) (he : P.underlying e = some (.struct fs)) (hti : P.underlying ti = some (.int .i64)) (hfs : (fs.toList.map fun f => (f.type, f.offset)) = (List.range c).map fun j => (ti, j))
    (hci : P.cellsOf ti = 1) (hce : P.cellsOf e = c) (h : DataW.LaidVars P W ((name, gridTab rs) :: rest) ps) : ∀ i r j z, rs[i]? = some r → r[j]? = some z → W.cell? ⟨g, i * c + j, none⟩ = some (.int .i64 z) := by
  obtain ⟨g', t', cs, fuel, p, q, hg', ht', hvar, hd, hq, _⟩ := h
  obtain rfl := Option.some.inj (hg.symm.trans hg')
  obtain rfl := Option.some.inj (hty.symm.trans ht')
  intro i r j z hi hj
  have h1 := cells_of_grid ht he hti hfs hci hce hd i r j z hi hj
  have h2 := World.var?_cell hg hvar (i * c + j)
  rw [h2]
  simpa using h1
end Go.Proofs.YtpkhblhcdnohmaaGreatDoor
/-
  Structs that lie in boxes: what a call leaves of them; modules, deeper and by their cells.
-/
namespace Go.Proofs.YtpkhblhcdnohmaaGreatDoor
open Go.ChangeShapes Go.WideShapes Go.ChangeAt Go.RowKit
set_option linter.unusedVariables false

theorem HFn.deeper {w : World} {S : Nat → Prop} {d d' : Nat} (hd : d ≤ d') {cs : List Value} {f : Fn'} (h : HFn w S d cs f) : HFn w S d' cs f := by
  have hs : SameOn S w w := ⟨Nat.le_refl _, fun _ _ _ => rfl⟩
  obtain ⟨cv, rfl, h1, h2, hc⟩ := h
  exact ⟨cv, rfl, h1, h2, hc.mono hs (fun _ h => h) (fun _ _ _ h => h.mono hs (fun _ h => h) (fun _ _ => HEx.deeper hd))⟩
theorem HMd.deeper {w : World} {S : Nat → Prop} {d d' : Nat} (hd : d ≤ d') {cs : List Value} {m : Md} (h : HMd w S d cs m) : HMd w S d' cs m := by
  have hs : SameOn S w w := ⟨Nat.le_refl _, fun _ _ _ => rfl⟩
  obtain ⟨ev, fv, rfl, h1, he, hf⟩ := h
  exact ⟨ev, fv, rfl, h1, he.mono hs (fun _ h => h) (fun _ _ _ h => h), hf.mono hs (fun _ h => h) (fun _ _ _ h => h.deeper hd)⟩
theorem HMd.shape {w : World} {S : Nat → Prop} {d : Nat} {cs : List Value} {m : Md} (h : HMd w S d cs m) : ∃ s p1 n1 q1 p2 n2 q2, cs = [.string s, .slice p1 n1 q1, .slice p2 n2 q2] := by
  obtain ⟨ev, fv, rfl, _, ⟨p1, c1, rfl, _⟩, ⟨p2, c2, rfl, _⟩⟩ := h
  exact ⟨_, _, _, _, _, _, _, rfl⟩

theorem HMd.agg {w : World} {S : Nat → Prop} {d : Nat} {v : Value} {m : Md} (h : HMd w S d v.cells.toList m) : ∃ cs : List Value, v = .agg cs.toArray ∧ HMd w S d cs m :=
  ⟨v.cells.toList, agg_of_cells rfl (by obtain ⟨_, _, e, _⟩ := h; rw [e]; simp), h⟩
end Go.Proofs.YtpkhblhcdnohmaaGreatDoor
