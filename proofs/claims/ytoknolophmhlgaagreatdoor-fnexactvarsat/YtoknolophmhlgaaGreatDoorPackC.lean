/-
  Texts of the proof, packed: ModOkSpecD, OrdBase.
-/
import Derived.Test.YtoknolophmhlgaaGreatDoorPackB
import Derived.Lib.Bytealg
import Derived.Laws.Cover1
/-
  The specification's ModuleOk, by contract: an expression.
-/
namespace Go.Proofs.YtoknolophmhlgaaGreatDoor
open Go.ChangeShapes Go.WideShapes Go.ChangeAt Go.RowKit
set_option linter.unusedVariables false

set_option maxHeartbeats 16000000 in
set_option maxRecDepth 100000 in
theorem rightS_of {d : Nat} (h1 : RgC d) (h2 : ClC d) : RgC (d + 1) := by
  intro w cs x pat deep h hd0 hd1
  obtain ⟨kv, cv, rfl, -, -, hts, hms, f0, f1⟩ := h
  obtain ⟨kx, nx, tx, mx, ks, cl⟩ := x
  simp only [Ex.kind, Ex.n, Ex.text, Ex.mod, Ex.kids, Ex.clauses] at *
  obtain ⟨p, cap, rfl, hcl, hcm, hx⟩ := f0
  obtain ⟨q, cap', rfl, hcl', hcm', hy⟩ := f1
  have hnb : ks.length ≤ 9223372036854775807 := by unfold maxLen at hcm; omega
  have hmb : cl.length ≤ 9223372036854775807 := by unfold maxLen at hcm'; omega
  have hv := exOk_eq d kx nx tx mx ks cl pat deep
  rw [hv]
  clear hv
  generalize hn : ks.length = n at *
  generalize hm : cl.length = m at *
  have HN : Hid (ks.length = n) := hn
  have HM : Hid (cl.length = m) := hm
  have HX : Hid (ks ≠ [] → ∃ g off, p = some ⟨g, off, none⟩ ∧ All g ∧ g < w.heap.size ∧ ∀ i x, ks[i]? = some x → ∃ cs, cs.length = 6 ∧ (∀ j, j < 6 → w.cell? ⟨g, off + i * 6 + j, none⟩ = cs[j]?) ∧ HEx w All d cs x) := hx
  have HY : Hid (cl ≠ [] → ∃ g off, q = some ⟨g, off, none⟩ ∧ All g ∧ g < w.heap.size ∧ ∀ i x, cl[i]? = some x → ∃ cs, cs.length = 2 ∧ (∀ j, j < 2 → w.cell? ⟨g, off + i * 2 + j, none⟩ = cs[j]?) ∧ HCl w All (HEx w All d) cs x) := hy
  clear hx hy hn hm
  by_cases c1 : deep < 0
  · rw [decide_eq_false (by omega)]
    go_enter Tryz.func73, Tryz.ntmps73
    go_wp2
    go_ret
    exact ⟨by simp, (Below.refl _ _).alloc (Nat.le_refl _) _⟩
  rw [decide_eq_true (by omega : 0 ≤ deep)]
  cases hpl : plainB kx nx tx mx n m with
  | false =>
    go_enter Tryz.func73, Tryz.ntmps73
    go_wp2_with fail
    refine (plainS_any _ _ _ _ _ _ _ _ _ _ _ hts hms hnb hmb).mono ?_
    rintro e W1 ⟨rfl, hb⟩
    rw [hpl]
    have B1 : Hid (Below w.heap.size w W1) := ((Below.refl _ _).alloc (Nat.le_refl _) _).trans (hb.mono (by simp))
    have bA : Hid (Blk W1 w.heap.size #[.int .i64 kx, .int .i64 nx, .string tx, .string mx, .slice p n cap, .slice q m cap'] 73) := (Blk.new (w := w)).next hb
    have xa0 := bA.out.cell 0 _ rfl
    have xa1 := bA.out.cell 1 _ rfl
    have xa2 := bA.out.cell 2 _ rfl
    have xa3 := bA.out.cell 3 _ rfl
    have xa4 := bA.out.cell 4 _ rfl
    have xa5 := bA.out.cell 5 _ rfl
    clear hb
    go_wp2
    go_ret
    exact ⟨by simp, B1.out⟩
  | true =>
    obtain ⟨r0, r1⟩ := plainB_range hpl
    cases pat with
    | true =>
      by_cases c6 : kx ≤ 6
      · have h6 : inB kx 0 6 = true := by simp [inB]; omega
        have hpt : patB kx true = true := by simp [patB]; omega
        rw [hpt, Bool.true_or]
        simp only [Bool.true_and]
        go_enter Tryz.func73, Tryz.ntmps73
        go_wp2_with fail
        refine (plainS_any _ _ _ _ _ _ _ _ _ _ _ hts hms hnb hmb).mono ?_
        rintro e W1 ⟨rfl, hb⟩
        rw [hpl]
        have B1 : Hid (Below w.heap.size w W1) := ((Below.refl _ _).alloc (Nat.le_refl _) _).trans (hb.mono (by simp))
        have bA : Hid (Blk W1 w.heap.size #[.int .i64 kx, .int .i64 nx, .string tx, .string mx, .slice p n cap, .slice q m cap'] 73) := (Blk.new (w := w)).next hb
        have xa0 := bA.out.cell 0 _ rfl
        have xa1 := bA.out.cell 1 _ rfl
        have xa2 := bA.out.cell 2 _ rfl
        have xa3 := bA.out.cell 3 _ rfl
        have xa4 := bA.out.cell 4 _ rfl
        have xa5 := bA.out.cell 5 _ rfl
        clear hb
        go_wp2_with (first | (go_at_call 30; go_must (refine (l01In_any _ _ _ _).mono ?_; rintro e w9 ⟨rfl, hw9⟩; rw [h6, hw9]; clear hw9 w9)))
        clear xa0 xa1 xa2 xa3 xa4 xa5
        go_loopw [7] (fun iv wr => ∃ k1 : Nat, k1 ≤ n ∧ iv = .int .i64 k1 ∧ Hid (kidsB (fun y q => exOk d y q (deep - 1)) (ks.take k1) true true = true) ∧ Hid (SameOn All W1 wr) ∧ Below w.heap.size w wr) (fun iv _ => n - (intOf iv).toNat)
        case atStart => exact ⟨0, Nat.zero_le _, rfl, kidsB_nil _ _ _ _, ⟨Nat.le_refl _, fun _ _ _ => rfl⟩, B1.out⟩
        case round =>
          obtain ⟨k1, hk, rfl, hall, hso, hb⟩ := hrel
          have HB : Hid (Below w.heap.size w wr) := hb
          have b1 := bA.out.same_on hso.out
          have hlw := b1.lt
          have xa0 := b1.cell 0 _ rfl
          have xa1 := b1.cell 1 _ rfl
          have xa2 := b1.cell 2 _ rfl
          have xa3 := b1.cell 3 _ rfl
          have xa4 := b1.cell 4 _ rfl
          have xa5 := b1.cell 5 _ rfl
          clear b1
          by_cases hlt : k1 < n
          · obtain ⟨x, hxk⟩ : ∃ x, ks[k1]? = some x := ⟨ks[k1]'(by rw [HN.out]; exact hlt), List.getElem?_eq_getElem _⟩
            obtain ⟨g, off, rfl, -, hgl, hat⟩ := HX.out (by intro h; rw [h] at hxk; simp at hxk)
            obtain ⟨cs, hcsl, hcs, r1⟩ := hat k1 x hxk
            have E1 : ∀ w', SameOn All wr w' → HEx w' All d cs x := fun w' hw => r1.mono (SameOn.trans (SameOn.of_below hb) hw) (fun _ h => h)
            obtain ⟨c0, c1, c2, c3, c4, c5, rfl⟩ := len6 hcsl
            have a0 := hcs 0 (by omega)
            have a1 := hcs 1 (by omega)
            have a2 := hcs 2 (by omega)
            have a3 := hcs 3 (by omega)
            have a4 := hcs 4 (by omega)
            have a5 := hcs 5 (by omega)
            rw [← hb.cell (p := ⟨g, _, none⟩) hgl] at a0 a1 a2 a3 a4 a5
            simp at a0 a1 a2 a3 a4 a5
            have hki : (k1 : Int) < (n : Int) := by omega
            have hk0 : (0 : Int) ≤ (k1 : Int) := by omega
            have hgw : g < wr.heap.size := Nat.lt_of_lt_of_le hgl hb.size
            have qa0 : ∀ m : Wd (fun w' => SameOn All wr w' ∧ Below w.heap.size w w'), m.val.cell? ⟨g, off + k1 * 6, none⟩ = some c0 := fun m => (World.cell?_of_block (m.ok.1.2 g trivial hgw)).trans a0
            have qa1 : ∀ m : Wd (fun w' => SameOn All wr w' ∧ Below w.heap.size w w'), m.val.cell? ⟨g, off + k1 * 6 + 1, none⟩ = some c1 := fun m => (World.cell?_of_block (m.ok.1.2 g trivial hgw)).trans a1
            have qa2 : ∀ m : Wd (fun w' => SameOn All wr w' ∧ Below w.heap.size w w'), m.val.cell? ⟨g, off + k1 * 6 + 2, none⟩ = some c2 := fun m => (World.cell?_of_block (m.ok.1.2 g trivial hgw)).trans a2
            have qa3 : ∀ m : Wd (fun w' => SameOn All wr w' ∧ Below w.heap.size w w'), m.val.cell? ⟨g, off + k1 * 6 + 3, none⟩ = some c3 := fun m => (World.cell?_of_block (m.ok.1.2 g trivial hgw)).trans a3
            have qa4 : ∀ m : Wd (fun w' => SameOn All wr w' ∧ Below w.heap.size w w'), m.val.cell? ⟨g, off + k1 * 6 + 4, none⟩ = some c4 := fun m => (World.cell?_of_block (m.ok.1.2 g trivial hgw)).trans a4
            have qa5 : ∀ m : Wd (fun w' => SameOn All wr w' ∧ Below w.heap.size w w'), m.val.cell? ⟨g, off + k1 * 6 + 5, none⟩ = some c5 := fun m => (World.cell?_of_block (m.ok.1.2 g trivial hgw)).trans a5
            have qx0 : ∀ m : Wd (fun w' => SameOn All wr w' ∧ Below w.heap.size w w'), m.val.cell? ⟨w.heap.size, 0, none⟩ = some (.int .i64 kx) := fun m => (World.cell?_of_block (m.ok.1.2 w.heap.size trivial hlw)).trans xa0
            have qx4 : ∀ m : Wd (fun w' => SameOn All wr w' ∧ Below w.heap.size w w'), m.val.cell? ⟨w.heap.size, 4, none⟩ = some (.slice (some ⟨g, off, none⟩) n cap) := fun m => (World.cell?_of_block (m.ok.1.2 w.heap.size trivial hlw)).trans xa4
            clear hb hcs hat hcsl r1
            generalize hcv : exOk d x true (deep - 1) = cv
            have HCV : Hid (exOk d x true (deep - 1) = cv) := hcv
            have HC2 : Hid (cv = true → kidsB (fun y q => exOk d y q (deep - 1)) (ks.take (k1 + 1)) true true = true) := fun h => kidsB_succ _ ks _ _ k1 x hxk hall.out (by rw [ite_self]; exact hcv.trans h)
            have HC3 : Hid (cv = false → kidsB (fun y q => exOk d y q (deep - 1)) ks true true = false) := fun h => kidsB_at _ ks _ _ k1 x hxk (by rw [ite_self]; exact hcv.trans h)
            clear hcv
            go_wp2
            have hCne : Nonempty (Wd (fun w' => SameOn All wr w' ∧ Below w.heap.size w w')) := ⟨⟨wr.drew, ⟨⟨Nat.le_refl _, fun _ _ _ => rfl⟩, HB.out.drew⟩⟩⟩
            refine wp_region_class (fun w' => SameOn All wr w' ∧ Below w.heap.size w w') (by kernel_rfl) (by kernel_rfl) ⟨⟨Nat.le_refl _, fun _ _ _ => rfl⟩, HB.out.drew⟩ ?_
            repeat (go_big_quiet_step (first | (rename_i m; go_at_call 73; refine (h1 _ _ x true (deep - 1) (E1 _ m.ok.1) (by omega) (by omega)).mono ?_; rintro e w1 ⟨rfl, hb1⟩; exact ⟨by rw [HCV.out], ⟨⟨w1, ⟨(SameOn.trans m.ok.1 (SameOn.of_below hb1)), m.ok.2.trans (hb1.mono m.ok.2.size)⟩⟩, rfl⟩⟩)))
            refine wpQuiet_nil ?_
            rintro _ ⟨mq, rfl⟩
            have HB4 : Hid (Below w.heap.size w mq.val) := mq.ok.2
            have HS4 : Hid (SameOn All W1 mq.val) := hso.out.trans mq.ok.1
            generalize mq.val = w4 at HB4 HS4 ⊢
            clear HCV
            cases cv with
            | true =>
              have HT' : Hid _ := HC2.out rfl
              clear HC2 HC3
              go_wp2_with fail
              exact ⟨⟨k1 + 1, by omega, by go_num, HT'.out, HS4.out, HB4.out⟩, by simp [intOf]; omega⟩
            | false =>
              have HF : Hid _ := HC3.out rfl
              clear HC2 HC3
              go_wp2_with fail
              go_ret
              exact ⟨by rw [HF.out]; simp, HB4.out⟩
          · have HD_ks : Hid (kidsB (fun y q => exOk d y q (deep - 1)) ks true true = true) := by
              have := hall.out
              rwa [List.take_of_length_le (by rw [HN.out]; omega)] at this
            clear hb
            go_wp2_with fail
            clear xa0 xa1 xa2 xa3 xa4 xa5
            go_loopw [8] (fun iv wr => ∃ k2 : Nat, k2 ≤ m ∧ iv = .int .i64 k2 ∧ Hid ((cl.take k2).all (fun y => clB (fun z q => exOk d z q (deep - 1)) y 1) = true) ∧ Hid (SameOn All W1 wr) ∧ Below w.heap.size w wr) (fun iv _ => m - (intOf iv).toNat)
            case atStart => exact ⟨0, Nat.zero_le _, rfl, by show _ = _; simp, hso.out, HB.out⟩
            case round =>
              obtain ⟨k2, hk, rfl, hall, hso, hb⟩ := hrel
              have HB : Hid (Below w.heap.size w wr) := hb
              have b1 := bA.out.same_on hso.out
              have xa0 := b1.cell 0 _ rfl
              have xa1 := b1.cell 1 _ rfl
              have xa2 := b1.cell 2 _ rfl
              have xa3 := b1.cell 3 _ rfl
              have xa4 := b1.cell 4 _ rfl
              have xa5 := b1.cell 5 _ rfl
              clear b1
              by_cases hlt : k2 < m
              · obtain ⟨x, hxk⟩ : ∃ x, cl[k2]? = some x := ⟨cl[k2]'(by rw [HM.out]; exact hlt), List.getElem?_eq_getElem _⟩
                obtain ⟨g, off, rfl, -, hgl, hat⟩ := HY.out (by intro h; rw [h] at hxk; simp at hxk)
                obtain ⟨cs, hcsl, hcs, r1⟩ := hat k2 x hxk
                have E1 : ∀ w', SameOn All wr w' → HCl w' All (HEx w' All d) cs x := fun w' hw => r1.mono (SameOn.trans (SameOn.of_below hb) hw) (fun _ h => h) (fun _ _ h => h.mono (SameOn.trans (SameOn.of_below hb) hw) (fun _ h => h))
                obtain ⟨c0, c1, rfl⟩ := len2 hcsl
                have a0 := hcs 0 (by omega)
                have a1 := hcs 1 (by omega)
                rw [← hb.cell (p := ⟨g, _, none⟩) hgl] at a0 a1
                simp at a0 a1
                have hki : (k2 : Int) < (m : Int) := by omega
                have hk0 : (0 : Int) ≤ (k2 : Int) := by omega
                clear hb hcs hat hcsl r1
                generalize hcv : (fun y => clB (fun z q => exOk d z q (deep - 1)) y 1) x = cv
                have HCV : Hid ((fun y => clB (fun z q => exOk d z q (deep - 1)) y 1) x = cv) := hcv
                have HC2 : Hid (cv = true → (cl.take (k2 + 1)).all (fun y => clB (fun z q => exOk d z q (deep - 1)) y 1) = true) := fun h => allT_succ _ cl k2 x hxk hall.out (hcv.trans h)
                have HC3 : Hid (cv = false → cl.all (fun y => clB (fun z q => exOk d z q (deep - 1)) y 1) = false) := fun h => allT_at _ cl k2 x hxk (hcv.trans h)
                clear hcv
                go_wp2_with fail
                refine (h2 _ _ x 1 (deep - 1) (E1 _ ⟨Nat.le_refl _, fun _ _ _ => rfl⟩) (by omega) (by omega)).mono ?_
                rintro e w4 ⟨rfl, hb4⟩
                have HB4 : Hid (Below w.heap.size w w4) := HB.out.trans (hb4.mono HB.out.size)
                have HS4 : Hid (SameOn All W1 w4) := hso.out.trans (SameOn.of_below hb4)
                rw [show clB (fun z q => exOk d z q (deep - 1)) x 1 = cv from HCV.out]
                clear hb4
                cases cv with
                | true =>
                  have HT := HC2.out rfl
                  clear HC2 HC3 HCV
                  have HT' : Hid _ := HT
                  clear HT
                  go_wp2_with fail
                  exact ⟨⟨k2 + 1, by omega, by go_num, HT'.out, HS4.out, HB4.out⟩, by simp [intOf]; omega⟩
                | false =>
                  have HF : Hid (cl.all (fun y => clB (fun z q => exOk d z q (deep - 1)) y 1) = false) := HC3.out rfl
                  clear HC2 HC3 HCV
                  go_wp2_with fail
                  go_ret
                  exact ⟨by first | (rw [HF.out]; simp) | simp [HF.out], HB4.out⟩
              · have HD_cl : Hid (cl.all (fun y => clB (fun z q => exOk d z q (deep - 1)) y 1) = true) := by
                  have := hall.out
                  rwa [List.take_of_length_le (by rw [HM.out]; omega)] at this
                clear hb
                go_wp2_with fail
                go_ret
                exact ⟨by rw [HD_ks.out, HD_cl.out]; simp, HB.out⟩
      · have h6 : inB kx 0 6 = false := by simp [inB]; omega
        have hpt : patB kx true = false := by simp [patB]; omega
        rw [hpt]
        go_enter Tryz.func73, Tryz.ntmps73
        go_wp2_with fail
        refine (plainS_any _ _ _ _ _ _ _ _ _ _ _ hts hms hnb hmb).mono ?_
        rintro e W1 ⟨rfl, hb⟩
        rw [hpl]
        have B1 : Hid (Below w.heap.size w W1) := ((Below.refl _ _).alloc (Nat.le_refl _) _).trans (hb.mono (by simp))
        have bA : Hid (Blk W1 w.heap.size #[.int .i64 kx, .int .i64 nx, .string tx, .string mx, .slice p n cap, .slice q m cap'] 73) := (Blk.new (w := w)).next hb
        have xa0 := bA.out.cell 0 _ rfl
        have xa1 := bA.out.cell 1 _ rfl
        have xa2 := bA.out.cell 2 _ rfl
        have xa3 := bA.out.cell 3 _ rfl
        have xa4 := bA.out.cell 4 _ rfl
        have xa5 := bA.out.cell 5 _ rfl
        clear hb
        go_wp2_with (first | (go_at_call 30; go_must (refine (l01In_any _ _ _ _).mono ?_; rintro e w9 ⟨rfl, hw9⟩; rw [h6, hw9]; clear hw9 w9)))
        go_ret
        exact ⟨by simp, B1.out⟩
    | false =>
      by_cases k3 : kx = 3
      · subst k3
        have hpt : patB 3 false = false := by simp [patB]
        rw [hpt]
        go_enter Tryz.func73, Tryz.ntmps73
        go_wp2_with fail
        refine (plainS_any _ _ _ _ _ _ _ _ _ _ _ hts hms hnb hmb).mono ?_
        rintro e W1 ⟨rfl, hb⟩
        rw [hpl]
        have B1 : Hid (Below w.heap.size w W1) := ((Below.refl _ _).alloc (Nat.le_refl _) _).trans (hb.mono (by simp))
        have bA : Hid (Blk W1 w.heap.size #[.int .i64 3, .int .i64 nx, .string tx, .string mx, .slice p n cap, .slice q m cap'] 73) := (Blk.new (w := w)).next hb
        have xa0 := bA.out.cell 0 _ rfl
        have xa1 := bA.out.cell 1 _ rfl
        have xa2 := bA.out.cell 2 _ rfl
        have xa3 := bA.out.cell 3 _ rfl
        have xa4 := bA.out.cell 4 _ rfl
        have xa5 := bA.out.cell 5 _ rfl
        clear hb
        go_wp2
        go_ret
        exact ⟨by simp, B1.out⟩
      have hpt : patB kx false = true := by simp [patB, k3]
      rw [hpt]
      by_cases k9 : kx = 9
      · subst k9
        have e9 : (false || decide ((9 : Int) = 9)) = true := rfl
        rw [e9]
        simp only [Bool.true_and]
        go_enter Tryz.func73, Tryz.ntmps73
        go_wp2_with fail
        refine (plainS_any _ _ _ _ _ _ _ _ _ _ _ hts hms hnb hmb).mono ?_
        rintro e W1 ⟨rfl, hb⟩
        rw [hpl]
        have B1 : Hid (Below w.heap.size w W1) := ((Below.refl _ _).alloc (Nat.le_refl _) _).trans (hb.mono (by simp))
        have bA : Hid (Blk W1 w.heap.size #[.int .i64 9, .int .i64 nx, .string tx, .string mx, .slice p n cap, .slice q m cap'] 73) := (Blk.new (w := w)).next hb
        have xa0 := bA.out.cell 0 _ rfl
        have xa1 := bA.out.cell 1 _ rfl
        have xa2 := bA.out.cell 2 _ rfl
        have xa3 := bA.out.cell 3 _ rfl
        have xa4 := bA.out.cell 4 _ rfl
        have xa5 := bA.out.cell 5 _ rfl
        clear hb
        go_wp2_with fail
        clear xa0 xa1 xa2 xa3 xa4 xa5
        go_loopw [7] (fun iv wr => ∃ k1 : Nat, k1 ≤ n ∧ iv = .int .i64 k1 ∧ Hid (kidsB (fun y q => exOk d y q (deep - 1)) (ks.take k1) true false = true) ∧ Hid (SameOn All W1 wr) ∧ Below w.heap.size w wr) (fun iv _ => n - (intOf iv).toNat)
        case atStart => exact ⟨0, Nat.zero_le _, rfl, kidsB_nil _ _ _ _, ⟨Nat.le_refl _, fun _ _ _ => rfl⟩, B1.out⟩
        case round =>
          obtain ⟨k1, hk, rfl, hall, hso, hb⟩ := hrel
          have HB : Hid (Below w.heap.size w wr) := hb
          have b1 := bA.out.same_on hso.out
          have hlw := b1.lt
          have xa0 := b1.cell 0 _ rfl
          have xa1 := b1.cell 1 _ rfl
          have xa2 := b1.cell 2 _ rfl
          have xa3 := b1.cell 3 _ rfl
          have xa4 := b1.cell 4 _ rfl
          have xa5 := b1.cell 5 _ rfl
          clear b1
          by_cases hlt : k1 < n
          · obtain ⟨x, hxk⟩ : ∃ x, ks[k1]? = some x := ⟨ks[k1]'(by rw [HN.out]; exact hlt), List.getElem?_eq_getElem _⟩
            obtain ⟨g, off, rfl, -, hgl, hat⟩ := HX.out (by intro h; rw [h] at hxk; simp at hxk)
            obtain ⟨cs, hcsl, hcs, r1⟩ := hat k1 x hxk
            have E1 : ∀ w', SameOn All wr w' → HEx w' All d cs x := fun w' hw => r1.mono (SameOn.trans (SameOn.of_below hb) hw) (fun _ h => h)
            obtain ⟨c0, c1, c2, c3, c4, c5, rfl⟩ := len6 hcsl
            have a0 := hcs 0 (by omega)
            have a1 := hcs 1 (by omega)
            have a2 := hcs 2 (by omega)
            have a3 := hcs 3 (by omega)
            have a4 := hcs 4 (by omega)
            have a5 := hcs 5 (by omega)
            rw [← hb.cell (p := ⟨g, _, none⟩) hgl] at a0 a1 a2 a3 a4 a5
            simp at a0 a1 a2 a3 a4 a5
            have hki : (k1 : Int) < (n : Int) := by omega
            have hk0 : (0 : Int) ≤ (k1 : Int) := by omega
            have hgw : g < wr.heap.size := Nat.lt_of_lt_of_le hgl hb.size
            have qa0 : ∀ m : Wd (fun w' => SameOn All wr w' ∧ Below w.heap.size w w'), m.val.cell? ⟨g, off + k1 * 6, none⟩ = some c0 := fun m => (World.cell?_of_block (m.ok.1.2 g trivial hgw)).trans a0
            have qa1 : ∀ m : Wd (fun w' => SameOn All wr w' ∧ Below w.heap.size w w'), m.val.cell? ⟨g, off + k1 * 6 + 1, none⟩ = some c1 := fun m => (World.cell?_of_block (m.ok.1.2 g trivial hgw)).trans a1
            have qa2 : ∀ m : Wd (fun w' => SameOn All wr w' ∧ Below w.heap.size w w'), m.val.cell? ⟨g, off + k1 * 6 + 2, none⟩ = some c2 := fun m => (World.cell?_of_block (m.ok.1.2 g trivial hgw)).trans a2
            have qa3 : ∀ m : Wd (fun w' => SameOn All wr w' ∧ Below w.heap.size w w'), m.val.cell? ⟨g, off + k1 * 6 + 3, none⟩ = some c3 := fun m => (World.cell?_of_block (m.ok.1.2 g trivial hgw)).trans a3
            have qa4 : ∀ m : Wd (fun w' => SameOn All wr w' ∧ Below w.heap.size w w'), m.val.cell? ⟨g, off + k1 * 6 + 4, none⟩ = some c4 := fun m => (World.cell?_of_block (m.ok.1.2 g trivial hgw)).trans a4
            have qa5 : ∀ m : Wd (fun w' => SameOn All wr w' ∧ Below w.heap.size w w'), m.val.cell? ⟨g, off + k1 * 6 + 5, none⟩ = some c5 := fun m => (World.cell?_of_block (m.ok.1.2 g trivial hgw)).trans a5
            have qx0 : ∀ m : Wd (fun w' => SameOn All wr w' ∧ Below w.heap.size w w'), m.val.cell? ⟨w.heap.size, 0, none⟩ = some (.int .i64 9) := fun m => (World.cell?_of_block (m.ok.1.2 w.heap.size trivial hlw)).trans xa0
            have qx4 : ∀ m : Wd (fun w' => SameOn All wr w' ∧ Below w.heap.size w w'), m.val.cell? ⟨w.heap.size, 4, none⟩ = some (.slice (some ⟨g, off, none⟩) n cap) := fun m => (World.cell?_of_block (m.ok.1.2 w.heap.size trivial hlw)).trans xa4
            clear hb hcs hat hcsl r1
            by_cases hz : k1 = 0
            · have HIF : Hid ((if k1 = 0 then true else false) = true) := by show _ = _; rw [if_pos hz]
              have hz2 : ((k1 : Int) == 0) = true := by simp; omega
              clear hz
              generalize hcv : exOk d x true (deep - 1) = cv
              have HCV : Hid (exOk d x true (deep - 1) = cv) := hcv
              have HC2 : Hid (cv = true → kidsB (fun y q => exOk d y q (deep - 1)) (ks.take (k1 + 1)) true false = true) := fun h => kidsB_succ _ ks _ _ k1 x hxk hall.out (by rw [HIF.out]; exact hcv.trans h)
              have HC3 : Hid (cv = false → kidsB (fun y q => exOk d y q (deep - 1)) ks true false = false) := fun h => kidsB_at _ ks _ _ k1 x hxk (by rw [HIF.out]; exact hcv.trans h)
              clear hcv
              go_wp2
              have hCne : Nonempty (Wd (fun w' => SameOn All wr w' ∧ Below w.heap.size w w')) := ⟨⟨wr.drew, ⟨⟨Nat.le_refl _, fun _ _ _ => rfl⟩, HB.out.drew⟩⟩⟩
              refine wp_region_class (fun w' => SameOn All wr w' ∧ Below w.heap.size w w') (by kernel_rfl) (by kernel_rfl) ⟨⟨Nat.le_refl _, fun _ _ _ => rfl⟩, HB.out.drew⟩ ?_
              repeat (go_big_quiet_step (first | (rename_i m; go_at_call 73; refine (h1 _ _ x true (deep - 1) (E1 _ m.ok.1) (by omega) (by omega)).mono ?_; rintro e w1 ⟨rfl, hb1⟩; exact ⟨by rw [HCV.out], ⟨⟨w1, ⟨(SameOn.trans m.ok.1 (SameOn.of_below hb1)), m.ok.2.trans (hb1.mono m.ok.2.size)⟩⟩, rfl⟩⟩)))
              refine wpQuiet_nil ?_
              rintro _ ⟨mq, rfl⟩
              have HB4 : Hid (Below w.heap.size w mq.val) := mq.ok.2
              have HS4 : Hid (SameOn All W1 mq.val) := hso.out.trans mq.ok.1
              generalize mq.val = w4 at HB4 HS4 ⊢
              clear HCV
              cases cv with
              | true =>
                have HT' : Hid _ := HC2.out rfl
                clear HC2 HC3
                go_wp2_with fail
                exact ⟨⟨k1 + 1, by omega, by go_num, HT'.out, HS4.out, HB4.out⟩, by simp [intOf]; omega⟩
              | false =>
                have HF : Hid _ := HC3.out rfl
                clear HC2 HC3
                go_wp2_with fail
                go_ret
                exact ⟨by rw [HF.out]; simp, HB4.out⟩
            · have HIF : Hid ((if k1 = 0 then true else false) = false) := by show _ = _; rw [if_neg hz]
              have hz2 : ((k1 : Int) == 0) = false := by simp; omega
              clear hz
              generalize hcv : exOk d x false (deep - 1) = cv
              have HCV : Hid (exOk d x false (deep - 1) = cv) := hcv
              have HC2 : Hid (cv = true → kidsB (fun y q => exOk d y q (deep - 1)) (ks.take (k1 + 1)) true false = true) := fun h => kidsB_succ _ ks _ _ k1 x hxk hall.out (by rw [HIF.out]; exact hcv.trans h)
              have HC3 : Hid (cv = false → kidsB (fun y q => exOk d y q (deep - 1)) ks true false = false) := fun h => kidsB_at _ ks _ _ k1 x hxk (by rw [HIF.out]; exact hcv.trans h)
              clear hcv
              go_wp2
              have hCne : Nonempty (Wd (fun w' => SameOn All wr w' ∧ Below w.heap.size w w')) := ⟨⟨wr.drew, ⟨⟨Nat.le_refl _, fun _ _ _ => rfl⟩, HB.out.drew⟩⟩⟩
              refine wp_region_class (fun w' => SameOn All wr w' ∧ Below w.heap.size w w') (by kernel_rfl) (by kernel_rfl) ⟨⟨Nat.le_refl _, fun _ _ _ => rfl⟩, HB.out.drew⟩ ?_
              repeat (go_big_quiet_step (first | (rename_i m; go_at_call 73; refine (h1 _ _ x false (deep - 1) (E1 _ m.ok.1) (by omega) (by omega)).mono ?_; rintro e w1 ⟨rfl, hb1⟩; exact ⟨by rw [HCV.out], ⟨⟨w1, ⟨(SameOn.trans m.ok.1 (SameOn.of_below hb1)), m.ok.2.trans (hb1.mono m.ok.2.size)⟩⟩, rfl⟩⟩)))
              refine wpQuiet_nil ?_
              rintro _ ⟨mq, rfl⟩
              have HB4 : Hid (Below w.heap.size w mq.val) := mq.ok.2
              have HS4 : Hid (SameOn All W1 mq.val) := hso.out.trans mq.ok.1
              generalize mq.val = w4 at HB4 HS4 ⊢
              clear HCV
              cases cv with
              | true =>
                have HT' : Hid _ := HC2.out rfl
                clear HC2 HC3
                go_wp2_with fail
                exact ⟨⟨k1 + 1, by omega, by go_num, HT'.out, HS4.out, HB4.out⟩, by simp [intOf]; omega⟩
              | false =>
                have HF : Hid _ := HC3.out rfl
                clear HC2 HC3
                go_wp2_with fail
                go_ret
                exact ⟨by rw [HF.out]; simp, HB4.out⟩
          · have HD_ks : Hid (kidsB (fun y q => exOk d y q (deep - 1)) ks true false = true) := by
              have := hall.out
              rwa [List.take_of_length_le (by rw [HN.out]; omega)] at this
            clear hb
            go_wp2_with fail
            clear xa0 xa1 xa2 xa3 xa4 xa5
            go_loopw [8] (fun iv wr => ∃ k2 : Nat, k2 ≤ m ∧ iv = .int .i64 k2 ∧ Hid ((cl.take k2).all (fun y => clB (fun z q => exOk d z q (deep - 1)) y 1) = true) ∧ Hid (SameOn All W1 wr) ∧ Below w.heap.size w wr) (fun iv _ => m - (intOf iv).toNat)
            case atStart => exact ⟨0, Nat.zero_le _, rfl, by show _ = _; simp, hso.out, HB.out⟩
            case round =>
              obtain ⟨k2, hk, rfl, hall, hso, hb⟩ := hrel
              have HB : Hid (Below w.heap.size w wr) := hb
              have b1 := bA.out.same_on hso.out
              have xa0 := b1.cell 0 _ rfl
              have xa1 := b1.cell 1 _ rfl
              have xa2 := b1.cell 2 _ rfl
              have xa3 := b1.cell 3 _ rfl
              have xa4 := b1.cell 4 _ rfl
              have xa5 := b1.cell 5 _ rfl
              clear b1
              by_cases hlt : k2 < m
              · obtain ⟨x, hxk⟩ : ∃ x, cl[k2]? = some x := ⟨cl[k2]'(by rw [HM.out]; exact hlt), List.getElem?_eq_getElem _⟩
                obtain ⟨g, off, rfl, -, hgl, hat⟩ := HY.out (by intro h; rw [h] at hxk; simp at hxk)
                obtain ⟨cs, hcsl, hcs, r1⟩ := hat k2 x hxk
                have E1 : ∀ w', SameOn All wr w' → HCl w' All (HEx w' All d) cs x := fun w' hw => r1.mono (SameOn.trans (SameOn.of_below hb) hw) (fun _ h => h) (fun _ _ h => h.mono (SameOn.trans (SameOn.of_below hb) hw) (fun _ h => h))
                obtain ⟨c0, c1, rfl⟩ := len2 hcsl
                have a0 := hcs 0 (by omega)
                have a1 := hcs 1 (by omega)
                rw [← hb.cell (p := ⟨g, _, none⟩) hgl] at a0 a1
                simp at a0 a1
                have hki : (k2 : Int) < (m : Int) := by omega
                have hk0 : (0 : Int) ≤ (k2 : Int) := by omega
                clear hb hcs hat hcsl r1
                generalize hcv : (fun y => clB (fun z q => exOk d z q (deep - 1)) y 1) x = cv
                have HCV : Hid ((fun y => clB (fun z q => exOk d z q (deep - 1)) y 1) x = cv) := hcv
                have HC2 : Hid (cv = true → (cl.take (k2 + 1)).all (fun y => clB (fun z q => exOk d z q (deep - 1)) y 1) = true) := fun h => allT_succ _ cl k2 x hxk hall.out (hcv.trans h)
                have HC3 : Hid (cv = false → cl.all (fun y => clB (fun z q => exOk d z q (deep - 1)) y 1) = false) := fun h => allT_at _ cl k2 x hxk (hcv.trans h)
                clear hcv
                go_wp2_with fail
                refine (h2 _ _ x 1 (deep - 1) (E1 _ ⟨Nat.le_refl _, fun _ _ _ => rfl⟩) (by omega) (by omega)).mono ?_
                rintro e w4 ⟨rfl, hb4⟩
                have HB4 : Hid (Below w.heap.size w w4) := HB.out.trans (hb4.mono HB.out.size)
                have HS4 : Hid (SameOn All W1 w4) := hso.out.trans (SameOn.of_below hb4)
                rw [show clB (fun z q => exOk d z q (deep - 1)) x 1 = cv from HCV.out]
                clear hb4
                cases cv with
                | true =>
                  have HT := HC2.out rfl
                  clear HC2 HC3 HCV
                  have HT' : Hid _ := HT
                  clear HT
                  go_wp2_with fail
                  exact ⟨⟨k2 + 1, by omega, by go_num, HT'.out, HS4.out, HB4.out⟩, by simp [intOf]; omega⟩
                | false =>
                  have HF : Hid (cl.all (fun y => clB (fun z q => exOk d z q (deep - 1)) y 1) = false) := HC3.out rfl
                  clear HC2 HC3 HCV
                  go_wp2_with fail
                  go_ret
                  exact ⟨by first | (rw [HF.out]; simp) | simp [HF.out], HB4.out⟩
              · have HD_cl : Hid (cl.all (fun y => clB (fun z q => exOk d z q (deep - 1)) y 1) = true) := by
                  have := hall.out
                  rwa [List.take_of_length_le (by rw [HM.out]; omega)] at this
                clear hb
                go_wp2_with fail
                go_ret
                exact ⟨by rw [HD_ks.out, HD_cl.out]; simp, HB.out⟩
      · have e9 : (false || decide (kx = 9)) = false := by simp [k9]
        have k9b : (kx == 9) = false := by simpa using k9
        have k3b : (kx == 3) = false := by simpa using k3
        rw [e9]
        simp only [Bool.true_and]
        go_enter Tryz.func73, Tryz.ntmps73
        go_wp2_with fail
        refine (plainS_any _ _ _ _ _ _ _ _ _ _ _ hts hms hnb hmb).mono ?_
        rintro e W1 ⟨rfl, hb⟩
        rw [hpl]
        have B1 : Hid (Below w.heap.size w W1) := ((Below.refl _ _).alloc (Nat.le_refl _) _).trans (hb.mono (by simp))
        have bA : Hid (Blk W1 w.heap.size #[.int .i64 kx, .int .i64 nx, .string tx, .string mx, .slice p n cap, .slice q m cap'] 73) := (Blk.new (w := w)).next hb
        have xa0 := bA.out.cell 0 _ rfl
        have xa1 := bA.out.cell 1 _ rfl
        have xa2 := bA.out.cell 2 _ rfl
        have xa3 := bA.out.cell 3 _ rfl
        have xa4 := bA.out.cell 4 _ rfl
        have xa5 := bA.out.cell 5 _ rfl
        clear hb
        go_wp2_with fail
        clear xa0 xa1 xa2 xa3 xa4 xa5
        go_loopw [7] (fun iv wr => ∃ k1 : Nat, k1 ≤ n ∧ iv = .int .i64 k1 ∧ Hid (kidsB (fun y q => exOk d y q (deep - 1)) (ks.take k1) false false = true) ∧ Hid (SameOn All W1 wr) ∧ Below w.heap.size w wr) (fun iv _ => n - (intOf iv).toNat)
        case atStart => exact ⟨0, Nat.zero_le _, rfl, kidsB_nil _ _ _ _, ⟨Nat.le_refl _, fun _ _ _ => rfl⟩, B1.out⟩
        case round =>
          obtain ⟨k1, hk, rfl, hall, hso, hb⟩ := hrel
          have HB : Hid (Below w.heap.size w wr) := hb
          have b1 := bA.out.same_on hso.out
          have hlw := b1.lt
          have xa0 := b1.cell 0 _ rfl
          have xa1 := b1.cell 1 _ rfl
          have xa2 := b1.cell 2 _ rfl
          have xa3 := b1.cell 3 _ rfl
          have xa4 := b1.cell 4 _ rfl
          have xa5 := b1.cell 5 _ rfl
          clear b1
          by_cases hlt : k1 < n
          · obtain ⟨x, hxk⟩ : ∃ x, ks[k1]? = some x := ⟨ks[k1]'(by rw [HN.out]; exact hlt), List.getElem?_eq_getElem _⟩
            obtain ⟨g, off, rfl, -, hgl, hat⟩ := HX.out (by intro h; rw [h] at hxk; simp at hxk)
            obtain ⟨cs, hcsl, hcs, r1⟩ := hat k1 x hxk
            have E1 : ∀ w', SameOn All wr w' → HEx w' All d cs x := fun w' hw => r1.mono (SameOn.trans (SameOn.of_below hb) hw) (fun _ h => h)
            obtain ⟨c0, c1, c2, c3, c4, c5, rfl⟩ := len6 hcsl
            have a0 := hcs 0 (by omega)
            have a1 := hcs 1 (by omega)
            have a2 := hcs 2 (by omega)
            have a3 := hcs 3 (by omega)
            have a4 := hcs 4 (by omega)
            have a5 := hcs 5 (by omega)
            rw [← hb.cell (p := ⟨g, _, none⟩) hgl] at a0 a1 a2 a3 a4 a5
            simp at a0 a1 a2 a3 a4 a5
            have hki : (k1 : Int) < (n : Int) := by omega
            have hk0 : (0 : Int) ≤ (k1 : Int) := by omega
            have hgw : g < wr.heap.size := Nat.lt_of_lt_of_le hgl hb.size
            have qa0 : ∀ m : Wd (fun w' => SameOn All wr w' ∧ Below w.heap.size w w'), m.val.cell? ⟨g, off + k1 * 6, none⟩ = some c0 := fun m => (World.cell?_of_block (m.ok.1.2 g trivial hgw)).trans a0
            have qa1 : ∀ m : Wd (fun w' => SameOn All wr w' ∧ Below w.heap.size w w'), m.val.cell? ⟨g, off + k1 * 6 + 1, none⟩ = some c1 := fun m => (World.cell?_of_block (m.ok.1.2 g trivial hgw)).trans a1
            have qa2 : ∀ m : Wd (fun w' => SameOn All wr w' ∧ Below w.heap.size w w'), m.val.cell? ⟨g, off + k1 * 6 + 2, none⟩ = some c2 := fun m => (World.cell?_of_block (m.ok.1.2 g trivial hgw)).trans a2
            have qa3 : ∀ m : Wd (fun w' => SameOn All wr w' ∧ Below w.heap.size w w'), m.val.cell? ⟨g, off + k1 * 6 + 3, none⟩ = some c3 := fun m => (World.cell?_of_block (m.ok.1.2 g trivial hgw)).trans a3
            have qa4 : ∀ m : Wd (fun w' => SameOn All wr w' ∧ Below w.heap.size w w'), m.val.cell? ⟨g, off + k1 * 6 + 4, none⟩ = some c4 := fun m => (World.cell?_of_block (m.ok.1.2 g trivial hgw)).trans a4
            have qa5 : ∀ m : Wd (fun w' => SameOn All wr w' ∧ Below w.heap.size w w'), m.val.cell? ⟨g, off + k1 * 6 + 5, none⟩ = some c5 := fun m => (World.cell?_of_block (m.ok.1.2 g trivial hgw)).trans a5
            have qx0 : ∀ m : Wd (fun w' => SameOn All wr w' ∧ Below w.heap.size w w'), m.val.cell? ⟨w.heap.size, 0, none⟩ = some (.int .i64 kx) := fun m => (World.cell?_of_block (m.ok.1.2 w.heap.size trivial hlw)).trans xa0
            have qx4 : ∀ m : Wd (fun w' => SameOn All wr w' ∧ Below w.heap.size w w'), m.val.cell? ⟨w.heap.size, 4, none⟩ = some (.slice (some ⟨g, off, none⟩) n cap) := fun m => (World.cell?_of_block (m.ok.1.2 w.heap.size trivial hlw)).trans xa4
            clear hb hcs hat hcsl r1
            generalize hcv : exOk d x false (deep - 1) = cv
            have HCV : Hid (exOk d x false (deep - 1) = cv) := hcv
            have HC2 : Hid (cv = true → kidsB (fun y q => exOk d y q (deep - 1)) (ks.take (k1 + 1)) false false = true) := fun h => kidsB_succ _ ks _ _ k1 x hxk hall.out (by rw [ite_self]; exact hcv.trans h)
            have HC3 : Hid (cv = false → kidsB (fun y q => exOk d y q (deep - 1)) ks false false = false) := fun h => kidsB_at _ ks _ _ k1 x hxk (by rw [ite_self]; exact hcv.trans h)
            clear hcv
            go_wp2
            have hCne : Nonempty (Wd (fun w' => SameOn All wr w' ∧ Below w.heap.size w w')) := ⟨⟨wr.drew, ⟨⟨Nat.le_refl _, fun _ _ _ => rfl⟩, HB.out.drew⟩⟩⟩
            refine wp_region_class (fun w' => SameOn All wr w' ∧ Below w.heap.size w w') (by kernel_rfl) (by kernel_rfl) ⟨⟨Nat.le_refl _, fun _ _ _ => rfl⟩, HB.out.drew⟩ ?_
            repeat (go_big_quiet_step (first | (rename_i m; go_at_call 73; refine (h1 _ _ x false (deep - 1) (E1 _ m.ok.1) (by omega) (by omega)).mono ?_; rintro e w1 ⟨rfl, hb1⟩; exact ⟨by rw [HCV.out], ⟨⟨w1, ⟨(SameOn.trans m.ok.1 (SameOn.of_below hb1)), m.ok.2.trans (hb1.mono m.ok.2.size)⟩⟩, rfl⟩⟩)))
            refine wpQuiet_nil ?_
            rintro _ ⟨mq, rfl⟩
            have HB4 : Hid (Below w.heap.size w mq.val) := mq.ok.2
            have HS4 : Hid (SameOn All W1 mq.val) := hso.out.trans mq.ok.1
            generalize mq.val = w4 at HB4 HS4 ⊢
            clear HCV
            cases cv with
            | true =>
              have HT' : Hid _ := HC2.out rfl
              clear HC2 HC3
              go_wp2_with fail
              exact ⟨⟨k1 + 1, by omega, by go_num, HT'.out, HS4.out, HB4.out⟩, by simp [intOf]; omega⟩
            | false =>
              have HF : Hid _ := HC3.out rfl
              clear HC2 HC3
              go_wp2_with fail
              go_ret
              exact ⟨by rw [HF.out]; simp, HB4.out⟩
          · have HD_ks : Hid (kidsB (fun y q => exOk d y q (deep - 1)) ks false false = true) := by
              have := hall.out
              rwa [List.take_of_length_le (by rw [HN.out]; omega)] at this
            clear hb
            go_wp2_with fail
            clear xa0 xa1 xa2 xa3 xa4 xa5
            go_loopw [8] (fun iv wr => ∃ k2 : Nat, k2 ≤ m ∧ iv = .int .i64 k2 ∧ Hid ((cl.take k2).all (fun y => clB (fun z q => exOk d z q (deep - 1)) y 1) = true) ∧ Hid (SameOn All W1 wr) ∧ Below w.heap.size w wr) (fun iv _ => m - (intOf iv).toNat)
            case atStart => exact ⟨0, Nat.zero_le _, rfl, by show _ = _; simp, hso.out, HB.out⟩
            case round =>
              obtain ⟨k2, hk, rfl, hall, hso, hb⟩ := hrel
              have HB : Hid (Below w.heap.size w wr) := hb
              have b1 := bA.out.same_on hso.out
              have xa0 := b1.cell 0 _ rfl
              have xa1 := b1.cell 1 _ rfl
              have xa2 := b1.cell 2 _ rfl
              have xa3 := b1.cell 3 _ rfl
              have xa4 := b1.cell 4 _ rfl
              have xa5 := b1.cell 5 _ rfl
              clear b1
              by_cases hlt : k2 < m
              · obtain ⟨x, hxk⟩ : ∃ x, cl[k2]? = some x := ⟨cl[k2]'(by rw [HM.out]; exact hlt), List.getElem?_eq_getElem _⟩
                obtain ⟨g, off, rfl, -, hgl, hat⟩ := HY.out (by intro h; rw [h] at hxk; simp at hxk)
                obtain ⟨cs, hcsl, hcs, r1⟩ := hat k2 x hxk
                have E1 : ∀ w', SameOn All wr w' → HCl w' All (HEx w' All d) cs x := fun w' hw => r1.mono (SameOn.trans (SameOn.of_below hb) hw) (fun _ h => h) (fun _ _ h => h.mono (SameOn.trans (SameOn.of_below hb) hw) (fun _ h => h))
                obtain ⟨c0, c1, rfl⟩ := len2 hcsl
                have a0 := hcs 0 (by omega)
                have a1 := hcs 1 (by omega)
                rw [← hb.cell (p := ⟨g, _, none⟩) hgl] at a0 a1
                simp at a0 a1
                have hki : (k2 : Int) < (m : Int) := by omega
                have hk0 : (0 : Int) ≤ (k2 : Int) := by omega
                clear hb hcs hat hcsl r1
                generalize hcv : (fun y => clB (fun z q => exOk d z q (deep - 1)) y 1) x = cv
                have HCV : Hid ((fun y => clB (fun z q => exOk d z q (deep - 1)) y 1) x = cv) := hcv
                have HC2 : Hid (cv = true → (cl.take (k2 + 1)).all (fun y => clB (fun z q => exOk d z q (deep - 1)) y 1) = true) := fun h => allT_succ _ cl k2 x hxk hall.out (hcv.trans h)
                have HC3 : Hid (cv = false → cl.all (fun y => clB (fun z q => exOk d z q (deep - 1)) y 1) = false) := fun h => allT_at _ cl k2 x hxk (hcv.trans h)
                clear hcv
                go_wp2_with fail
                refine (h2 _ _ x 1 (deep - 1) (E1 _ ⟨Nat.le_refl _, fun _ _ _ => rfl⟩) (by omega) (by omega)).mono ?_
                rintro e w4 ⟨rfl, hb4⟩
                have HB4 : Hid (Below w.heap.size w w4) := HB.out.trans (hb4.mono HB.out.size)
                have HS4 : Hid (SameOn All W1 w4) := hso.out.trans (SameOn.of_below hb4)
                rw [show clB (fun z q => exOk d z q (deep - 1)) x 1 = cv from HCV.out]
                clear hb4
                cases cv with
                | true =>
                  have HT := HC2.out rfl
                  clear HC2 HC3 HCV
                  have HT' : Hid _ := HT
                  clear HT
                  go_wp2_with fail
                  exact ⟨⟨k2 + 1, by omega, by go_num, HT'.out, HS4.out, HB4.out⟩, by simp [intOf]; omega⟩
                | false =>
                  have HF : Hid (cl.all (fun y => clB (fun z q => exOk d z q (deep - 1)) y 1) = false) := HC3.out rfl
                  clear HC2 HC3 HCV
                  go_wp2_with fail
                  go_ret
                  exact ⟨by first | (rw [HF.out]; simp) | simp [HF.out], HB4.out⟩
              · have HD_cl : Hid (cl.all (fun y => clB (fun z q => exOk d z q (deep - 1)) y 1) = true) := by
                  have := hall.out
                  rwa [List.take_of_length_le (by rw [HM.out]; omega)] at this
                clear hb
                go_wp2_with fail
                go_ret
                exact ⟨by rw [HD_ks.out, HD_cl.out]; simp, HB.out⟩

theorem right_allS : ∀ d, RgC d
  | 0 => fun w cs x pat deep h _ _ => h.elim
  | d + 1 => rightS_of (right_allS d) (clauseS_of (right_allS d))
theorem clause_allS (d : Nat) : ClC d := clauseS_of (right_allS d)

end Go.Proofs.YtoknolophmhlgaaGreatDoor
/-
  The order of numbers and of texts: what the library's cmp and strings answer.
-/
namespace Go.Proofs.YtoknolophmhlgaaGreatDoor
open Go.ChangeShapes Go.WideShapes Go.ChangeAt Go.RowKit
set_option linter.unusedVariables false

def cmpI (a b : Int) : Int := if a < b then -1 else if b < a then 1 else 0
def cmpS (a b : ByteArray) : Int := Lib.compareBytes a.data.toList b.data.toList
theorem cmpI_lt {a b : Int} (h : a < b) : cmpI a b = -1 := if_pos h
theorem cmpI_gt {a b : Int} (h : b < a) : cmpI a b = 1 := by unfold cmpI; rw [if_neg (by omega), if_pos h]
theorem cmpI_self (a : Int) : cmpI a a = 0 := by unfold cmpI; rw [if_neg (by omega), if_neg (by omega)]

theorem compare_lt : ∀ {a b : List UInt8}, Op.bytesLess a b = true → Lib.compareBytes a b = -1
  | [], [], h => by simp [Op.bytesLess] at h
  | _ :: _, [], h => by simp [Op.bytesLess] at h
  | [], _ :: _, _ => rfl
  | x :: a, y :: b, h => by
    simp only [Op.bytesLess, Bool.or_eq_true, decide_eq_true_eq, Bool.and_eq_true, beq_iff_eq] at h
    unfold Lib.compareBytes
    rcases h with h | ⟨rfl, h⟩
    · rw [if_pos h]
    · rw [if_neg (UInt8.lt_irrefl _), if_neg (UInt8.lt_irrefl _)]; exact compare_lt h
theorem compare_self : ∀ (a : List UInt8), Lib.compareBytes a a = 0
  | [] => rfl
  | x :: a => by unfold Lib.compareBytes; rw [if_neg (UInt8.lt_irrefl _), if_neg (UInt8.lt_irrefl _)]; exact compare_self a
theorem compare_gt : ∀ {a b : List UInt8}, Op.bytesLess a b = false → a ≠ b → Lib.compareBytes a b = 1
  | [], [], _, h => absurd rfl h
  | _ :: _, [], _, _ => rfl
  | [], _ :: _, h, _ => by simp [Op.bytesLess] at h
  | x :: a, y :: b, h, hne => by
    simp only [Op.bytesLess, Bool.or_eq_false_iff, decide_eq_false_iff_not, Bool.and_eq_false_iff, beq_eq_false_iff_ne] at h
    unfold Lib.compareBytes
    rw [if_neg h.1]
    by_cases hxy : x = y
    · subst hxy
      rw [if_neg (UInt8.lt_irrefl _)]
      rcases h.2 with h2 | h2
      · exact absurd rfl h2
      · exact compare_gt h2 (fun e => hne (by rw [e]))
    · have : y < x := by
        rw [UInt8.lt_iff_toNat_lt] at h ⊢
        have : x.toNat ≠ y.toNat := fun e => hxy (UInt8.toNat_inj.1 e)
        omega
      rw [if_pos this]
theorem cmpS_lt {a b : ByteArray} (h : Op.bytesLess a.toList b.toList = true) : cmpS a b = -1 := by
  unfold cmpS; rw [ByteArray.toList_eq, ByteArray.toList_eq] at h; exact compare_lt h
theorem cmpS_gt {a b : ByteArray} (h : Op.bytesLess a.toList b.toList = false) (hne : a ≠ b) : cmpS a b = 1 := by
  unfold cmpS; rw [ByteArray.toList_eq, ByteArray.toList_eq] at h; exact compare_gt h (fun e => hne (bytes_inj e))
theorem cmpS_self (a : ByteArray) : cmpS a a = 0 := compare_self _
theorem bytesLess_self : ∀ (a : List UInt8), Op.bytesLess a a = false
  | [] => rfl
  | x :: a => by simp [Op.bytesLess, bytesLess_self a]

theorem isNaN_any (a : Int) (w : World) : Calls Tryz.prog 110 #[.int .i64 a] w fun e w' => e = .returned (.bool false) ∧ w' = w := by
  go_enter Tryz.func110, Tryz.ntmps110
  go_wp2
  go_ret
  exact ⟨rfl, rfl⟩

theorem cmpInt_any (a b : Int) (w : World) : Calls Tryz.prog 95 #[.int .i64 a, .int .i64 b] w fun e w' => e = .returned (.int .i64 (cmpI a b)) ∧ w' = w := by
  by_cases h1 : a < b
  · have HS : Hid (cmpI a b = -1) := cmpI_lt h1
    go_enter Tryz.func95, Tryz.ntmps95
    go_wp2_with (go_at_call 110; go_must (refine (isNaN_any _ _).mono ?_; rintro e w' ⟨rfl, rfl⟩))
    go_ret
    exact ⟨by rw [HS.out]; rfl, rfl⟩
  by_cases h2 : b < a
  · have HS : Hid (cmpI a b = 1) := cmpI_gt h2
    go_enter Tryz.func95, Tryz.ntmps95
    go_wp2_with (go_at_call 110; go_must (refine (isNaN_any _ _).mono ?_; rintro e w' ⟨rfl, rfl⟩))
    go_ret
    exact ⟨by rw [HS.out]; rfl, rfl⟩
  obtain rfl : a = b := by omega
  have HS : Hid (cmpI a a = 0) := cmpI_self a
  go_enter Tryz.func95, Tryz.ntmps95
  go_wp2_with (go_at_call 110; go_must (refine (isNaN_any _ _).mono ?_; rintro e w' ⟨rfl, rfl⟩))
  go_ret
  exact ⟨by rw [HS.out]; rfl, rfl⟩

set_option maxRecDepth 100000 in
theorem compareString_any (a b : ByteArray) (w : World) :
    Calls Tryz.prog 109 #[.string a, .string b] w fun e w' => e = .returned (.int .i64 (cmpS a b)) ∧ w' = w := by
  go_enter Tryz.func109, Tryz.ntmps109
  go_wp2
  rw [run_callFunc_extern Tryz.func118 (by kernel_rfl) (by kernel_rfl) (by kernel_rfl) (e := Extern.BytealgCompare.compare) (by kernel_rfl), Lib.run_compareString]
  simp only [Result.andThen]
  rw [Oper.upon_value]
  go_wp2
  go_ret
  exact ⟨rfl, rfl⟩

theorem stringsCompare_any (a b : ByteArray) (w : World) :
    Calls Tryz.prog 94 #[.string a, .string b] w fun e w' => e = .returned (.int .i64 (cmpS a b)) ∧ w' = w := by
  go_enter Tryz.func94, Tryz.ntmps94
  go_wp2_with (go_at_call 109; go_must (refine (compareString_any _ _ _).mono ?_; rintro e w' ⟨rfl, rfl⟩))
  go_ret
  exact ⟨rfl, rfl⟩

/-- The first of two that is not 0. -/
def or2 (a b : Int) : Int := if a = 0 then b else a

theorem cmpOr2_any (a b : Int) (g : Nat) (w : World) (h0 : w.cell? ⟨g, 0, none⟩ = some (.int .i64 a)) (h1 : w.cell? ⟨g, 1, none⟩ = some (.int .i64 b)) :
    Calls Tryz.prog 93 #[.slice (some ⟨g, 0, none⟩) 2 2] w fun e w' => e = .returned (.int .i64 (or2 a b)) ∧ w' = w := by
  go_enter Tryz.func93, Tryz.ntmps93
  go_wp2
  go_loopw [8] (fun iv wr => ∃ k : Nat, k ≤ 2 ∧ iv = .int .i64 k ∧ (1 ≤ k → a = 0) ∧ (2 ≤ k → b = 0) ∧ wr = w) (fun iv _ => 2 - (intOf iv).toNat)
  case atStart => exact ⟨0, by omega, rfl, fun h => by omega, fun h => by omega, rfl⟩
  case round =>
    obtain ⟨k, hk, rfl, e0, e1, rfl⟩ := hrel
    match k, hk with
    | 0, _ =>
      by_cases hz : a = 0
      · go_wp2
        exact ⟨⟨1, by omega, by go_num, fun _ => hz, fun h => by omega, (by first | rfl | trivial)⟩, by simp [intOf]⟩
      · have HS : Hid (or2 a b = a) := if_neg hz
        go_wp2
        go_ret
        exact ⟨by rw [HS.out]; rfl, rfl⟩
    | 1, _ =>
      have z0 := e0 (by omega)
      by_cases hz : b = 0
      · go_wp2
        exact ⟨⟨2, by omega, by go_num, fun _ => z0, fun _ => hz, (by first | rfl | trivial)⟩, by simp [intOf]⟩
      · have HS : Hid (or2 a b = b) := by show _ = _; unfold or2; rw [if_pos z0]
        go_wp2
        go_ret
        exact ⟨by rw [HS.out]; rfl, rfl⟩
    | 2, _ =>
      have HS : Hid (or2 a b = 0) := by show _ = _; unfold or2; rw [if_pos (e0 (by omega)), e1 (by omega)]
      go_wp2
      go_ret
      exact ⟨by rw [HS.out]; rfl, rfl⟩
    | k + 3, hk => omega
end Go.Proofs.YtoknolophmhlgaaGreatDoor
