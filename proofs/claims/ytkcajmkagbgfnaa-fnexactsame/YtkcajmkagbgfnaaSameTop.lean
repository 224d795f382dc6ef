/-
  The specification's Same, of two modules.
-/
import Derived.Test.YtkcajmkagbgfnaaSameSpec
import Derived.Test.YtkcajmkagbgfnaaCopy
namespace Go.Proofs.Ytkcajmkagbgfnaa
open Go.ChangeShapes Go.WideShapes Go.ChangeAt Go.RowKit
set_option linter.unusedVariables false

theorem Blk.same_on {w w' : World} {b : Nat} {cs : Array Value} {t : TypeId} (h : Blk w b cs t) (hs : SameOn All w w') : Blk w' b cs t :=
  (hs.2 b trivial (by unfold Blk at h; exact (Array.getElem?_eq_some_iff.1 h).1)).trans h

set_option maxHeartbeats 4000000 in
theorem specSame_of {d : Nat} (h0 : CmpC 34 (fun w v es => Rows w All 2 (HCl w All (HEx w All d)) v es)) :
    CmpC 8 (fun w v m => ∃ cs, v = .agg cs.toArray ∧ HMd w All d cs m) := by
  intro w v1 v2 x y i1 i2
  obtain ⟨cs, rfl, kv, cv, rfl, _, f0, f1⟩ := i1
  obtain ⟨cs, rfl, kv', cv', rfl, _, f0', f1'⟩ := i2
  obtain ⟨nx, es, fx⟩ := x
  obtain ⟨ny, fs, fy⟩ := y
  simp only at *
  obtain ⟨p, cap, rfl, hcl, hcm, hx⟩ := f0
  obtain ⟨q, cap', rfl, hcl', hcm', hy⟩ := f0'
  obtain ⟨p2, cap2, rfl, hcl2, hcm2, hx2⟩ := f1
  obtain ⟨q2, cap2', rfl, hcl2', hcm2', hy2⟩ := f1'
  have HB0 : es.length ≤ 9223372036854775807 := by unfold maxLen at hcm; omega
  have HB1 : fs.length ≤ 9223372036854775807 := by unfold maxLen at hcm'; omega
  have HB2 : fx.length ≤ 9223372036854775807 := by unfold maxLen at hcm2; omega
  have HB3 : fy.length ≤ 9223372036854775807 := by unfold maxLen at hcm2'; omega
  by_cases hn1 : nx = ny
  · subst hn1
    by_cases hl1 : es.length = fs.length
    · by_cases hl2 : fx.length = fy.length
      · generalize hm : fs.length = m at *
        have HM : Hid (fs.length = m) := hm
        generalize hn : es.length = n at *
        have HN : Hid (es.length = n) := hn
        generalize hm2 : fy.length = m2 at *
        have HM2 : Hid (fy.length = m2) := hm2
        generalize hn2 : fx.length = n2 at *
        have HN2 : Hid (fx.length = n2) := hn2
        clear hm hn hm2 hn2
        subst hl1
        subst hl2
        have HX : Hid (es ≠ [] → ∃ g off, p = some ⟨g, off, none⟩ ∧ All g ∧ g < w.heap.size ∧ ∀ i x, es[i]? = some x → ∃ cs, cs.length = 2 ∧ (∀ j, j < 2 → w.cell? ⟨g, off + i * 2 + j, none⟩ = cs[j]?) ∧ HRf cs x) := hx
        have HY : Hid (fs ≠ [] → ∃ g off, q = some ⟨g, off, none⟩ ∧ All g ∧ g < w.heap.size ∧ ∀ i x, fs[i]? = some x → ∃ cs, cs.length = 2 ∧ (∀ j, j < 2 → w.cell? ⟨g, off + i * 2 + j, none⟩ = cs[j]?) ∧ HRf cs x) := hy
        have HX2 : Hid (fx ≠ [] → ∃ g off, p2 = some ⟨g, off, none⟩ ∧ All g ∧ g < w.heap.size ∧ ∀ i x, fx[i]? = some x → ∃ cs, cs.length = 3 ∧ (∀ j, j < 3 → w.cell? ⟨g, off + i * 3 + j, none⟩ = cs[j]?) ∧ HFn w All d cs x) := hx2
        have HY2 : Hid (fy ≠ [] → ∃ g off, q2 = some ⟨g, off, none⟩ ∧ All g ∧ g < w.heap.size ∧ ∀ i x, fy[i]? = some x → ∃ cs, cs.length = 3 ∧ (∀ j, j < 3 → w.cell? ⟨g, off + i * 3 + j, none⟩ = cs[j]?) ∧ HFn w All d cs x) := hy2
        clear hx hy hx2 hy2
        obtain ⟨W2, hW2⟩ : ∃ W2, W2 = (w.alloc (.cells #[.string nx, .slice p n cap, .slice p2 n2 cap2] 31)).alloc (.cells #[.string nx, .slice q n cap', .slice q2 n2 cap2'] 31) := ⟨_, rfl⟩
        have bA : Blk W2 w.heap.size #[.string nx, .slice p n cap, .slice p2 n2 cap2] 31 := by rw [hW2]; exact Blk.new.alloc
        have bB : Blk W2 (w.heap.size + 1) #[.string nx, .slice q n cap', .slice q2 n2 cap2'] 31 := by rw [hW2]; have := Blk.new (w := w.alloc (.cells #[.string nx, .slice p n cap, .slice p2 n2 cap2] 31)) (cs := #[.string nx, .slice q n cap', .slice q2 n2 cap2']) (t := 31); rwa [alloc_hs] at this
        have HAL : Hid (Below w.heap.size w W2) := by rw [hW2]; exact ((Below.refl _ _).alloc (Nat.le_refl _) _).alloc (by simp) _
        have HA : Hid (Blk W2 w.heap.size #[.string nx, .slice p n cap, .slice p2 n2 cap2] 31) := bA
        have HBB : Hid (Blk W2 (w.heap.size + 1) #[.string nx, .slice q n cap', .slice q2 n2 cap2'] 31) := bB
        have HW2 : Hid (W2 = (w.alloc (.cells #[.string nx, .slice p n cap, .slice p2 n2 cap2] 31)).alloc (.cells #[.string nx, .slice q n cap', .slice q2 n2 cap2'] 31)) := hW2
        clear bA bB hW2
        go_enter Try.func8, Try.ntmps8
        go_wp2
        rw [← HW2.out]
        go_loopw [5] (fun iv wr => ∃ k : Nat, k ≤ n ∧ iv = .int .i64 k ∧ Hid (es.take k = fs.take k) ∧ Hid (SameOn All W2 wr) ∧ Below w.heap.size w wr) (fun iv _ => n - (intOf iv).toNat)
        case atStart => exact ⟨0, Nat.zero_le _, rfl, rfl, ⟨Nat.le_refl _, fun _ _ _ => rfl⟩, HAL.out⟩
        case round =>
          obtain ⟨k, hk, rfl, hsame, hso, hb⟩ := hrel
          have HB : Hid (Below w.heap.size w wr) := hb
          have bA := HA.out.same_on hso.out
          have bB := HBB.out.same_on hso.out
          have xa1 := bA.cell 1 _ rfl
          have xb1 := bB.cell 1 _ rfl
          have xa2 := bA.cell 2 _ rfl
          have xb2 := bB.cell 2 _ rfl
          clear bA bB
          by_cases hlt : k < n
          · obtain ⟨x, hxk⟩ : ∃ x, es[k]? = some x := ⟨es[k]'(by rw [HN.out]; exact hlt), List.getElem?_eq_getElem _⟩
            obtain ⟨y, hyk⟩ : ∃ y, fs[k]? = some y := ⟨fs[k]'(by rw [HM.out]; exact hlt), List.getElem?_eq_getElem _⟩
            obtain ⟨g, off, rfl, _, hgl, hat⟩ := HX.out (by intro h; rw [h] at hxk; simp at hxk)
            obtain ⟨g', off', rfl, _, hgl', hat'⟩ := HY.out (by intro h; rw [h] at hyk; simp at hyk)
            obtain ⟨cs, hcl6, hcs, rfl, _⟩ := hat k x hxk
            obtain ⟨cs', hcl6', hcs', rfl, _⟩ := hat' k y hyk
            obtain ⟨nx', ax⟩ := x
            obtain ⟨ny', ay⟩ := y
            have a0 := hcs 0 (by omega)
            have a1 := hcs 1 (by omega)
            have b0 := hcs' 0 (by omega)
            have b1 := hcs' 1 (by omega)
            rw [← hb.cell (p := ⟨g, _, none⟩) hgl] at a0 a1
            rw [← hb.cell (p := ⟨g', _, none⟩) hgl'] at b0 b1
            simp at a0 a1 b0 b1
            clear hb hcs hat hcl6 hcs' hat' hcl6'
            have hki : (k : Int) < (n : Int) := by omega
            have hk0 : (0 : Int) ≤ (k : Int) := by omega
            by_cases hxy : nx' = ny' ∧ ax = ay
            · obtain ⟨rfl, rfl⟩ := hxy
              go_wp2
              go_quiet (fail)
              go_wp2
              exact ⟨⟨k + 1, by omega, by go_num, take_succ_same hsame.out hxk hyk, hso, ⟨HB.out.os, HB.out.tape, HB.out.output, HB.out.size, HB.out.block⟩⟩, by simp [intOf]; omega⟩
            · have HS : Hid (sameB (Md.mk nx es fx) (Md.mk nx fs fy) = false) := sameB_false (fun h => ne_at hxk hyk (fun h => hxy (by simpa using h)) (by injection h))
              by_cases hn1 : nx' = ny'
              · have ha1 : ¬ ax = ay := fun h => hxy ⟨hn1, h⟩
                subst hn1
                go_wp2
                go_quiet (fail)
                go_wp2
                go_ret
                exact ⟨by rw [HS.out]; rfl, ⟨HB.out.os, HB.out.tape, HB.out.output, HB.out.size, HB.out.block⟩⟩
              · have hq1 := str_ne hn1
                have hq2 := str_neB hn1
                go_wp2
                go_quiet (fail)
                go_wp2
                go_ret
                exact ⟨by rw [HS.out]; rfl, ⟨HB.out.os, HB.out.tape, HB.out.output, HB.out.size, HB.out.block⟩⟩
          · have HE : Hid (es = fs) := take_all_same hsame.out (by rw [HN.out]; omega) (by rw [HM.out]; omega)
            clear hsame hb
            have HB' : Hid (Below w.heap.size w wr) := HB
            have HSO : Hid (SameOn All W2 wr) := hso
            clear HB hso
            go_wp2
            go_loopw [6] (fun iv wr => ∃ k : Nat, k ≤ n2 ∧ iv = .int .i64 k ∧ Hid (fx.take k = fy.take k) ∧ Hid (SameOn All W2 wr) ∧ Below w.heap.size w wr) (fun iv _ => n2 - (intOf iv).toNat)
            case atStart => exact ⟨0, Nat.zero_le _, rfl, rfl, HSO, HB'.out⟩
            case round =>
              obtain ⟨k, hk, rfl, hsame, hso, hb⟩ := hrel
              have HB : Hid (Below w.heap.size w wr) := hb
              have bA := HA.out.same_on hso.out
              have bB := HBB.out.same_on hso.out
              have xa2 := bA.cell 2 _ rfl
              have xb2 := bB.cell 2 _ rfl
              have hzA : w.heap.size < wr.heap.size := (Array.getElem?_eq_some_iff.1 bA).1
              have hzB : w.heap.size + 1 < wr.heap.size := (Array.getElem?_eq_some_iff.1 bB).1
              clear bA bB
              by_cases hlt : k < n2
              · obtain ⟨x, hxk⟩ : ∃ x, fx[k]? = some x := ⟨fx[k]'(by rw [HN2.out]; exact hlt), List.getElem?_eq_getElem _⟩
                obtain ⟨y, hyk⟩ : ∃ y, fy[k]? = some y := ⟨fy[k]'(by rw [HM2.out]; exact hlt), List.getElem?_eq_getElem _⟩
                obtain ⟨g, off, rfl, _, hgl, hat⟩ := HX2.out (by intro h; rw [h] at hxk; simp at hxk)
                obtain ⟨g', off', rfl, _, hgl', hat'⟩ := HY2.out (by intro h; rw [h] at hyk; simp at hyk)
                obtain ⟨cs, hcl6, hcs, c2, rfl, _, _, r1⟩ := hat k x hxk
                obtain ⟨cs', hcl6', hcs', d2, rfl, _, _, r2⟩ := hat' k y hyk
                obtain ⟨xn, xa, cx⟩ := x
                obtain ⟨yn, ya, cy⟩ := y
                simp only at r1 r2
                have E1 : ∀ w', SameOn All wr w' → Rows w' All 2 (HCl w' All (HEx w' All d)) c2 cx := fun w' hw => r1.mono (SameOn.trans (SameOn.of_below hb) hw) (fun _ h => h) (fun _ _ _ h => h.mono (SameOn.trans (SameOn.of_below hb) hw) (fun _ h => h) (fun _ _ => HEx.mono (SameOn.trans (SameOn.of_below hb) hw) (fun _ h => h)))
                have E2 : ∀ w', SameOn All wr w' → Rows w' All 2 (HCl w' All (HEx w' All d)) d2 cy := fun w' hw => r2.mono (SameOn.trans (SameOn.of_below hb) hw) (fun _ h => h) (fun _ _ _ h => h.mono (SameOn.trans (SameOn.of_below hb) hw) (fun _ h => h) (fun _ _ => HEx.mono (SameOn.trans (SameOn.of_below hb) hw) (fun _ h => h)))
                have a0 := hcs 0 (by omega)
                have a1 := hcs 1 (by omega)
                have a2 := hcs 2 (by omega)
                have b0 := hcs' 0 (by omega)
                have b1 := hcs' 1 (by omega)
                have b2 := hcs' 2 (by omega)
                rw [← hb.cell (p := ⟨g, _, none⟩) hgl] at a0 a1 a2
                rw [← hb.cell (p := ⟨g', _, none⟩) hgl'] at b0 b1 b2
                simp at a0 a1 a2 b0 b1 b2
                have hgw : g < wr.heap.size := Nat.lt_of_lt_of_le hgl HB.out.size
                have hgw' : g' < wr.heap.size := Nat.lt_of_lt_of_le hgl' HB.out.size
                clear hb hcs hat hcl6 hcs' hat' hcl6' r1 r2
                have hki : (k : Int) < (n2 : Int) := by omega
                have hk0 : (0 : Int) ≤ (k : Int) := by omega
                have qxa2 : ∀ m : Wd (fun w' => SameOn All wr w' ∧ Below w.heap.size w w'), m.val.cell? ⟨w.heap.size, 2, none⟩ = some (.slice (some ⟨g, off, none⟩) n2 cap2) := fun m => (World.cell?_of_block (m.ok.1.2 w.heap.size trivial hzA)).trans xa2
                have qxb2 : ∀ m : Wd (fun w' => SameOn All wr w' ∧ Below w.heap.size w w'), m.val.cell? ⟨w.heap.size + 1, 2, none⟩ = some (.slice (some ⟨g', off', none⟩) n2 cap2') := fun m => (World.cell?_of_block (m.ok.1.2 (w.heap.size + 1) trivial hzB)).trans xb2
                have qa0 : ∀ m : Wd (fun w' => SameOn All wr w' ∧ Below w.heap.size w w'), m.val.cell? ⟨g, off + k * 3, none⟩ = some (.string xn) := fun m => (World.cell?_of_block (m.ok.1.2 g trivial hgw)).trans a0
                have qa1 : ∀ m : Wd (fun w' => SameOn All wr w' ∧ Below w.heap.size w w'), m.val.cell? ⟨g, off + k * 3 + 1, none⟩ = some (.int .i64 xa) := fun m => (World.cell?_of_block (m.ok.1.2 g trivial hgw)).trans a1
                have qa2 : ∀ m : Wd (fun w' => SameOn All wr w' ∧ Below w.heap.size w w'), m.val.cell? ⟨g, off + k * 3 + 2, none⟩ = some c2 := fun m => (World.cell?_of_block (m.ok.1.2 g trivial hgw)).trans a2
                have qb0 : ∀ m : Wd (fun w' => SameOn All wr w' ∧ Below w.heap.size w w'), m.val.cell? ⟨g', off' + k * 3, none⟩ = some (.string yn) := fun m => (World.cell?_of_block (m.ok.1.2 g' trivial hgw')).trans b0
                have qb1 : ∀ m : Wd (fun w' => SameOn All wr w' ∧ Below w.heap.size w w'), m.val.cell? ⟨g', off' + k * 3 + 1, none⟩ = some (.int .i64 ya) := fun m => (World.cell?_of_block (m.ok.1.2 g' trivial hgw')).trans b1
                have qb2 : ∀ m : Wd (fun w' => SameOn All wr w' ∧ Below w.heap.size w w'), m.val.cell? ⟨g', off' + k * 3 + 2, none⟩ = some d2 := fun m => (World.cell?_of_block (m.ok.1.2 g' trivial hgw')).trans b2
                by_cases hn1 : xn = yn
                · subst hn1
                  by_cases ha1 : xa = ya
                  · subst ha1
                    by_cases hc : cx = cy
                    · have hs : sameB cx cy = true := sameB_true hc
                      go_wp2
                      have hCne : Nonempty (Wd (fun w' => SameOn All wr w' ∧ Below w.heap.size w w')) := ⟨⟨wr.drew, ⟨⟨Nat.le_refl _, fun _ _ _ => rfl⟩, HB.out.drew⟩⟩⟩
                      refine wp_region_class (fun w' => SameOn All wr w' ∧ Below w.heap.size w w') (by kernel_rfl) (by kernel_rfl) ⟨⟨Nat.le_refl _, fun _ _ _ => rfl⟩, HB.out.drew⟩ ?_
                      repeat (go_big_quiet_step (first | (rename_i m; go_at_call 34; refine (h0 _ _ _ cx cy (E1 _ m.ok.1) (E2 _ m.ok.1)).mono ?_; rintro e w1 ⟨rfl, hb1⟩; exact ⟨by rw [hs], ⟨⟨w1, ⟨(SameOn.trans m.ok.1 (SameOn.of_below hb1)), m.ok.2.trans (hb1.mono m.ok.2.size)⟩⟩, rfl⟩⟩)))
                      refine wpQuiet_nil ?_
                      rintro _ ⟨mq, rfl⟩
                      have hbe := mq.ok.2
                      have hse := mq.ok.1
                      generalize mq.val = wq at hbe hse ⊢
                      go_wp2
                      exact ⟨⟨k + 1, by omega, by go_num, take_succ_same hsame.out hxk (hc ▸ hyk), hso.out.trans hse, hbe⟩, by simp [intOf]; omega⟩
                    · have hs : sameB cx cy = false := sameB_false hc
                      have HS : Hid (sameB (Md.mk nx es fx) (Md.mk nx fs fy) = false) := sameB_false (fun h => ne_at hxk hyk (fun h => hc (by injection h)) (by injection h))
                      go_wp2
                      have hCne : Nonempty (Wd (fun w' => SameOn All wr w' ∧ Below w.heap.size w w')) := ⟨⟨wr.drew, ⟨⟨Nat.le_refl _, fun _ _ _ => rfl⟩, HB.out.drew⟩⟩⟩
                      refine wp_region_class (fun w' => SameOn All wr w' ∧ Below w.heap.size w w') (by kernel_rfl) (by kernel_rfl) ⟨⟨Nat.le_refl _, fun _ _ _ => rfl⟩, HB.out.drew⟩ ?_
                      repeat (go_big_quiet_step (first | (rename_i m; go_at_call 34; refine (h0 _ _ _ cx cy (E1 _ m.ok.1) (E2 _ m.ok.1)).mono ?_; rintro e w1 ⟨rfl, hb1⟩; exact ⟨by rw [hs], ⟨⟨w1, ⟨(SameOn.trans m.ok.1 (SameOn.of_below hb1)), m.ok.2.trans (hb1.mono m.ok.2.size)⟩⟩, rfl⟩⟩)))
                      refine wpQuiet_nil ?_
                      rintro _ ⟨mq, rfl⟩
                      have hbe := mq.ok.2
                      have hse := mq.ok.1
                      generalize mq.val = wq at hbe hse ⊢
                      go_wp2
                      go_ret
                      exact ⟨by rw [HS.out]; rfl, hbe⟩
                  · have hs := True.intro
                    have hd1 : decide (xa = ya) = false := by simpa using ha1
                    have hd2 : (xa == ya) = false := by simpa using ha1
                    have hd3 : (xa != ya) = true := by simpa using ha1
                    have hd4 : ¬ ya = xa := fun h => ha1 h.symm
                    have hd5 : (!decide (xa = ya)) = true := by simpa using ha1
                    have HS : Hid (sameB (Md.mk nx es fx) (Md.mk nx fs fy) = false) := sameB_false (fun h => ne_at hxk hyk (fun h => ha1 (by injection h)) (by injection h))
                    go_wp2
                    have hCne : Nonempty (Wd (fun w' => SameOn All wr w' ∧ Below w.heap.size w w')) := ⟨⟨wr.drew, ⟨⟨Nat.le_refl _, fun _ _ _ => rfl⟩, HB.out.drew⟩⟩⟩
                    refine wp_region_class (fun w' => SameOn All wr w' ∧ Below w.heap.size w w') (by kernel_rfl) (by kernel_rfl) ⟨⟨Nat.le_refl _, fun _ _ _ => rfl⟩, HB.out.drew⟩ ?_
                    repeat (go_big_quiet_step (first | (rename_i m; go_at_call 34; refine (h0 _ _ _ cx cy (E1 _ m.ok.1) (E2 _ m.ok.1)).mono ?_; rintro e w1 ⟨rfl, hb1⟩; exact ⟨by rw [hs], ⟨⟨w1, ⟨(SameOn.trans m.ok.1 (SameOn.of_below hb1)), m.ok.2.trans (hb1.mono m.ok.2.size)⟩⟩, rfl⟩⟩)))
                    refine wpQuiet_nil ?_
                    rintro _ ⟨mq, rfl⟩
                    have hbe := mq.ok.2
                    have hse := mq.ok.1
                    generalize mq.val = wq at hbe hse ⊢
                    go_wp2
                    go_ret
                    exact ⟨by rw [HS.out]; rfl, hbe⟩
                · have hs := True.intro
                  have hq1 := str_ne hn1
                  have hq2 := str_neB hn1
                  have HS : Hid (sameB (Md.mk nx es fx) (Md.mk nx fs fy) = false) := sameB_false (fun h => ne_at hxk hyk (fun h => hn1 (by injection h)) (by injection h))
                  go_wp2
                  have hCne : Nonempty (Wd (fun w' => SameOn All wr w' ∧ Below w.heap.size w w')) := ⟨⟨wr.drew, ⟨⟨Nat.le_refl _, fun _ _ _ => rfl⟩, HB.out.drew⟩⟩⟩
                  refine wp_region_class (fun w' => SameOn All wr w' ∧ Below w.heap.size w w') (by kernel_rfl) (by kernel_rfl) ⟨⟨Nat.le_refl _, fun _ _ _ => rfl⟩, HB.out.drew⟩ ?_
                  repeat (go_big_quiet_step (first | (rename_i m; go_at_call 34; refine (h0 _ _ _ cx cy (E1 _ m.ok.1) (E2 _ m.ok.1)).mono ?_; rintro e w1 ⟨rfl, hb1⟩; exact ⟨by rw [hs], ⟨⟨w1, ⟨(SameOn.trans m.ok.1 (SameOn.of_below hb1)), m.ok.2.trans (hb1.mono m.ok.2.size)⟩⟩, rfl⟩⟩)))
                  refine wpQuiet_nil ?_
                  rintro _ ⟨mq, rfl⟩
                  have hbe := mq.ok.2
                  have hse := mq.ok.1
                  generalize mq.val = wq at hbe hse ⊢
                  go_wp2
                  go_ret
                  exact ⟨by rw [HS.out]; rfl, hbe⟩
              · have HS : Hid (sameB (Md.mk nx es fx) (Md.mk nx fs fy) = true) := sameB_true (by rw [HE.out, take_all_same hsame.out (by rw [HN2.out]; omega) (by rw [HM2.out]; omega)])
                clear hb
                go_wp2
                go_ret
                exact ⟨by rw [HS.out]; rfl, HB.out⟩
      · have HS : Hid (sameB (Md.mk nx es fx) (Md.mk nx fs fy) = false) := sameB_false (fun h => hl2 (by injection h with _ _ h; rw [h]))
        generalize fs.length = m at *
        generalize es.length = n at *
        generalize fy.length = m2 at *
        generalize fx.length = n2 at *
        clear hx hy hx2 hy2
        subst hl1
        go_enter Try.func8, Try.ntmps8
        go_wp2
        go_ret
        exact ⟨by rw [HS.out]; rfl, ((Below.refl _ _).alloc (Nat.le_refl _) _).alloc (by simp) _⟩
    · have HS : Hid (sameB (Md.mk nx es fx) (Md.mk nx fs fy) = false) := sameB_false (fun h => hl1 (by injection h with _ h _; rw [h]))
      generalize fs.length = m at *
      generalize es.length = n at *
      generalize fy.length = m2 at *
      generalize fx.length = n2 at *
      clear hx hy hx2 hy2
      go_enter Try.func8, Try.ntmps8
      go_wp2
      go_ret
      exact ⟨by rw [HS.out]; rfl, ((Below.refl _ _).alloc (Nat.le_refl _) _).alloc (by simp) _⟩
  · have hq1 := str_ne hn1
    have hq2 := str_neB hn1
    have HS : Hid (sameB (Md.mk nx es fx) (Md.mk ny fs fy) = false) := sameB_false (fun h => hn1 (by injection h))
    generalize fs.length = m at *
    generalize es.length = n at *
    generalize fy.length = m2 at *
    generalize fx.length = n2 at *
    clear hx hy hx2 hy2
    go_enter Try.func8, Try.ntmps8
    go_wp2
    go_ret
    exact ⟨by rw [HS.out]; rfl, ((Below.refl _ _).alloc (Nat.le_refl _) _).alloc (by simp) _⟩

theorem l02SameExp_all : ∀ d, CmpC 94 (fun w v e => ∃ cs, v = .agg cs.toArray ∧ HEx w All d cs e)
  | 0 => fun w v v' x y ⟨_, _, h⟩ _ => h.elim
  | d + 1 => l02SameExp_of (l02SameExps_of (l02SameExp_all d)) (l02SameClauses_of (l02SameExps_of (l02SameExp_all d)) (l02SameExps_of (l02SameExp_all d)))

/-- THE SPECIFICATION's Same. -/
theorem specSame_all (d : Nat) : CmpC 8 (fun w v m => ∃ cs, v = .agg cs.toArray ∧ HMd w All d cs m) :=
  specSame_of (l02SameClauses_of (l02SameExps_of (l02SameExp_all d)) (l02SameExps_of (l02SameExp_all d)))
end Go.Proofs.Ytkcajmkagbgfnaa
