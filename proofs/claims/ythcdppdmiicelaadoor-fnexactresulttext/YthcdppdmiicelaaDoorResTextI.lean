/-
  The program's ResultText, by contract.
-/
import Derived.Test.YthcdppdmiicelaaDoorResText
namespace Go.Proofs.YthcdppdmiicelaaDoor
open Go.ChangeShapes Go.WideShapes Go.ChangeAt Go.RowKit
set_option linter.unusedVariables false

set_option maxHeartbeats 8000000 in
set_option maxRecDepth 100000 in
/-- THE PROGRAM's ResultText. -/
theorem implResText_any (d : Nat) (w : World) (cs : List Value) (x : Re) (hp : PowAt w) (h : HRe w All d cs x) (hwt : wtRe d x ≤ 1048576) :
    Calls Tryd.prog 16 #[.agg cs.toArray] w fun e w' => e = .returned (.string ⟨(reTxt d x).toArray⟩) ∧ Below w.heap.size w w' := by
  obtain ⟨sk, sn, st, p1, n1, q1, ov, rfl, a1, a2, f0, f1⟩ := h
  obtain ⟨cx, yx, vx, es⟩ := x
  simp only at *
  have hI := rows_ints f1
  have hIv := f0.ints
  obtain ⟨po, ca, rfl, hcl, hcm, hx⟩ := f1
  have hnb : es.length ≤ 9223372036854775807 := by unfold maxLen at hcm; omega
  have hwt2 : yx.size + wtVa d vx + wtS (wtVa d) es ≤ 1048576 := by unfold wtRe at hwt; simp only at hwt; omega
  have hys : yx.size ≤ 1048576 := by omega
  have hvs : wtVa d vx ≤ 1048576 := by omega
  have HD : Hid ((headT d ⟨cx, yx, vx, es⟩).length ≤ 30 + 25 * wtVa d vx + yx.size) := headT_len d ⟨cx, yx, vx, es⟩ hIv
  have BX : Hid (∀ k x, es[k]? = some x → (headT d ⟨cx, yx, vx, es⟩ ++ outT d (es.take k)).length + 2 + (22 + 25 * wtVa d x) ≤ 60000000) := fun k x hk => by
    have h1 := outT_take d es hI k
    have h2 := HD.out
    have h3 := wtS_at (wtVa d) es k x hk
    rw [List.length_append]
    omega
  generalize hn : es.length = n at *
  have HN : Hid (es.length = n) := hn
  obtain ⟨B, hB⟩ : ∃ B, B = w.heap.size + 1 := ⟨_, rfl⟩
  obtain ⟨W1, hW1⟩ : ∃ W1, W1 = (w.alloc (.cells #[.int .i64 cx, .string yx, .int .i64 sk, .int .i64 sn, .string st, .slice p1 n1 q1, .slice po n ca] 39)) := ⟨_, rfl⟩
  have hal : Below w.heap.size w W1 := by rw [hW1]; exact (Below.refl _ _).alloc (Nat.le_refl _) _
  have hs1 : W1.heap.size = B := by rw [hW1, hB, alloc_hs]
  have HA : Hid (Below w.heap.size w W1) := hal
  have HK0 : Hid (Blk W1 w.heap.size #[.int .i64 cx, .string yx, .int .i64 sk, .int .i64 sn, .string st, .slice p1 n1 q1, .slice po n ca] 39) := by show Blk _ _ _ _; rw [hW1]; exact Blk.new
  have HG0 : Hid (Gd W1 B) := ⟨powAt_below hp hal, by have := hp.lt; omega⟩
  have LOW : ∀ (cs : List Value) (y : Va), HVa w All d cs y → ∀ w', Below B W1 w' → HVa w' (fun g => g < B) d cs y := fun cs y f w' hw =>
    ((f.lowT).mono (S' := fun g => g < B) (SameOn.of_below hal) (fun g hg => by have := hg.2; omega)).mono (SameOn.of_low hw) (fun g hg => hg)
  have E0 : Hid (∀ w', Below B W1 w' → HVa w' (fun g => g < B) d [.int .i64 sk, .int .i64 sn, .string st, .slice p1 n1 q1] vx) := LOW _ _ f0
  have HX : Hid (es ≠ [] → ∃ g off, po = some ⟨g, off, none⟩ ∧ g < B ∧ g < W1.heap.size ∧ ∀ i x, es[i]? = some x → ∃ cs, cs.length = 4 ∧ (∀ j, j < 4 → W1.cell? ⟨g, off + i * 4 + j, none⟩ = cs[j]?) ∧ ∀ w', Below B W1 w' → HVa w' (fun g => g < B) d cs x) := fun hne => by
    obtain ⟨g, off, hp, _, hgl, hat⟩ := hx hne
    refine ⟨g, off, hp, by omega, by omega, fun i x hi => ?_⟩
    obtain ⟨cs, hcl, hcs, hv⟩ := hat i x hi
    exact ⟨cs, hcl, fun j hj => by rw [hal.cell (p := ⟨g, _, none⟩) hgl]; exact hcs j hj, LOW _ _ hv⟩
  have HB0 : Hid (w.heap.size < B) := by show _ < _; omega
  have HS1 : Hid (W1.heap.size = B) := hs1
  have HW1 : Hid (W1 = (w.alloc (.cells #[.int .i64 cx, .string yx, .int .i64 sk, .int .i64 sn, .string st, .slice p1 n1 q1, .slice po n ca] 39))) := hW1
  have HBW : Hid (B = w.heap.size + 1) := hB
  obtain ⟨i, hi, hz0, hz1, hz2⟩ := info_parts info_u8
  obtain ⟨i0, i1⟩ := okI_bd a1
  have hlv := vaTxt_len d vx hIv
  clear hx hn hI hwt f0 hIv a1 a2 LOW hp hal
  by_cases hc : 0 ≤ cx ∧ cx ≤ 3
  case neg =>
    have HS : Hid (reTxt d ⟨cx, yx, vx, es⟩ = []) := if_neg hc
    have hc0 : ¬ cx = 0 := by omega
    have hc1 : ¬ cx = 1 := by omega
    have hc2 : ¬ cx = 2 := by omega
    have hc3 : ¬ cx = 3 := by omega
    clear hc hs1 hW1 hB
    go_enter Tryd.func16, Tryd.ntmps16
    go_wp2
    go_ret
    exact ⟨by rw [HS.out]; rfl, (Below.refl _ _).alloc (Nat.le_refl _) _⟩
  have HS : Hid (reTxt d ⟨cx, yx, vx, es⟩ = headT d ⟨cx, yx, vx, es⟩ ++ outT d es) := if_pos hc
  rcases (show cx = 0 ∨ cx = 1 ∨ cx = 2 ∨ cx = 3 by omega) with rfl | rfl | rfl | rfl

  · have kc := Lib.run_convert_bytes_const (P := Tryd.prog) W1 49 5 #[.int .u8 111, .int .u8 107, .int .u8 32] 3 3 Tryd.underlying49 Tryd.underlying5
    rw [hs1, hB, hW1] at kc
    obtain ⟨W2, hW2⟩ : ∃ W2, W2 = W1.alloc (.cells #[.int .u8 111, .int .u8 107, .int .u8 32] 5 (3, 4)) := ⟨_, rfl⟩
    have hal2 : Below W1.heap.size W1 W2 := by rw [hW2]; exact (Below.refl _ _).alloc (Nat.le_refl _) _
    have HO2 : Hid (OwnB W2 B (.slice (some ⟨w.heap.size + 1, 0, none⟩) 3 3) [111, 107, 32]) := by
      have := OwnB.const (w := W1) (B := B) (l := [111, 107, 32]) (by rw [hs1]; exact Nat.le_refl _) (by decide)
      rw [hs1, hB] at this
      show OwnB _ _ _ _
      rw [hW2, hB]
      exact this
    have HK2 : Hid (Blk W2 w.heap.size #[.int .i64 0, .string yx, .int .i64 sk, .int .i64 sn, .string st, .slice p1 n1 q1, .slice po n ca] 39) := HK0.out.next hal2
    have HB2 : Hid (Below B W1 W2) := by show Below _ _ _; rw [← hs1]; exact hal2
    have hW2' := hW2
    rw [hW1] at hW2'
    have HW2 : Hid (W2 = (w.alloc (.cells #[.int .i64 0, .string yx, .int .i64 sk, .int .i64 sn, .string st, .slice p1 n1 q1, .slice po n ca] 39)).alloc (.cells #[.int .u8 111, .int .u8 107, .int .u8 32] 5 (3, 4))) := hW2'
    have y0 := HK2.out.cell 0 _ rfl
    have y1 := HK2.out.cell 1 _ rfl
    have y2 := HK2.out.cell 2 _ rfl
    have y3 := HK2.out.cell 3 _ rfl
    have y4 := HK2.out.cell 4 _ rfl
    have y5 := HK2.out.cell 5 _ rfl
    have y6 := HK2.out.cell 6 _ rfl
    rw [hW2'] at y0 y1 y2 y3 y4 y5 y6
    clear hs1 hB hW1 hW2 hal2 hW2'
    go_enter Tryd.func16, Tryd.ntmps16
    go_wp2_with fail
    rw [← HW2.out]
    clear kc y0 y1 y2 y3 y4 y5 y6
    refine (appendVal_all d _ _ vx B _ [111, 107, 32] (E0.out _ HB2.out) (by simp only [List.length_cons, List.length_nil]; omega) (HG0.out.low' HB2.out) HO2.out).mono ?_
    rintro e w3 ⟨tv3, rfl, ho3, hb3⟩
    have HO3 : Hid (OwnB w3 B tv3 (headT d ⟨0, yx, vx, es⟩)) := by show OwnB _ _ _ _; simpa [headT] using ho3
    have HB3 : Hid (Below B W1 w3) := HB2.out.trans hb3
    have HK3 : Hid (Blk w3 w.heap.size #[.int .i64 0, .string yx, .int .i64 sk, .int .i64 sn, .string st, .slice p1 n1 q1, .slice po n ca] 39) := HK2.out.below hb3 HB0.out
    have y6 := HK3.out.cell 6 _ rfl
    clear ho3 hb3
    go_wp2_with fail
    clear y6
    go_loopw [3, 33] (fun tv iv wr => ∃ (k : Nat), k ≤ n ∧ iv = .int .i64 k ∧ Hid (OwnB wr B tv (headT d ⟨0, yx, vx, es⟩ ++ outT d (es.take k))) ∧ Hid (Blk wr w.heap.size #[.int .i64 0, .string yx, .int .i64 sk, .int .i64 sn, .string st, .slice p1 n1 q1, .slice po n ca] 39) ∧ Hid (Below B W1 wr)) (fun _ iv _ => n - (intOf iv).toNat)
    case atStart => exact ⟨0, Nat.zero_le _, rfl, by show OwnB _ _ _ _; simpa [outT] using HO3.out, HK3, HB3⟩
    case round =>
      obtain ⟨k, hk, rfl, ho, hka, hb⟩ := hrel
      by_cases hlt : k < n
      · obtain ⟨x, hxk⟩ : ∃ x, es[k]? = some x := ⟨es[k]'(by rw [HN.out]; exact hlt), List.getElem?_eq_getElem _⟩
        obtain ⟨g, off, rfl, hgB, hgl, hat⟩ := HX.out (by intro h; rw [h] at hxk; simp at hxk)
        obtain ⟨cs, hcs4, hcs, E1⟩ := hat k x hxk
        obtain ⟨tk, tn, tt, p2, n2, q2, rfl⟩ := (E1 W1 (Below.refl _ _)).shape
        have a0 := hcs 0 (by omega)
        have a1 := hcs 1 (by omega)
        have a2 := hcs 2 (by omega)
        have a3 := hcs 3 (by omega)
        rw [← hb.out.cell (p := ⟨g, _, none⟩) hgB] at a0 a1 a2 a3
        simp at a0 a1 a2 a3
        have hki : (k : Int) < (n : Int) := by omega
        have hk0 : (0 : Int) ≤ (k : Int) := by omega
        have HE1 : Hid (∀ w', Below B W1 w' → HVa w' (fun g => g < B) d [.int .i64 tk, .int .i64 tn, .string tt, .slice p2 n2 q2] x) := E1
        have HBr : Hid (B ≤ wr.heap.size) := ho.out.2
        have HBA : Hid (Below B W1 (wr.alloc (.cells #[.int .i64 tk, .int .i64 tn, .string tt, .slice p2 n2 q2] 29))) := hb.out.alloc HBr.out _
        have HKA : Hid (Blk (wr.alloc (.cells #[.int .i64 tk, .int .i64 tn, .string tt, .slice p2 n2 q2] 29)) w.heap.size #[.int .i64 0, .string yx, .int .i64 sk, .int .i64 sn, .string st, .slice p1 n1 q1, .slice (some ⟨g, off, none⟩) n ca] 39) := hka.out.alloc
        have HOA : Hid (OwnB (wr.alloc (.cells #[.int .i64 tk, .int .i64 tn, .string tt, .slice p2 n2 q2] 29)) B u3 (headT d ⟨0, yx, vx, es⟩ ++ outT d (es.take k))) := ho.out.next ((Below.refl _ _).alloc (Nat.le_refl _) _)
        have HNE : Hid (u3.ownBlock ≠ some wr.heap.size) := fun e => by have := (ho.out.off e).2; omega
        have HJ : Hid (outT d (es.take (k + 1)) = outT d (es.take k) ++ ([32, 62] ++ vaTxt d x)) := outT_succ d es k x hxk
        have hbx := BX.out k x hxk
        obtain ⟨J, hJ⟩ : ∃ J, J = headT d ⟨0, yx, vx, es⟩ ++ outT d (es.take k) := ⟨_, rfl⟩
        have HJ0 : Hid (J = headT d ⟨0, yx, vx, es⟩ ++ outT d (es.take k)) := hJ
        rw [← hJ] at HOA hbx
        clear hJ hcs hat hcs4 E1 ho hb hka
        go_wp2_with (first | (at_builtin; refine wpList_append_stringM _ rfl _ _ 49 9 rfl B 5 i Tryd.underlying49 Tryd.underlying9 hi hz0 hz1 hz2 u3 _ _ rfl HOA.out.1 ⟨#[32, 62]⟩ rfl (by unfold maxLen; simp [ByteArray.size]; omega) (by simp [ByteArray.size]; omega) HOA.out.2 ?_))
        intro tv2 w2 hown2 hgr2 _
        have HO2 : Hid (OwnB w2 B tv2 (J ++ [32, 62])) := OwnB.of hown2 (by simp only [List.length_append]; rfl) rfl (Nat.le_trans HOA.out.2 hgr2.size)
        have hbk := HOA.out.blk hgr2 (Blk.new (w := wr) (cs := #[.int .i64 tk, .int .i64 tn, .string tt, .slice p2 n2 q2]) (t := 29)) HNE.out
        have HB2 : Hid (Below B W1 w2) := HBA.out.trans (HOA.out.below hgr2)
        have HK2 : Hid (Blk w2 w.heap.size #[.int .i64 0, .string yx, .int .i64 sk, .int .i64 sn, .string st, .slice p1 n1 q1, .slice (some ⟨g, off, none⟩) n ca] 39) := HKA.out.below (HOA.out.below hgr2) HB0.out
        have c0 := hbk.cell 0 _ rfl
        have c1 := hbk.cell 1 _ rfl
        have c2 := hbk.cell 2 _ rfl
        have c3 := hbk.cell 3 _ rfl
        clear hown2 hgr2 hbk
        go_wp2_with fail
        refine (appendVal_all d _ _ x B tv2 _ (HE1.out _ HB2.out) (by simp only [List.length_append, List.length_cons, List.length_nil]; omega) (HG0.out.low' HB2.out) HO2.out).mono ?_
        rintro e w4 ⟨tv', rfl, ho4, hb4⟩
        have HO4 : Hid (OwnB w4 B tv' (J ++ [32, 62] ++ vaTxt d x)) := ho4
        have HB4 : Hid (Below B W1 w4) := HB2.out.trans hb4
        have HK4 : Hid (Blk w4 w.heap.size #[.int .i64 0, .string yx, .int .i64 sk, .int .i64 sn, .string st, .slice p1 n1 q1, .slice (some ⟨g, off, none⟩) n ca] 39) := HK2.out.below hb4 HB0.out
        clear hb4 ho4
        go_wp2_with fail
        exact ⟨⟨k + 1, by omega, by go_num, by show OwnB _ _ _ _; rw [HJ.out]; have := HO4.out; rw [HJ0.out] at this; simpa [List.append_assoc] using this, HK4, HB4⟩, by simp [intOf]; omega⟩
      · have HE : Hid (OwnB wr B u3 (headT d ⟨0, yx, vx, es⟩ ++ outT d es)) := by
          have := ho.out
          rwa [List.take_of_length_le (by rw [HN.out]; omega)] at this
        have hc := bytes_back HE.out
        clear ho
        go_wp2_with fail
        go_ret
        exact ⟨by rw [HS.out]; rfl, HA.out.trans (hb.out.mono (by rw [HBW.out]; omega))⟩
  · have kc := Lib.run_convert_bytes_const (P := Tryd.prog) W1 49 5 #[.int .u8 102, .int .u8 97, .int .u8 105, .int .u8 108, .int .u8 32] 5 5 Tryd.underlying49 Tryd.underlying5
    rw [hs1, hB, hW1] at kc
    obtain ⟨W2, hW2⟩ : ∃ W2, W2 = W1.alloc (.cells #[.int .u8 102, .int .u8 97, .int .u8 105, .int .u8 108, .int .u8 32] 5 (5, 6)) := ⟨_, rfl⟩
    have hal2 : Below W1.heap.size W1 W2 := by rw [hW2]; exact (Below.refl _ _).alloc (Nat.le_refl _) _
    have HO2 : Hid (OwnB W2 B (.slice (some ⟨w.heap.size + 1, 0, none⟩) 5 5) [102, 97, 105, 108, 32]) := by
      have := OwnB.const (w := W1) (B := B) (l := [102, 97, 105, 108, 32]) (by rw [hs1]; exact Nat.le_refl _) (by decide)
      rw [hs1, hB] at this
      show OwnB _ _ _ _
      rw [hW2, hB]
      exact this
    have HK2 : Hid (Blk W2 w.heap.size #[.int .i64 1, .string yx, .int .i64 sk, .int .i64 sn, .string st, .slice p1 n1 q1, .slice po n ca] 39) := HK0.out.next hal2
    have HB2 : Hid (Below B W1 W2) := by show Below _ _ _; rw [← hs1]; exact hal2
    have hW2' := hW2
    rw [hW1] at hW2'
    have HW2 : Hid (W2 = (w.alloc (.cells #[.int .i64 1, .string yx, .int .i64 sk, .int .i64 sn, .string st, .slice p1 n1 q1, .slice po n ca] 39)).alloc (.cells #[.int .u8 102, .int .u8 97, .int .u8 105, .int .u8 108, .int .u8 32] 5 (5, 6))) := hW2'
    have y0 := HK2.out.cell 0 _ rfl
    have y1 := HK2.out.cell 1 _ rfl
    have y2 := HK2.out.cell 2 _ rfl
    have y3 := HK2.out.cell 3 _ rfl
    have y4 := HK2.out.cell 4 _ rfl
    have y5 := HK2.out.cell 5 _ rfl
    have y6 := HK2.out.cell 6 _ rfl
    rw [hW2'] at y0 y1 y2 y3 y4 y5 y6
    clear hs1 hB hW1 hW2 hal2 hW2'
    have HO2x : Hid (OwnB ((w.alloc (.cells #[.int .i64 1, .string yx, .int .i64 sk, .int .i64 sn, .string st, .slice p1 n1 q1, .slice po n ca] 39)).alloc (.cells #[.int .u8 102, .int .u8 97, .int .u8 105, .int .u8 108, .int .u8 32] 5 (5, 6))) B (.slice (some ⟨w.heap.size + 1, 0, none⟩) 5 5) [102, 97, 105, 108, 32]) := by
      have := HO2.out
      rw [HW2.out] at this
      exact this
    go_enter Tryd.func16, Tryd.ntmps16
    go_wp2_with (first | (at_builtin; refine wpList_append_stringM _ rfl _ _ 49 9 rfl B 5 i Tryd.underlying49 Tryd.underlying9 hi hz0 hz1 hz2 (.slice (some ⟨w.heap.size + 1, 0, none⟩) 5 5) _ _ rfl HO2x.out.1 yx rfl (by unfold maxLen; simp only [List.length_cons, List.length_nil]; omega) (by simp only [List.length_cons, List.length_nil]; omega) HO2x.out.2 ?_; rw [← HW2.out]; intro tv3 w3 hown3 hgr3 _; have HO3 : Hid (OwnB w3 B tv3 (headT d ⟨1, yx, vx, es⟩)) := (by show OwnB _ _ _ _; have := OwnB.of (l := [102, 97, 105, 108, 32]) (m := yx.data.toList) hown3 (by simp only [List.length_append, bsize]) rfl (Nat.le_trans HO2.out.2 hgr3.size); simpa [headT] using this); have HB3 : Hid (Below B W1 w3) := HB2.out.trans (HO2.out.below hgr3); have HK3 : Hid (Blk w3 w.heap.size #[.int .i64 1, .string yx, .int .i64 sk, .int .i64 sn, .string st, .slice p1 n1 q1, .slice po n ca] 39) := HK2.out.below (HO2.out.below hgr3) HB0.out; have x6 := HK3.out.cell 6 _ rfl; clear hown3 hgr3))
    clear x6 kc y0 y1 y2 y3 y4 y5 y6
    go_loopw [3, 33] (fun tv iv wr => ∃ (k : Nat), k ≤ n ∧ iv = .int .i64 k ∧ Hid (OwnB wr B tv (headT d ⟨1, yx, vx, es⟩ ++ outT d (es.take k))) ∧ Hid (Blk wr w.heap.size #[.int .i64 1, .string yx, .int .i64 sk, .int .i64 sn, .string st, .slice p1 n1 q1, .slice po n ca] 39) ∧ Hid (Below B W1 wr)) (fun _ iv _ => n - (intOf iv).toNat)
    case atStart => exact ⟨0, Nat.zero_le _, rfl, by show OwnB _ _ _ _; simpa [outT] using HO3.out, HK3, HB3⟩
    case round =>
      obtain ⟨k, hk, rfl, ho, hka, hb⟩ := hrel
      by_cases hlt : k < n
      · obtain ⟨x, hxk⟩ : ∃ x, es[k]? = some x := ⟨es[k]'(by rw [HN.out]; exact hlt), List.getElem?_eq_getElem _⟩
        obtain ⟨g, off, rfl, hgB, hgl, hat⟩ := HX.out (by intro h; rw [h] at hxk; simp at hxk)
        obtain ⟨cs, hcs4, hcs, E1⟩ := hat k x hxk
        obtain ⟨tk, tn, tt, p2, n2, q2, rfl⟩ := (E1 W1 (Below.refl _ _)).shape
        have a0 := hcs 0 (by omega)
        have a1 := hcs 1 (by omega)
        have a2 := hcs 2 (by omega)
        have a3 := hcs 3 (by omega)
        rw [← hb.out.cell (p := ⟨g, _, none⟩) hgB] at a0 a1 a2 a3
        simp at a0 a1 a2 a3
        have hki : (k : Int) < (n : Int) := by omega
        have hk0 : (0 : Int) ≤ (k : Int) := by omega
        have HE1 : Hid (∀ w', Below B W1 w' → HVa w' (fun g => g < B) d [.int .i64 tk, .int .i64 tn, .string tt, .slice p2 n2 q2] x) := E1
        have HBr : Hid (B ≤ wr.heap.size) := ho.out.2
        have HBA : Hid (Below B W1 (wr.alloc (.cells #[.int .i64 tk, .int .i64 tn, .string tt, .slice p2 n2 q2] 29))) := hb.out.alloc HBr.out _
        have HKA : Hid (Blk (wr.alloc (.cells #[.int .i64 tk, .int .i64 tn, .string tt, .slice p2 n2 q2] 29)) w.heap.size #[.int .i64 1, .string yx, .int .i64 sk, .int .i64 sn, .string st, .slice p1 n1 q1, .slice (some ⟨g, off, none⟩) n ca] 39) := hka.out.alloc
        have HOA : Hid (OwnB (wr.alloc (.cells #[.int .i64 tk, .int .i64 tn, .string tt, .slice p2 n2 q2] 29)) B u3 (headT d ⟨1, yx, vx, es⟩ ++ outT d (es.take k))) := ho.out.next ((Below.refl _ _).alloc (Nat.le_refl _) _)
        have HNE : Hid (u3.ownBlock ≠ some wr.heap.size) := fun e => by have := (ho.out.off e).2; omega
        have HJ : Hid (outT d (es.take (k + 1)) = outT d (es.take k) ++ ([32, 62] ++ vaTxt d x)) := outT_succ d es k x hxk
        have hbx := BX.out k x hxk
        obtain ⟨J, hJ⟩ : ∃ J, J = headT d ⟨1, yx, vx, es⟩ ++ outT d (es.take k) := ⟨_, rfl⟩
        have HJ0 : Hid (J = headT d ⟨1, yx, vx, es⟩ ++ outT d (es.take k)) := hJ
        rw [← hJ] at HOA hbx
        clear hJ hcs hat hcs4 E1 ho hb hka
        go_wp2_with (first | (at_builtin; refine wpList_append_stringM _ rfl _ _ 49 9 rfl B 5 i Tryd.underlying49 Tryd.underlying9 hi hz0 hz1 hz2 u3 _ _ rfl HOA.out.1 ⟨#[32, 62]⟩ rfl (by unfold maxLen; simp [ByteArray.size]; omega) (by simp [ByteArray.size]; omega) HOA.out.2 ?_))
        intro tv2 w2 hown2 hgr2 _
        have HO2 : Hid (OwnB w2 B tv2 (J ++ [32, 62])) := OwnB.of hown2 (by simp only [List.length_append]; rfl) rfl (Nat.le_trans HOA.out.2 hgr2.size)
        have hbk := HOA.out.blk hgr2 (Blk.new (w := wr) (cs := #[.int .i64 tk, .int .i64 tn, .string tt, .slice p2 n2 q2]) (t := 29)) HNE.out
        have HB2 : Hid (Below B W1 w2) := HBA.out.trans (HOA.out.below hgr2)
        have HK2 : Hid (Blk w2 w.heap.size #[.int .i64 1, .string yx, .int .i64 sk, .int .i64 sn, .string st, .slice p1 n1 q1, .slice (some ⟨g, off, none⟩) n ca] 39) := HKA.out.below (HOA.out.below hgr2) HB0.out
        have c0 := hbk.cell 0 _ rfl
        have c1 := hbk.cell 1 _ rfl
        have c2 := hbk.cell 2 _ rfl
        have c3 := hbk.cell 3 _ rfl
        clear hown2 hgr2 hbk
        go_wp2_with fail
        refine (appendVal_all d _ _ x B tv2 _ (HE1.out _ HB2.out) (by simp only [List.length_append, List.length_cons, List.length_nil]; omega) (HG0.out.low' HB2.out) HO2.out).mono ?_
        rintro e w4 ⟨tv', rfl, ho4, hb4⟩
        have HO4 : Hid (OwnB w4 B tv' (J ++ [32, 62] ++ vaTxt d x)) := ho4
        have HB4 : Hid (Below B W1 w4) := HB2.out.trans hb4
        have HK4 : Hid (Blk w4 w.heap.size #[.int .i64 1, .string yx, .int .i64 sk, .int .i64 sn, .string st, .slice p1 n1 q1, .slice (some ⟨g, off, none⟩) n ca] 39) := HK2.out.below hb4 HB0.out
        clear hb4 ho4
        go_wp2_with fail
        exact ⟨⟨k + 1, by omega, by go_num, by show OwnB _ _ _ _; rw [HJ.out]; have := HO4.out; rw [HJ0.out] at this; simpa [List.append_assoc] using this, HK4, HB4⟩, by simp [intOf]; omega⟩
      · have HE : Hid (OwnB wr B u3 (headT d ⟨1, yx, vx, es⟩ ++ outT d es)) := by
          have := ho.out
          rwa [List.take_of_length_le (by rw [HN.out]; omega)] at this
        have hc := bytes_back HE.out
        clear ho
        go_wp2_with fail
        go_ret
        exact ⟨by rw [HS.out]; rfl, HA.out.trans (hb.out.mono (by rw [HBW.out]; omega))⟩
  · have kc := Lib.run_convert_bytes_const (P := Tryd.prog) W1 49 5 #[.int .u8 102, .int .u8 117, .int .u8 101, .int .u8 108] 4 4 Tryd.underlying49 Tryd.underlying5
    rw [hs1, hB, hW1] at kc
    obtain ⟨W2, hW2⟩ : ∃ W2, W2 = W1.alloc (.cells #[.int .u8 102, .int .u8 117, .int .u8 101, .int .u8 108] 5 (4, 5)) := ⟨_, rfl⟩
    have hal2 : Below W1.heap.size W1 W2 := by rw [hW2]; exact (Below.refl _ _).alloc (Nat.le_refl _) _
    have HO2 : Hid (OwnB W2 B (.slice (some ⟨w.heap.size + 1, 0, none⟩) 4 4) [102, 117, 101, 108]) := by
      have := OwnB.const (w := W1) (B := B) (l := [102, 117, 101, 108]) (by rw [hs1]; exact Nat.le_refl _) (by decide)
      rw [hs1, hB] at this
      show OwnB _ _ _ _
      rw [hW2, hB]
      exact this
    have HK2 : Hid (Blk W2 w.heap.size #[.int .i64 2, .string yx, .int .i64 sk, .int .i64 sn, .string st, .slice p1 n1 q1, .slice po n ca] 39) := HK0.out.next hal2
    have HB2 : Hid (Below B W1 W2) := by show Below _ _ _; rw [← hs1]; exact hal2
    have hW2' := hW2
    rw [hW1] at hW2'
    have HW2 : Hid (W2 = (w.alloc (.cells #[.int .i64 2, .string yx, .int .i64 sk, .int .i64 sn, .string st, .slice p1 n1 q1, .slice po n ca] 39)).alloc (.cells #[.int .u8 102, .int .u8 117, .int .u8 101, .int .u8 108] 5 (4, 5))) := hW2'
    have y0 := HK2.out.cell 0 _ rfl
    have y1 := HK2.out.cell 1 _ rfl
    have y2 := HK2.out.cell 2 _ rfl
    have y3 := HK2.out.cell 3 _ rfl
    have y4 := HK2.out.cell 4 _ rfl
    have y5 := HK2.out.cell 5 _ rfl
    have y6 := HK2.out.cell 6 _ rfl
    rw [hW2'] at y0 y1 y2 y3 y4 y5 y6
    clear hs1 hB hW1 hW2 hal2 hW2'
    go_enter Tryd.func16, Tryd.ntmps16
    go_wp2_with fail
    rw [← HW2.out]
    clear kc y0 y1 y2 y3 y4 y5 y6
    have HO3 : Hid (OwnB W2 B (.slice (some ⟨w.heap.size + 1, 0, none⟩) 4 4) (headT d ⟨2, yx, vx, es⟩)) := by show OwnB _ _ _ _; simpa [headT] using HO2.out
    have HB3 := HB2
    have HK3 := HK2
    go_loopw [3, 33] (fun tv iv wr => ∃ (k : Nat), k ≤ n ∧ iv = .int .i64 k ∧ Hid (OwnB wr B tv (headT d ⟨2, yx, vx, es⟩ ++ outT d (es.take k))) ∧ Hid (Blk wr w.heap.size #[.int .i64 2, .string yx, .int .i64 sk, .int .i64 sn, .string st, .slice p1 n1 q1, .slice po n ca] 39) ∧ Hid (Below B W1 wr)) (fun _ iv _ => n - (intOf iv).toNat)
    case atStart => exact ⟨0, Nat.zero_le _, rfl, by show OwnB _ _ _ _; simpa [outT] using HO3.out, HK3, HB3⟩
    case round =>
      obtain ⟨k, hk, rfl, ho, hka, hb⟩ := hrel
      by_cases hlt : k < n
      · obtain ⟨x, hxk⟩ : ∃ x, es[k]? = some x := ⟨es[k]'(by rw [HN.out]; exact hlt), List.getElem?_eq_getElem _⟩
        obtain ⟨g, off, rfl, hgB, hgl, hat⟩ := HX.out (by intro h; rw [h] at hxk; simp at hxk)
        obtain ⟨cs, hcs4, hcs, E1⟩ := hat k x hxk
        obtain ⟨tk, tn, tt, p2, n2, q2, rfl⟩ := (E1 W1 (Below.refl _ _)).shape
        have a0 := hcs 0 (by omega)
        have a1 := hcs 1 (by omega)
        have a2 := hcs 2 (by omega)
        have a3 := hcs 3 (by omega)
        rw [← hb.out.cell (p := ⟨g, _, none⟩) hgB] at a0 a1 a2 a3
        simp at a0 a1 a2 a3
        have hki : (k : Int) < (n : Int) := by omega
        have hk0 : (0 : Int) ≤ (k : Int) := by omega
        have HE1 : Hid (∀ w', Below B W1 w' → HVa w' (fun g => g < B) d [.int .i64 tk, .int .i64 tn, .string tt, .slice p2 n2 q2] x) := E1
        have HBr : Hid (B ≤ wr.heap.size) := ho.out.2
        have HBA : Hid (Below B W1 (wr.alloc (.cells #[.int .i64 tk, .int .i64 tn, .string tt, .slice p2 n2 q2] 29))) := hb.out.alloc HBr.out _
        have HKA : Hid (Blk (wr.alloc (.cells #[.int .i64 tk, .int .i64 tn, .string tt, .slice p2 n2 q2] 29)) w.heap.size #[.int .i64 2, .string yx, .int .i64 sk, .int .i64 sn, .string st, .slice p1 n1 q1, .slice (some ⟨g, off, none⟩) n ca] 39) := hka.out.alloc
        have HOA : Hid (OwnB (wr.alloc (.cells #[.int .i64 tk, .int .i64 tn, .string tt, .slice p2 n2 q2] 29)) B u3 (headT d ⟨2, yx, vx, es⟩ ++ outT d (es.take k))) := ho.out.next ((Below.refl _ _).alloc (Nat.le_refl _) _)
        have HNE : Hid (u3.ownBlock ≠ some wr.heap.size) := fun e => by have := (ho.out.off e).2; omega
        have HJ : Hid (outT d (es.take (k + 1)) = outT d (es.take k) ++ ([32, 62] ++ vaTxt d x)) := outT_succ d es k x hxk
        have hbx := BX.out k x hxk
        obtain ⟨J, hJ⟩ : ∃ J, J = headT d ⟨2, yx, vx, es⟩ ++ outT d (es.take k) := ⟨_, rfl⟩
        have HJ0 : Hid (J = headT d ⟨2, yx, vx, es⟩ ++ outT d (es.take k)) := hJ
        rw [← hJ] at HOA hbx
        clear hJ hcs hat hcs4 E1 ho hb hka
        go_wp2_with (first | (at_builtin; refine wpList_append_stringM _ rfl _ _ 49 9 rfl B 5 i Tryd.underlying49 Tryd.underlying9 hi hz0 hz1 hz2 u3 _ _ rfl HOA.out.1 ⟨#[32, 62]⟩ rfl (by unfold maxLen; simp [ByteArray.size]; omega) (by simp [ByteArray.size]; omega) HOA.out.2 ?_))
        intro tv2 w2 hown2 hgr2 _
        have HO2 : Hid (OwnB w2 B tv2 (J ++ [32, 62])) := OwnB.of hown2 (by simp only [List.length_append]; rfl) rfl (Nat.le_trans HOA.out.2 hgr2.size)
        have hbk := HOA.out.blk hgr2 (Blk.new (w := wr) (cs := #[.int .i64 tk, .int .i64 tn, .string tt, .slice p2 n2 q2]) (t := 29)) HNE.out
        have HB2 : Hid (Below B W1 w2) := HBA.out.trans (HOA.out.below hgr2)
        have HK2 : Hid (Blk w2 w.heap.size #[.int .i64 2, .string yx, .int .i64 sk, .int .i64 sn, .string st, .slice p1 n1 q1, .slice (some ⟨g, off, none⟩) n ca] 39) := HKA.out.below (HOA.out.below hgr2) HB0.out
        have c0 := hbk.cell 0 _ rfl
        have c1 := hbk.cell 1 _ rfl
        have c2 := hbk.cell 2 _ rfl
        have c3 := hbk.cell 3 _ rfl
        clear hown2 hgr2 hbk
        go_wp2_with fail
        refine (appendVal_all d _ _ x B tv2 _ (HE1.out _ HB2.out) (by simp only [List.length_append, List.length_cons, List.length_nil]; omega) (HG0.out.low' HB2.out) HO2.out).mono ?_
        rintro e w4 ⟨tv', rfl, ho4, hb4⟩
        have HO4 : Hid (OwnB w4 B tv' (J ++ [32, 62] ++ vaTxt d x)) := ho4
        have HB4 : Hid (Below B W1 w4) := HB2.out.trans hb4
        have HK4 : Hid (Blk w4 w.heap.size #[.int .i64 2, .string yx, .int .i64 sk, .int .i64 sn, .string st, .slice p1 n1 q1, .slice (some ⟨g, off, none⟩) n ca] 39) := HK2.out.below hb4 HB0.out
        clear hb4 ho4
        go_wp2_with fail
        exact ⟨⟨k + 1, by omega, by go_num, by show OwnB _ _ _ _; rw [HJ.out]; have := HO4.out; rw [HJ0.out] at this; simpa [List.append_assoc] using this, HK4, HB4⟩, by simp [intOf]; omega⟩
      · have HE : Hid (OwnB wr B u3 (headT d ⟨2, yx, vx, es⟩ ++ outT d es)) := by
          have := ho.out
          rwa [List.take_of_length_le (by rw [HN.out]; omega)] at this
        have hc := bytes_back HE.out
        clear ho
        go_wp2_with fail
        go_ret
        exact ⟨by rw [HS.out]; rfl, HA.out.trans (hb.out.mono (by rw [HBW.out]; omega))⟩
  · have kc := Lib.run_convert_bytes_const (P := Tryd.prog) W1 49 5 #[.int .u8 110, .int .u8 111, .int .u8 110, .int .u8 101] 4 4 Tryd.underlying49 Tryd.underlying5
    rw [hs1, hB, hW1] at kc
    obtain ⟨W2, hW2⟩ : ∃ W2, W2 = W1.alloc (.cells #[.int .u8 110, .int .u8 111, .int .u8 110, .int .u8 101] 5 (4, 5)) := ⟨_, rfl⟩
    have hal2 : Below W1.heap.size W1 W2 := by rw [hW2]; exact (Below.refl _ _).alloc (Nat.le_refl _) _
    have HO2 : Hid (OwnB W2 B (.slice (some ⟨w.heap.size + 1, 0, none⟩) 4 4) [110, 111, 110, 101]) := by
      have := OwnB.const (w := W1) (B := B) (l := [110, 111, 110, 101]) (by rw [hs1]; exact Nat.le_refl _) (by decide)
      rw [hs1, hB] at this
      show OwnB _ _ _ _
      rw [hW2, hB]
      exact this
    have HK2 : Hid (Blk W2 w.heap.size #[.int .i64 3, .string yx, .int .i64 sk, .int .i64 sn, .string st, .slice p1 n1 q1, .slice po n ca] 39) := HK0.out.next hal2
    have HB2 : Hid (Below B W1 W2) := by show Below _ _ _; rw [← hs1]; exact hal2
    have hW2' := hW2
    rw [hW1] at hW2'
    have HW2 : Hid (W2 = (w.alloc (.cells #[.int .i64 3, .string yx, .int .i64 sk, .int .i64 sn, .string st, .slice p1 n1 q1, .slice po n ca] 39)).alloc (.cells #[.int .u8 110, .int .u8 111, .int .u8 110, .int .u8 101] 5 (4, 5))) := hW2'
    have y0 := HK2.out.cell 0 _ rfl
    have y1 := HK2.out.cell 1 _ rfl
    have y2 := HK2.out.cell 2 _ rfl
    have y3 := HK2.out.cell 3 _ rfl
    have y4 := HK2.out.cell 4 _ rfl
    have y5 := HK2.out.cell 5 _ rfl
    have y6 := HK2.out.cell 6 _ rfl
    rw [hW2'] at y0 y1 y2 y3 y4 y5 y6
    clear hs1 hB hW1 hW2 hal2 hW2'
    go_enter Tryd.func16, Tryd.ntmps16
    go_wp2_with fail
    rw [← HW2.out]
    clear kc y0 y1 y2 y3 y4 y5 y6
    have HO3 : Hid (OwnB W2 B (.slice (some ⟨w.heap.size + 1, 0, none⟩) 4 4) (headT d ⟨3, yx, vx, es⟩)) := by show OwnB _ _ _ _; simpa [headT] using HO2.out
    have HB3 := HB2
    have HK3 := HK2
    go_loopw [3, 33] (fun tv iv wr => ∃ (k : Nat), k ≤ n ∧ iv = .int .i64 k ∧ Hid (OwnB wr B tv (headT d ⟨3, yx, vx, es⟩ ++ outT d (es.take k))) ∧ Hid (Blk wr w.heap.size #[.int .i64 3, .string yx, .int .i64 sk, .int .i64 sn, .string st, .slice p1 n1 q1, .slice po n ca] 39) ∧ Hid (Below B W1 wr)) (fun _ iv _ => n - (intOf iv).toNat)
    case atStart => exact ⟨0, Nat.zero_le _, rfl, by show OwnB _ _ _ _; simpa [outT] using HO3.out, HK3, HB3⟩
    case round =>
      obtain ⟨k, hk, rfl, ho, hka, hb⟩ := hrel
      by_cases hlt : k < n
      · obtain ⟨x, hxk⟩ : ∃ x, es[k]? = some x := ⟨es[k]'(by rw [HN.out]; exact hlt), List.getElem?_eq_getElem _⟩
        obtain ⟨g, off, rfl, hgB, hgl, hat⟩ := HX.out (by intro h; rw [h] at hxk; simp at hxk)
        obtain ⟨cs, hcs4, hcs, E1⟩ := hat k x hxk
        obtain ⟨tk, tn, tt, p2, n2, q2, rfl⟩ := (E1 W1 (Below.refl _ _)).shape
        have a0 := hcs 0 (by omega)
        have a1 := hcs 1 (by omega)
        have a2 := hcs 2 (by omega)
        have a3 := hcs 3 (by omega)
        rw [← hb.out.cell (p := ⟨g, _, none⟩) hgB] at a0 a1 a2 a3
        simp at a0 a1 a2 a3
        have hki : (k : Int) < (n : Int) := by omega
        have hk0 : (0 : Int) ≤ (k : Int) := by omega
        have HE1 : Hid (∀ w', Below B W1 w' → HVa w' (fun g => g < B) d [.int .i64 tk, .int .i64 tn, .string tt, .slice p2 n2 q2] x) := E1
        have HBr : Hid (B ≤ wr.heap.size) := ho.out.2
        have HBA : Hid (Below B W1 (wr.alloc (.cells #[.int .i64 tk, .int .i64 tn, .string tt, .slice p2 n2 q2] 29))) := hb.out.alloc HBr.out _
        have HKA : Hid (Blk (wr.alloc (.cells #[.int .i64 tk, .int .i64 tn, .string tt, .slice p2 n2 q2] 29)) w.heap.size #[.int .i64 3, .string yx, .int .i64 sk, .int .i64 sn, .string st, .slice p1 n1 q1, .slice (some ⟨g, off, none⟩) n ca] 39) := hka.out.alloc
        have HOA : Hid (OwnB (wr.alloc (.cells #[.int .i64 tk, .int .i64 tn, .string tt, .slice p2 n2 q2] 29)) B u3 (headT d ⟨3, yx, vx, es⟩ ++ outT d (es.take k))) := ho.out.next ((Below.refl _ _).alloc (Nat.le_refl _) _)
        have HNE : Hid (u3.ownBlock ≠ some wr.heap.size) := fun e => by have := (ho.out.off e).2; omega
        have HJ : Hid (outT d (es.take (k + 1)) = outT d (es.take k) ++ ([32, 62] ++ vaTxt d x)) := outT_succ d es k x hxk
        have hbx := BX.out k x hxk
        obtain ⟨J, hJ⟩ : ∃ J, J = headT d ⟨3, yx, vx, es⟩ ++ outT d (es.take k) := ⟨_, rfl⟩
        have HJ0 : Hid (J = headT d ⟨3, yx, vx, es⟩ ++ outT d (es.take k)) := hJ
        rw [← hJ] at HOA hbx
        clear hJ hcs hat hcs4 E1 ho hb hka
        go_wp2_with (first | (at_builtin; refine wpList_append_stringM _ rfl _ _ 49 9 rfl B 5 i Tryd.underlying49 Tryd.underlying9 hi hz0 hz1 hz2 u3 _ _ rfl HOA.out.1 ⟨#[32, 62]⟩ rfl (by unfold maxLen; simp [ByteArray.size]; omega) (by simp [ByteArray.size]; omega) HOA.out.2 ?_))
        intro tv2 w2 hown2 hgr2 _
        have HO2 : Hid (OwnB w2 B tv2 (J ++ [32, 62])) := OwnB.of hown2 (by simp only [List.length_append]; rfl) rfl (Nat.le_trans HOA.out.2 hgr2.size)
        have hbk := HOA.out.blk hgr2 (Blk.new (w := wr) (cs := #[.int .i64 tk, .int .i64 tn, .string tt, .slice p2 n2 q2]) (t := 29)) HNE.out
        have HB2 : Hid (Below B W1 w2) := HBA.out.trans (HOA.out.below hgr2)
        have HK2 : Hid (Blk w2 w.heap.size #[.int .i64 3, .string yx, .int .i64 sk, .int .i64 sn, .string st, .slice p1 n1 q1, .slice (some ⟨g, off, none⟩) n ca] 39) := HKA.out.below (HOA.out.below hgr2) HB0.out
        have c0 := hbk.cell 0 _ rfl
        have c1 := hbk.cell 1 _ rfl
        have c2 := hbk.cell 2 _ rfl
        have c3 := hbk.cell 3 _ rfl
        clear hown2 hgr2 hbk
        go_wp2_with fail
        refine (appendVal_all d _ _ x B tv2 _ (HE1.out _ HB2.out) (by simp only [List.length_append, List.length_cons, List.length_nil]; omega) (HG0.out.low' HB2.out) HO2.out).mono ?_
        rintro e w4 ⟨tv', rfl, ho4, hb4⟩
        have HO4 : Hid (OwnB w4 B tv' (J ++ [32, 62] ++ vaTxt d x)) := ho4
        have HB4 : Hid (Below B W1 w4) := HB2.out.trans hb4
        have HK4 : Hid (Blk w4 w.heap.size #[.int .i64 3, .string yx, .int .i64 sk, .int .i64 sn, .string st, .slice p1 n1 q1, .slice (some ⟨g, off, none⟩) n ca] 39) := HK2.out.below hb4 HB0.out
        clear hb4 ho4
        go_wp2_with fail
        exact ⟨⟨k + 1, by omega, by go_num, by show OwnB _ _ _ _; rw [HJ.out]; have := HO4.out; rw [HJ0.out] at this; simpa [List.append_assoc] using this, HK4, HB4⟩, by simp [intOf]; omega⟩
      · have HE : Hid (OwnB wr B u3 (headT d ⟨3, yx, vx, es⟩ ++ outT d es)) := by
          have := ho.out
          rwa [List.take_of_length_le (by rw [HN.out]; omega)] at this
        have hc := bytes_back HE.out
        clear ho
        go_wp2_with fail
        go_ret
        exact ⟨by rw [HS.out]; rfl, HA.out.trans (hb.out.mono (by rw [HBW.out]; omega))⟩
end Go.Proofs.YthcdppdmiicelaaDoor
