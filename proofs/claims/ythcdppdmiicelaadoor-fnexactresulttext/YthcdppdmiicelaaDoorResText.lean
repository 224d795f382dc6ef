/-
  ResultText of the specification and of the program: what a run answers, as a text.
-/
import Derived.Test.YthcdppdmiicelaaDoorTextImpl2
import Derived.Test.YthcdppdmiicelaaDoorResSz
namespace Go.Proofs.YthcdppdmiicelaaDoor
open Go.ChangeShapes Go.WideShapes Go.ChangeAt Go.RowKit
set_option linter.unusedVariables false

/-- What was put out, each with a blank and a sign ahead. -/
def outT (d : Nat) (l : List Va) : List UInt8 := l.flatMap fun v => [32, 62] ++ vaTxt d v
def headT (d : Nat) (r : Re) : List UInt8 := if r.code = 0 then [111, 107, 32] ++ vaTxt d r.val else if r.code = 1 then [102, 97, 105, 108, 32] ++ r.why.data.toList else if r.code = 2 then [102, 117, 101, 108] else [110, 111, 110, 101]
def reTxt (d : Nat) (r : Re) : List UInt8 := if 0 ≤ r.code ∧ r.code ≤ 3 then headT d r ++ outT d r.out else []

theorem outT_succ (d : Nat) (es : List Va) (k : Nat) (x : Va) (h : es[k]? = some x) : outT d (es.take (k + 1)) = outT d (es.take k) ++ ([32, 62] ++ vaTxt d x) := by
  unfold outT
  rw [List.take_add_one, h]
  simp
theorem outT_len (d : Nat) : ∀ (es : List Va), (∀ y ∈ es, vaI d y) → (outT d es).length ≤ 25 * wtS (wtVa d) es
  | [], _ => by simp [outT]
  | y :: es, h => by
    have h1 := outT_len d es (fun z hz => h z (List.mem_cons_of_mem _ hz))
    have h2 := vaTxt_len d y (h y List.mem_cons_self)
    have h3 : outT d (y :: es) = [32, 62] ++ vaTxt d y ++ outT d es := by simp [outT]
    rw [h3]
    simp only [List.length_append, List.length_cons, List.length_nil]
    unfold wtS at *
    simp only [List.length_cons, List.map_cons, List.sum_cons]
    omega
theorem outT_take (d : Nat) (es : List Va) (hI : ∀ y ∈ es, vaI d y) (k : Nat) : (outT d (es.take k)).length ≤ 25 * wtS (wtVa d) es := by
  have h1 := outT_len d (es.take k) (fun y hy => hI y (List.mem_of_mem_take hy))
  have h2 := wtS_take (wtVa d) es k
  omega
theorem headT_len (d : Nat) (r : Re) (hI : vaI d r.val) : (headT d r).length ≤ 30 + 25 * wtVa d r.val + r.why.size := by
  have h2 := vaTxt_len d r.val hI
  unfold headT
  split
  · simp only [List.length_append, List.length_cons, List.length_nil]; omega
  · split
    · simp only [List.length_append, List.length_cons, List.length_nil, bsize]; omega
    · split <;> (simp; omega)

set_option maxHeartbeats 8000000 in
set_option maxRecDepth 100000 in
/-- THE SPECIFICATION's ResultText. -/
theorem specResText_any (d : Nat) (w : World) (cs : List Value) (x : Re) (h : HRe w All d cs x) (hwt : wtRe d x ≤ 1048576) :
    Calls Tryd.prog 14 #[.agg cs.toArray] w fun e w' => e = .returned (.string ⟨(reTxt d x).toArray⟩) ∧ Below w.heap.size w w' := by
  obtain ⟨sk, sn, st, p1, n1, q1, ov, rfl, a1, a2, f0, f1⟩ := h
  obtain ⟨cx, yx, vx, es⟩ := x
  simp only at *
  have hI := rows_ints f1
  have hIv := f0.ints
  have g0 : ∀ w', SameOn All w w' → HVa w' All d [.int .i64 sk, .int .i64 sn, .string st, .slice p1 n1 q1] vx := fun w' hw => f0.mono hw (fun _ h => h)
  obtain ⟨po, ca, rfl, hcl, hcm, hx⟩ := f1
  have hnb : es.length ≤ 9223372036854775807 := by unfold maxLen at hcm; omega
  have hw3 : wtVa d vx ≤ 1048576 := by unfold wtRe at hwt; simp only at hwt; omega
  have HD : Hid ((headT d ⟨cx, yx, vx, es⟩).length ≤ 26214400 + 30) := by
    show _ ≤ _
    have := headT_len d ⟨cx, yx, vx, es⟩ hIv
    unfold wtRe at hwt; simp only at hwt this
    omega
  have hlv := vaTxt_len d vx hIv
  have hys : yx.size ≤ 1048576 := by unfold wtRe at hwt; simp only at hwt; omega
  have BD : Hid (∀ k (o : ByteArray), o.data.toList = headT d ⟨cx, yx, vx, es⟩ ++ outT d (es.take k) → o.size ≤ 60000000) := fun k o ho => by
    have h1 := outT_take d es hI k
    have h2 := HD.out
    rw [← bsize, ho, List.length_append]
    unfold wtRe at hwt; simp only at hwt
    omega
  have BX : Hid (∀ k x, es[k]? = some x → wtVa d x ≤ 1048576 ∧ (vaTxt d x).length ≤ 26214500) := fun k x hk => by
    have h1 := wtS_at (wtVa d) es k x hk
    have h2 := vaTxt_len d x (hI x (List.mem_of_getElem? hk))
    unfold wtRe at hwt; simp only at hwt
    exact ⟨by omega, by omega⟩
  generalize hn : es.length = n at *
  have HN : Hid (es.length = n) := hn
  have HX : Hid (es ≠ [] → ∃ g off, po = some ⟨g, off, none⟩ ∧ All g ∧ g < w.heap.size ∧ ∀ i x, es[i]? = some x → ∃ cs, cs.length = 4 ∧ (∀ j, j < 4 → w.cell? ⟨g, off + i * 4 + j, none⟩ = cs[j]?) ∧ HVa w All d cs x) := hx
  have HIV : Hid (vaI d vx) := hIv
  have HA : Hid (Below w.heap.size w (w.alloc (.cells #[.int .i64 cx, .string yx, .int .i64 sk, .int .i64 sn, .string st, .slice p1 n1 q1, .slice po n ca] 39))) := (Below.refl _ _).alloc (Nat.le_refl _) _
  have KA0 : Hid (Blk (w.alloc (.cells #[.int .i64 cx, .string yx, .int .i64 sk, .int .i64 sn, .string st, .slice p1 n1 q1, .slice po n ca] 39)) w.heap.size #[.int .i64 cx, .string yx, .int .i64 sk, .int .i64 sn, .string st, .slice p1 n1 q1, .slice po n ca] 39) := Blk.new
  clear hx hn hI hwt f0 hIv a2
  obtain ⟨i0, i1⟩ := okI_bd a1
  clear a1
  by_cases hc : 0 ≤ cx ∧ cx ≤ 3
  case neg =>
    have HS : Hid (reTxt d ⟨cx, yx, vx, es⟩ = []) := if_neg hc
    have hc0 : ¬ cx = 0 := by omega
    have hc1 : ¬ cx = 1 := by omega
    have hc2 : ¬ cx = 2 := by omega
    have hc3 : ¬ cx = 3 := by omega
    clear hc
    go_enter Tryd.func14, Tryd.ntmps14
    go_wp2
    go_ret
    exact ⟨by rw [HS.out]; rfl, HA.out⟩
  have HS : Hid (reTxt d ⟨cx, yx, vx, es⟩ = headT d ⟨cx, yx, vx, es⟩ ++ outT d es) := if_pos hc
  rcases (show cx = 0 ∨ cx = 1 ∨ cx = 2 ∨ cx = 3 by omega) with rfl | rfl | rfl | rfl

  · go_enter Tryd.func14, Tryd.ntmps14
    go_wp2_with fail
    refine (specValText_any d _ _ vx (g0 _ (SameOn.of_below HA.out)) hw3).mono ?_
    rintro e w1 ⟨rfl, hb1⟩
    obtain ⟨s, hs0⟩ : ∃ s : ByteArray, s = ⟨(vaTxt d vx).toArray⟩ := ⟨_, rfl⟩
    have HS1 : Hid (s.data.toList = vaTxt d vx) := by show _ = _; rw [hs0]
    have hss : s.size ≤ 26214500 := by rw [← bsize, HS1.out]; omega
    rw [← hs0]
    have K1 : Hid (Blk w1 w.heap.size #[.int .i64 0, .string yx, .int .i64 sk, .int .i64 sn, .string st, .slice p1 n1 q1, .slice po n ca] 39) := KA0.out.next hb1
    have HB1 : Hid (Below w.heap.size w w1) := HA.out.trans (hb1.mono HA.out.size)
    clear hb1 hs0
    go_wp2_with fail
    go_loopw [3, 4] (fun ov iv wr => ∃ (k : Nat) (o : ByteArray), k ≤ n ∧ iv = .int .i64 k ∧ ov = .string o ∧ Hid (o.data.toList = headT d ⟨0, yx, vx, es⟩ ++ outT d (es.take k)) ∧ Hid (Blk wr w.heap.size #[.int .i64 0, .string yx, .int .i64 sk, .int .i64 sn, .string st, .slice p1 n1 q1, .slice po n ca] 39) ∧ Below w.heap.size w wr) (fun _ iv _ => n - (intOf iv).toNat)
    case atStart => exact ⟨0, _, Nat.zero_le _, rfl, rfl, (by show _ = _; simp [headT, outT, ← HS1.out, ByteArray.data_append]), K1, HB1.out⟩
    case round =>
      obtain ⟨k, o, hk, rfl, rfl, ho, hka, hb⟩ := hrel
      have hos := BD.out k o ho.out
      have HB : Hid (Below w.heap.size w wr) := hb
      have r6 := hka.out.cell 6 _ rfl
      by_cases hlt : k < n
      · obtain ⟨x, hxk⟩ : ∃ x, es[k]? = some x := ⟨es[k]'(by rw [HN.out]; exact hlt), List.getElem?_eq_getElem _⟩
        obtain ⟨g, off, rfl, -, hgl, hat⟩ := HX.out (by intro h; rw [h] at hxk; simp at hxk)
        obtain ⟨cs, hcs4, hcs, r1⟩ := hat k x hxk
        obtain ⟨tk, tn, tt, p2, n2, q2, rfl⟩ := r1.shape
        have E1 : ∀ w', Below w.heap.size w w' → HVa w' All d [.int .i64 tk, .int .i64 tn, .string tt, .slice p2 n2 q2] x := fun w' hw => r1.mono (SameOn.of_below hw) (fun _ h => h)
        have a0 := hcs 0 (by omega)
        have a1 := hcs 1 (by omega)
        have a2 := hcs 2 (by omega)
        have a3 := hcs 3 (by omega)
        rw [← hb.cell (p := ⟨g, _, none⟩) hgl] at a0 a1 a2 a3
        simp at a0 a1 a2 a3
        have hki : (k : Int) < (n : Int) := by omega
        have hk0 : (0 : Int) ≤ (k : Int) := by omega
        obtain ⟨wx, lx⟩ := BX.out k x hxk
        have HJ : Hid (outT d (es.take (k + 1)) = outT d (es.take k) ++ ([32, 62] ++ vaTxt d x)) := outT_succ d es k x hxk
        clear hb hcs hat hcs4 r1
        go_wp2_with fail
        refine (specValText_any d _ _ x (E1 _ HB.out) wx).mono ?_
        rintro e w4 ⟨rfl, hb4⟩
        obtain ⟨s, hs0⟩ : ∃ s : ByteArray, s = ⟨(vaTxt d x).toArray⟩ := ⟨_, rfl⟩
        have HS4 : Hid (s.data.toList = vaTxt d x) := by show _ = _; rw [hs0]
        have hss : s.size ≤ 26214500 := by rw [← bsize, HS4.out]; exact lx
        rw [← hs0]
        have HK4 : Hid (Blk w4 w.heap.size #[.int .i64 0, .string yx, .int .i64 sk, .int .i64 sn, .string st, .slice p1 n1 q1, .slice (some ⟨g, off, none⟩) n ca] 39) := hka.out.next hb4
        have HB4 : Hid (Below w.heap.size w w4) := HB.out.trans (hb4.mono HB.out.size)
        clear hb4 hs0 r6
        go_wp2_with fail
        refine ⟨⟨k + 1, o ++ ⟨#[32, 62]⟩ ++ s, by omega, by go_num, rfl, ?_, HK4, HB4.out⟩, by simp [intOf]; omega⟩
        show _ = _
        rw [HJ.out, ← HS4.out, ← List.append_assoc, ← ho.out]
        simp [ByteArray.data_append]
      · have HE : Hid (o = ⟨(headT d ⟨0, yx, vx, es⟩ ++ outT d es).toArray⟩) := by
          have := ho.out
          rw [List.take_of_length_le (by rw [HN.out]; omega)] at this
          show _ = _
          exact ByteArray.ext (by rw [← this])
        clear hb
        go_wp2_with fail
        go_ret
        exact ⟨by rw [HS.out, ← HE.out]; rfl, HB.out⟩
  · go_enter Tryd.func14, Tryd.ntmps14
    go_wp2_with fail
    go_loopw [3, 4] (fun ov iv wr => ∃ (k : Nat) (o : ByteArray), k ≤ n ∧ iv = .int .i64 k ∧ ov = .string o ∧ Hid (o.data.toList = headT d ⟨1, yx, vx, es⟩ ++ outT d (es.take k)) ∧ Hid (Blk wr w.heap.size #[.int .i64 1, .string yx, .int .i64 sk, .int .i64 sn, .string st, .slice p1 n1 q1, .slice po n ca] 39) ∧ Below w.heap.size w wr) (fun _ iv _ => n - (intOf iv).toNat)
    case atStart => exact ⟨0, _, Nat.zero_le _, rfl, rfl, (by show _ = _; simp [headT, outT, ByteArray.data_append]), KA0, HA.out⟩
    case round =>
      obtain ⟨k, o, hk, rfl, rfl, ho, hka, hb⟩ := hrel
      have hos := BD.out k o ho.out
      have HB : Hid (Below w.heap.size w wr) := hb
      have r6 := hka.out.cell 6 _ rfl
      by_cases hlt : k < n
      · obtain ⟨x, hxk⟩ : ∃ x, es[k]? = some x := ⟨es[k]'(by rw [HN.out]; exact hlt), List.getElem?_eq_getElem _⟩
        obtain ⟨g, off, rfl, -, hgl, hat⟩ := HX.out (by intro h; rw [h] at hxk; simp at hxk)
        obtain ⟨cs, hcs4, hcs, r1⟩ := hat k x hxk
        obtain ⟨tk, tn, tt, p2, n2, q2, rfl⟩ := r1.shape
        have E1 : ∀ w', Below w.heap.size w w' → HVa w' All d [.int .i64 tk, .int .i64 tn, .string tt, .slice p2 n2 q2] x := fun w' hw => r1.mono (SameOn.of_below hw) (fun _ h => h)
        have a0 := hcs 0 (by omega)
        have a1 := hcs 1 (by omega)
        have a2 := hcs 2 (by omega)
        have a3 := hcs 3 (by omega)
        rw [← hb.cell (p := ⟨g, _, none⟩) hgl] at a0 a1 a2 a3
        simp at a0 a1 a2 a3
        have hki : (k : Int) < (n : Int) := by omega
        have hk0 : (0 : Int) ≤ (k : Int) := by omega
        obtain ⟨wx, lx⟩ := BX.out k x hxk
        have HJ : Hid (outT d (es.take (k + 1)) = outT d (es.take k) ++ ([32, 62] ++ vaTxt d x)) := outT_succ d es k x hxk
        clear hb hcs hat hcs4 r1
        go_wp2_with fail
        refine (specValText_any d _ _ x (E1 _ HB.out) wx).mono ?_
        rintro e w4 ⟨rfl, hb4⟩
        obtain ⟨s, hs0⟩ : ∃ s : ByteArray, s = ⟨(vaTxt d x).toArray⟩ := ⟨_, rfl⟩
        have HS4 : Hid (s.data.toList = vaTxt d x) := by show _ = _; rw [hs0]
        have hss : s.size ≤ 26214500 := by rw [← bsize, HS4.out]; exact lx
        rw [← hs0]
        have HK4 : Hid (Blk w4 w.heap.size #[.int .i64 1, .string yx, .int .i64 sk, .int .i64 sn, .string st, .slice p1 n1 q1, .slice (some ⟨g, off, none⟩) n ca] 39) := hka.out.next hb4
        have HB4 : Hid (Below w.heap.size w w4) := HB.out.trans (hb4.mono HB.out.size)
        clear hb4 hs0 r6
        go_wp2_with fail
        refine ⟨⟨k + 1, o ++ ⟨#[32, 62]⟩ ++ s, by omega, by go_num, rfl, ?_, HK4, HB4.out⟩, by simp [intOf]; omega⟩
        show _ = _
        rw [HJ.out, ← HS4.out, ← List.append_assoc, ← ho.out]
        simp [ByteArray.data_append]
      · have HE : Hid (o = ⟨(headT d ⟨1, yx, vx, es⟩ ++ outT d es).toArray⟩) := by
          have := ho.out
          rw [List.take_of_length_le (by rw [HN.out]; omega)] at this
          show _ = _
          exact ByteArray.ext (by rw [← this])
        clear hb
        go_wp2_with fail
        go_ret
        exact ⟨by rw [HS.out, ← HE.out]; rfl, HB.out⟩
  · go_enter Tryd.func14, Tryd.ntmps14
    go_wp2_with fail
    go_loopw [3, 4] (fun ov iv wr => ∃ (k : Nat) (o : ByteArray), k ≤ n ∧ iv = .int .i64 k ∧ ov = .string o ∧ Hid (o.data.toList = headT d ⟨2, yx, vx, es⟩ ++ outT d (es.take k)) ∧ Hid (Blk wr w.heap.size #[.int .i64 2, .string yx, .int .i64 sk, .int .i64 sn, .string st, .slice p1 n1 q1, .slice po n ca] 39) ∧ Below w.heap.size w wr) (fun _ iv _ => n - (intOf iv).toNat)
    case atStart => exact ⟨0, _, Nat.zero_le _, rfl, rfl, (by show _ = _; simp [headT, outT]), KA0, HA.out⟩
    case round =>
      obtain ⟨k, o, hk, rfl, rfl, ho, hka, hb⟩ := hrel
      have hos := BD.out k o ho.out
      have HB : Hid (Below w.heap.size w wr) := hb
      have r6 := hka.out.cell 6 _ rfl
      by_cases hlt : k < n
      · obtain ⟨x, hxk⟩ : ∃ x, es[k]? = some x := ⟨es[k]'(by rw [HN.out]; exact hlt), List.getElem?_eq_getElem _⟩
        obtain ⟨g, off, rfl, -, hgl, hat⟩ := HX.out (by intro h; rw [h] at hxk; simp at hxk)
        obtain ⟨cs, hcs4, hcs, r1⟩ := hat k x hxk
        obtain ⟨tk, tn, tt, p2, n2, q2, rfl⟩ := r1.shape
        have E1 : ∀ w', Below w.heap.size w w' → HVa w' All d [.int .i64 tk, .int .i64 tn, .string tt, .slice p2 n2 q2] x := fun w' hw => r1.mono (SameOn.of_below hw) (fun _ h => h)
        have a0 := hcs 0 (by omega)
        have a1 := hcs 1 (by omega)
        have a2 := hcs 2 (by omega)
        have a3 := hcs 3 (by omega)
        rw [← hb.cell (p := ⟨g, _, none⟩) hgl] at a0 a1 a2 a3
        simp at a0 a1 a2 a3
        have hki : (k : Int) < (n : Int) := by omega
        have hk0 : (0 : Int) ≤ (k : Int) := by omega
        obtain ⟨wx, lx⟩ := BX.out k x hxk
        have HJ : Hid (outT d (es.take (k + 1)) = outT d (es.take k) ++ ([32, 62] ++ vaTxt d x)) := outT_succ d es k x hxk
        clear hb hcs hat hcs4 r1
        go_wp2_with fail
        refine (specValText_any d _ _ x (E1 _ HB.out) wx).mono ?_
        rintro e w4 ⟨rfl, hb4⟩
        obtain ⟨s, hs0⟩ : ∃ s : ByteArray, s = ⟨(vaTxt d x).toArray⟩ := ⟨_, rfl⟩
        have HS4 : Hid (s.data.toList = vaTxt d x) := by show _ = _; rw [hs0]
        have hss : s.size ≤ 26214500 := by rw [← bsize, HS4.out]; exact lx
        rw [← hs0]
        have HK4 : Hid (Blk w4 w.heap.size #[.int .i64 2, .string yx, .int .i64 sk, .int .i64 sn, .string st, .slice p1 n1 q1, .slice (some ⟨g, off, none⟩) n ca] 39) := hka.out.next hb4
        have HB4 : Hid (Below w.heap.size w w4) := HB.out.trans (hb4.mono HB.out.size)
        clear hb4 hs0 r6
        go_wp2_with fail
        refine ⟨⟨k + 1, o ++ ⟨#[32, 62]⟩ ++ s, by omega, by go_num, rfl, ?_, HK4, HB4.out⟩, by simp [intOf]; omega⟩
        show _ = _
        rw [HJ.out, ← HS4.out, ← List.append_assoc, ← ho.out]
        simp [ByteArray.data_append]
      · have HE : Hid (o = ⟨(headT d ⟨2, yx, vx, es⟩ ++ outT d es).toArray⟩) := by
          have := ho.out
          rw [List.take_of_length_le (by rw [HN.out]; omega)] at this
          show _ = _
          exact ByteArray.ext (by rw [← this])
        clear hb
        go_wp2_with fail
        go_ret
        exact ⟨by rw [HS.out, ← HE.out]; rfl, HB.out⟩
  · go_enter Tryd.func14, Tryd.ntmps14
    go_wp2_with fail
    go_loopw [3, 4] (fun ov iv wr => ∃ (k : Nat) (o : ByteArray), k ≤ n ∧ iv = .int .i64 k ∧ ov = .string o ∧ Hid (o.data.toList = headT d ⟨3, yx, vx, es⟩ ++ outT d (es.take k)) ∧ Hid (Blk wr w.heap.size #[.int .i64 3, .string yx, .int .i64 sk, .int .i64 sn, .string st, .slice p1 n1 q1, .slice po n ca] 39) ∧ Below w.heap.size w wr) (fun _ iv _ => n - (intOf iv).toNat)
    case atStart => exact ⟨0, _, Nat.zero_le _, rfl, rfl, (by show _ = _; simp [headT, outT]), KA0, HA.out⟩
    case round =>
      obtain ⟨k, o, hk, rfl, rfl, ho, hka, hb⟩ := hrel
      have hos := BD.out k o ho.out
      have HB : Hid (Below w.heap.size w wr) := hb
      have r6 := hka.out.cell 6 _ rfl
      by_cases hlt : k < n
      · obtain ⟨x, hxk⟩ : ∃ x, es[k]? = some x := ⟨es[k]'(by rw [HN.out]; exact hlt), List.getElem?_eq_getElem _⟩
        obtain ⟨g, off, rfl, -, hgl, hat⟩ := HX.out (by intro h; rw [h] at hxk; simp at hxk)
        obtain ⟨cs, hcs4, hcs, r1⟩ := hat k x hxk
        obtain ⟨tk, tn, tt, p2, n2, q2, rfl⟩ := r1.shape
        have E1 : ∀ w', Below w.heap.size w w' → HVa w' All d [.int .i64 tk, .int .i64 tn, .string tt, .slice p2 n2 q2] x := fun w' hw => r1.mono (SameOn.of_below hw) (fun _ h => h)
        have a0 := hcs 0 (by omega)
        have a1 := hcs 1 (by omega)
        have a2 := hcs 2 (by omega)
        have a3 := hcs 3 (by omega)
        rw [← hb.cell (p := ⟨g, _, none⟩) hgl] at a0 a1 a2 a3
        simp at a0 a1 a2 a3
        have hki : (k : Int) < (n : Int) := by omega
        have hk0 : (0 : Int) ≤ (k : Int) := by omega
        obtain ⟨wx, lx⟩ := BX.out k x hxk
        have HJ : Hid (outT d (es.take (k + 1)) = outT d (es.take k) ++ ([32, 62] ++ vaTxt d x)) := outT_succ d es k x hxk
        clear hb hcs hat hcs4 r1
        go_wp2_with fail
        refine (specValText_any d _ _ x (E1 _ HB.out) wx).mono ?_
        rintro e w4 ⟨rfl, hb4⟩
        obtain ⟨s, hs0⟩ : ∃ s : ByteArray, s = ⟨(vaTxt d x).toArray⟩ := ⟨_, rfl⟩
        have HS4 : Hid (s.data.toList = vaTxt d x) := by show _ = _; rw [hs0]
        have hss : s.size ≤ 26214500 := by rw [← bsize, HS4.out]; exact lx
        rw [← hs0]
        have HK4 : Hid (Blk w4 w.heap.size #[.int .i64 3, .string yx, .int .i64 sk, .int .i64 sn, .string st, .slice p1 n1 q1, .slice (some ⟨g, off, none⟩) n ca] 39) := hka.out.next hb4
        have HB4 : Hid (Below w.heap.size w w4) := HB.out.trans (hb4.mono HB.out.size)
        clear hb4 hs0 r6
        go_wp2_with fail
        refine ⟨⟨k + 1, o ++ ⟨#[32, 62]⟩ ++ s, by omega, by go_num, rfl, ?_, HK4, HB4.out⟩, by simp [intOf]; omega⟩
        show _ = _
        rw [HJ.out, ← HS4.out, ← List.append_assoc, ← ho.out]
        simp [ByteArray.data_append]
      · have HE : Hid (o = ⟨(headT d ⟨3, yx, vx, es⟩ ++ outT d es).toArray⟩) := by
          have := ho.out
          rw [List.take_of_length_le (by rw [HN.out]; omega)] at this
          show _ = _
          exact ByteArray.ext (by rw [← this])
        clear hb
        go_wp2_with fail
        go_ret
        exact ⟨by rw [HS.out, ← HE.out]; rfl, HB.out⟩
end Go.Proofs.YthcdppdmiicelaaDoor
