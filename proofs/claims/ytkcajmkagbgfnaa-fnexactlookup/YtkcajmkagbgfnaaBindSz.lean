/-
  How great names that are bound are; of two that are the same tree eqBindS tells that they are.
-/
import Derived.Test.YtkcajmkagbgfnaaValSz
import Derived.Test.YtkcajmkagbgfnaaValEq
namespace Go.Proofs.Ytkcajmkagbgfnaa
open Go.ChangeShapes Go.WideShapes Go.ChangeAt Go.RowKit
set_option linter.unusedVariables false

def wtBd (d : Nat) (b : Bd) : Nat := b.name.size + wtVa d b.val

section
variable {N : Nat}

set_option maxHeartbeats 2000000 in
theorem szBindS_of {d : Nat} (hE : SzC 51 (fun w v e => ∃ cs, v = .agg cs.toArray ∧ HBd w (fun g => g < N) d cs e) (wtBd d)) :
    SzC 18 (fun w v es => Rows w (fun g => g < N) 5 (HBd w (fun g => g < N) d) v es) (wtS (wtBd d)) := by
  intro w v es left h hl
  obtain ⟨p, cap, rfl, hcl, hcm, hx⟩ := h
  generalize hn : es.length = n at *
  have HN : Hid (es.length = n) := hn
  have HX : Hid _ := hx
  have hnb : n ≤ 9223372036854775807 := by unfold maxLen at hcm; omega
  clear hx hn
  by_cases h0 : left < n
  · have hr : leftOf left (wtS (wtBd d) es) = -1 := leftOf_lt (by unfold wtS; rw [HN.out]; omega)
    have HR : Hid (leftOf left (wtS (wtBd d) es) = -1) := hr
    clear hr
    go_enter Try.func18, Try.ntmps18
    go_wp2
    go_ret
    exact ⟨by rw [HR.out]; rfl, Below.refl _ _⟩
  · go_enter Try.func18, Try.ntmps18
    go_wp2
    go_loopw [1, 5] (fun lv iv wr => ∃ k r : Nat, k ≤ n ∧ iv = .int .i64 k ∧ lv = .int .i64 r ∧ Hid (r + n + ((es.take k).map (wtBd d)).sum = left) ∧ Below w.heap.size w wr) (fun _ iv _ => n - (intOf iv).toNat)
    case atStart => exact ⟨0, left - n, Nat.zero_le _, rfl, by go_num, (by show left - n + n + _ = left; simp; omega), Below.refl _ _⟩
    case round =>
      obtain ⟨k, r, hk, rfl, rfl, hrs, hb⟩ := hrel
      have HB : Hid (Below w.heap.size w wr) := hb
      by_cases hlt : k < n
      · obtain ⟨x, hxk⟩ : ∃ x, es[k]? = some x := ⟨es[k]'(by rw [HN.out]; exact hlt), List.getElem?_eq_getElem _⟩
        obtain ⟨g, off, rfl, hg, hgl, hat⟩ := HX.out (by intro h; rw [h] at hxk; simp at hxk)
        obtain ⟨cs, hcl6, hcs, hex⟩ := hat k x hxk
        have hex' : HBd wr (fun g => g < N) d cs x := hex.mono (SameOn.of_below hb) (fun _ h => h)
        obtain ⟨c0, c1, c2, c3, c4, rfl⟩ := len5 hcl6
        have a0 := hcs 0 (by omega)
        have a1 := hcs 1 (by omega)
        have a2 := hcs 2 (by omega)
        have a3 := hcs 3 (by omega)
        have a4 := hcs 4 (by omega)
        rw [← hb.cell (p := ⟨g, _, none⟩) hgl] at a0 a1 a2 a3 a4
        simp at a0 a1 a2 a3 a4
        clear hb hcs hat hex hcl6
        have hrb : r ≤ 1048576 := by have := hrs.out; omega
        have hst := sum_take_succ (wtBd d) es k x hxk
        have HST : Hid (((es.take (k + 1)).map (wtBd d)).sum = ((es.take k).map (wtBd d)).sum + wtBd d x) := hst
        have hle := sum_take_le (wtBd d) es (k + 1)
        have HLE : Hid (((es.take (k + 1)).map (wtBd d)).sum ≤ (es.map (wtBd d)).sum) := hle
        clear hst hle
        generalize hwx : wtBd d x = y at *
        have HY : Hid (wtBd d x = y) := hwx
        by_cases hy : r < y
        · have hr : leftOf left (wtS (wtBd d) es) = -1 := leftOf_lt (by unfold wtS; have := hrs.out; have := HLE.out; have := HST.out; rw [HN.out]; omega)
          have HR : Hid (leftOf left (wtS (wtBd d) es) = -1) := hr
          have hr2 : leftOf r y = -1 := leftOf_lt hy
          clear hr hwx
          go_wp2_with (go_at_call 51; go_must (refine (hE _ _ x r ⟨_, rfl, hex'⟩ hrb).mono ?_; rintro e w1 ⟨rfl, hb1⟩; rw [HY.out, hr2]; have HB1 : Hid _ := hb1; clear hb1))
          go_ret
          exact ⟨by rw [HR.out]; rfl, HB.out.trans (HB1.out.mono HB.out.size)⟩
        · have hr2 : leftOf r y = ((r - y : Nat) : Int) := leftOf_ge (by omega)
          clear hwx
          go_wp2_with (go_at_call 51; go_must (refine (hE _ _ x r ⟨_, rfl, hex'⟩ hrb).mono ?_; rintro e w1 ⟨rfl, hb1⟩; rw [HY.out, hr2]; have HB1 : Hid _ := hb1; clear hb1))
          exact ⟨⟨k + 1, r - y, by omega, by go_num, rfl, (by have := hrs.out; have := HST.out; show r - y + n + _ = left; omega), HB.out.trans (HB1.out.mono HB.out.size)⟩, by simp [intOf]; omega⟩
      · have hr : leftOf left (wtS (wtBd d) es) = (r : Int) := by
          have h1 := hrs.out
          rw [List.take_of_length_le (by rw [HN.out]; omega)] at h1
          rw [leftOf_ge (by unfold wtS; rw [HN.out]; omega)]
          unfold wtS; rw [HN.out]; omega
        have HR : Hid (leftOf left (wtS (wtBd d) es) = (r : Int)) := hr
        clear hr
        go_wp2
        go_ret
        exact ⟨by rw [HR.out]; rfl, HB.out⟩

set_option maxHeartbeats 2000000 in
theorem szBind_of {d : Nat} (h1 : SzC 12 (fun w v e => ∃ cs, v = .agg cs.toArray ∧ HVa w (fun g => g < N) d cs e) (wtVa d)) :
    SzC 51 (fun w v e => ∃ cs, v = .agg cs.toArray ∧ HBd w (fun g => g < N) d cs e) (wtBd d) := by
  intro w v e left h hl
  obtain ⟨cs, rfl, vs, rfl, ht, hks⟩ := h
  have h := hks.shape
  obtain ⟨sk, sn, st, p1, n1, q1, rfl⟩ := h
  have hb0 : e.name.size ≤ 9223372036854775807 := by have := ht; unfold okS maxLen at this; omega
  have hal : SameOn (fun g => g < N) w (w.alloc (.cells #[.string e.name, .int .i64 sk, .int .i64 sn, .string st, .slice p1 n1 q1] 94)) := SameOn.of_below ((Below.refl _ _).alloc (Nat.le_refl _) _)
  replace hks := hks.mono hal (fun _ h => h)
  have HW : Hid (wtBd d e = e.name.size + wtVa d e.val) := rfl
  generalize wtBd d e = W at *
  have hx0 : ∃ x0 : Nat, e.name.size = x0 := ⟨_, rfl⟩
  obtain ⟨x0, hx0⟩ := hx0
  rw [hx0] at hb0
  generalize hx1 : wtVa d e.val = x1 at *
  have HX1 : Hid (wtVa d e.val = x1) := hx1
  clear hx1
  by_cases t0 : left < x0
  · have HR : Hid (leftOf left W = -1) := by
      have := HW.out
      show leftOf left W = _
      exact leftOf_lt (by omega)
    clear HW
    go_enter Try.func51, Try.ntmps51
    go_wp2
    go_ret
    exact ⟨by rw [HR.out]; first | rfl | (congr 2; omega) | (simp; omega), ((Below.refl _ _).alloc (Nat.le_refl _) _)⟩
  by_cases t1 : left - x0 < x1
  · have HR : Hid (leftOf left W = -1) := by
      have := HW.out
      show leftOf left W = _
      exact leftOf_lt (by omega)
    have hr1 : leftOf (left - x0) x1 = -1 := leftOf_lt t1
    clear HW
    go_enter Try.func51, Try.ntmps51
    go_wp2_with (first | (go_at_call 12; go_must (refine (h1.at (w := _) (v := _) e.val _ (left - x0) (by omega) ⟨_, rfl, hks⟩ (by omega)).mono ?_; rintro e w1 ⟨rfl, hb1⟩; rw [HX1.out, hr1]; have HB1 : Hid _ := hb1; clear hb1)) )
    go_ret
    exact ⟨by rw [HR.out]; first | rfl | (congr 2; omega) | (simp; omega), (((Below.refl _ _).alloc (Nat.le_refl _) _).trans (HB1.out.mono ((Below.refl _ _).alloc (Nat.le_refl _) _).size))⟩
  have HR : Hid (leftOf left W = ((left - x0 - x1 : Nat) : Int)) := by
    have := HW.out
    show leftOf left W = _
    rw [leftOf_ge (by omega)]; omega
  have hr1 : leftOf (left - x0) x1 = ((left - x0 - x1 : Nat) : Int) := by rw [leftOf_ge (by omega)]
  clear HW
  go_enter Try.func51, Try.ntmps51
  go_wp2_with (first | (go_at_call 12; go_must (refine (h1.at (w := _) (v := _) e.val _ (left - x0) (by omega) ⟨_, rfl, hks⟩ (by omega)).mono ?_; rintro e w1 ⟨rfl, hb1⟩; rw [HX1.out, hr1]; have HB1 : Hid _ := hb1; clear hb1)) )
  go_ret
  exact ⟨by rw [HR.out]; first | rfl | (congr 2; omega) | (simp; omega), (((Below.refl _ _).alloc (Nat.le_refl _) _).trans (HB1.out.mono ((Below.refl _ _).alloc (Nat.le_refl _) _).size))⟩

theorem szBindS_all (d : Nat) : SzC 18 (fun w v es => Rows w (fun g => g < N) 5 (HBd w (fun g => g < N) d) v es) (wtS (wtBd d)) := szBindS_of (szBind_of (szVal_all d))
end

set_option maxHeartbeats 2000000 in
theorem eqBindS_of {d : Nat} (hE : EqC 60 (fun w v e => ∃ cs, v = .agg cs.toArray ∧ HBd w All d cs e)) :
    EqC 23 (fun w v es => Rows w All 5 (HBd w All d) v es) := by
  intro w v1 v2 es h1 h2
  obtain ⟨p, cap, rfl, hcl, hcm, hx⟩ := h1
  obtain ⟨q, cap', rfl, hcl', hcm', hy⟩ := h2
  generalize hn : es.length = n at *
  have HN : Hid (es.length = n) := hn
  have HX : Hid _ := hx
  have HY : Hid _ := hy
  have hnb : n ≤ 9223372036854775807 := by unfold maxLen at hcm; omega
  clear hx hy hn
  go_enter Try.func23, Try.ntmps23
  go_wp2
  go_loopw [5] (fun iv wr => ∃ k : Nat, k ≤ n ∧ iv = .int .i64 k ∧ Below w.heap.size w wr) (fun iv _ => n - (intOf iv).toNat)
  case atStart => exact ⟨0, Nat.zero_le _, rfl, Below.refl _ _⟩
  case round =>
    obtain ⟨k, hk, rfl, hb⟩ := hrel
    have HB : Hid (Below w.heap.size w wr) := hb
    by_cases hlt : k < n
    · obtain ⟨x, hxk⟩ : ∃ x, es[k]? = some x := ⟨es[k]'(by rw [HN.out]; exact hlt), List.getElem?_eq_getElem _⟩
      have hne : es ≠ [] := by intro h; rw [h] at hxk; simp at hxk
      obtain ⟨g, off, rfl, _, hgl, hat⟩ := HX.out hne
      obtain ⟨g', off', rfl, _, hgl', hat'⟩ := HY.out hne
      obtain ⟨cs, hcl6, hcs, hex⟩ := hat k x hxk
      obtain ⟨cs', hcl6', hcs', hex'⟩ := hat' k x hxk
      have E1 : ∀ w', SameOn All wr w' → HBd w' All d cs x := fun w' hw => hex.mono (SameOn.trans (SameOn.of_below hb) hw) (fun _ h => h)
      have E2 : ∀ w', SameOn All wr w' → HBd w' All d cs' x := fun w' hw => hex'.mono (SameOn.trans (SameOn.of_below hb) hw) (fun _ h => h)
      obtain ⟨c0, c1, c2, c3, c4, rfl⟩ := len5 hcl6
      obtain ⟨d0, d1, d2, d3, d4, rfl⟩ := len5 hcl6'
      have a0 := hcs 0 (by omega)
      have b0 := hcs' 0 (by omega)
      have a1 := hcs 1 (by omega)
      have b1 := hcs' 1 (by omega)
      have a2 := hcs 2 (by omega)
      have b2 := hcs' 2 (by omega)
      have a3 := hcs 3 (by omega)
      have b3 := hcs' 3 (by omega)
      have a4 := hcs 4 (by omega)
      have b4 := hcs' 4 (by omega)
      rw [← hb.cell (p := ⟨g, _, none⟩) hgl] at a0 a1 a2 a3 a4
      rw [← hb.cell (p := ⟨g', _, none⟩) hgl'] at b0 b1 b2 b3 b4
      simp at a0 a1 a2 a3 a4 b0 b1 b2 b3 b4
      clear hb hcs hat hex hcl6 hcs' hat' hex' hcl6' hne
      go_wp2
      go_region_with ((go_at_call 60; refine (hE _ _ _ x ⟨_, rfl, E1 _ (by exact ⟨Nat.le_refl _, fun _ _ _ => rfl⟩)⟩ ⟨_, rfl, E2 _ (by exact ⟨Nat.le_refl _, fun _ _ _ => rfl⟩)⟩).mono ?_; rintro e w1 ⟨rfl, hb1⟩; have HB1 : Hid _ := hb1; clear hb1))
      all_goals go_wp2
      all_goals
        have hbe : Below w.heap.size w w1 := by
          refine Below.trans ?_ (HB1.out.mono (by exact HB.out.size))
          repeat (first | exact HB.out | apply Below.drew)
        exact ⟨⟨k + 1, by omega, by go_num, hbe⟩, by simp [intOf]; omega⟩
    · go_wp2
      go_ret
      exact ⟨rfl, HB.out⟩

set_option maxHeartbeats 2000000 in
theorem eqBind_of {d : Nat} (h0 : EqC 16 (fun w v e => ∃ cs, v = .agg cs.toArray ∧ HVa w All d cs e)) :
    EqC 60 (fun w v e => ∃ cs, v = .agg cs.toArray ∧ HBd w All d cs e) := by
  intro w v1 v2 e i1 i2
  obtain ⟨cs, rfl, vs, rfl, p1, f0⟩ := i1
  obtain ⟨cs, rfl, vs', rfl, p1', f0'⟩ := i2
  obtain ⟨sk, sn, st, pa, na, qa, rfl⟩ := f0.shape
  obtain ⟨sk', sn', st', pa', na', qa', rfl⟩ := f0'.shape
  have g0 : ∀ w', SameOn All w w' → HVa w' All d [.int .i64 sk, .int .i64 sn, .string st, .slice pa na qa] e.val := fun w' hw => f0.mono hw (fun _ h => h)
  have g0' : ∀ w', SameOn All w w' → HVa w' All d [.int .i64 sk', .int .i64 sn', .string st', .slice pa' na' qa'] e.val := fun w' hw => f0'.mono hw (fun _ h => h)
  clear f0 f0'
  have hal : Below w.heap.size w ((w.alloc (.cells #[.string e.name, .int .i64 sk, .int .i64 sn, .string st, .slice pa na qa] 99)).alloc (.cells #[.string e.name, .int .i64 sk', .int .i64 sn', .string st', .slice pa' na' qa'] 99)) := ((Below.refl _ _).alloc (Nat.le_refl _) _).alloc (by simp) _
  have HA : Hid (Below w.heap.size w ((w.alloc (.cells #[.string e.name, .int .i64 sk, .int .i64 sn, .string st, .slice pa na qa] 99)).alloc (.cells #[.string e.name, .int .i64 sk', .int .i64 sn', .string st', .slice pa' na' qa'] 99))) := hal
  clear hal
  go_enter Try.func60, Try.ntmps60
  go_wp2_with (first | (go_at_call 16; (refine (h0 _ _ _ e.val ⟨_, rfl, g0 _ (SameOn.of_below HA.out)⟩ ⟨_, rfl, g0' _ (SameOn.of_below HA.out)⟩).mono ?_; rintro e w0 ⟨rfl, hb0⟩; have HB0 : Hid _ := hb0; clear hb0)))
  go_ret
  exact ⟨rfl, (HA.out.trans (HB0.out.mono HA.out.size))⟩

theorem eqBindS_all (d : Nat) : EqC 23 (fun w v es => Rows w All 5 (HBd w All d) v es) := eqBindS_of (eqBind_of (eqVal_all d))
end Go.Proofs.Ytkcajmkagbgfnaa
