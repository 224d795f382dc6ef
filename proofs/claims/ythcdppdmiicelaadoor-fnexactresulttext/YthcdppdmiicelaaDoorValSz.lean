/-
  How great a value is: the laws' szVal tells its weight, and -1 where that is more than what is left.
-/
import Derived.Test.YthcdppdmiicelaaDoorValTree
namespace Go.Proofs.YthcdppdmiicelaaDoor
open Go.ChangeShapes Go.WideShapes Go.ChangeAt Go.RowKit
set_option linter.unusedVariables false

def wtVa : Nat → Va → Nat
  | 0, _ => 0
  | d + 1, e => e.text.size + wtS (wtVa d) e.kids

variable {N : Nat}

set_option maxHeartbeats 2000000 in
theorem szValS_of {d : Nat} (hE : SzC 6 (fun w v e => ∃ cs, v = .agg cs.toArray ∧ HVa w (fun g => g < N) d cs e) (wtVa d)) :
    SzC 18 (fun w v es => Rows w (fun g => g < N) 4 (HVa w (fun g => g < N) d) v es) (wtS (wtVa d)) := by
  intro w v es left h hl
  obtain ⟨p, cap, rfl, hcl, hcm, hx⟩ := h
  generalize hn : es.length = n at *
  have HN : Hid (es.length = n) := hn
  have HX : Hid _ := hx
  have hnb : n ≤ 9223372036854775807 := by unfold maxLen at hcm; omega
  clear hx hn
  by_cases h0 : left < n
  · have hr : leftOf left (wtS (wtVa d) es) = -1 := leftOf_lt (by unfold wtS; rw [HN.out]; omega)
    have HR : Hid (leftOf left (wtS (wtVa d) es) = -1) := hr
    clear hr
    go_enter Tryd.func18, Tryd.ntmps18
    go_wp2
    go_ret
    exact ⟨by rw [HR.out]; rfl, Below.refl _ _⟩
  · go_enter Tryd.func18, Tryd.ntmps18
    go_wp2
    go_loopw [1, 5] (fun lv iv wr => ∃ k r : Nat, k ≤ n ∧ iv = .int .i64 k ∧ lv = .int .i64 r ∧ Hid (r + n + ((es.take k).map (wtVa d)).sum = left) ∧ Below w.heap.size w wr) (fun _ iv _ => n - (intOf iv).toNat)
    case atStart => exact ⟨0, left - n, Nat.zero_le _, rfl, by go_num, (by show left - n + n + _ = left; simp; omega), Below.refl _ _⟩
    case round =>
      obtain ⟨k, r, hk, rfl, rfl, hrs, hb⟩ := hrel
      have HB : Hid (Below w.heap.size w wr) := hb
      by_cases hlt : k < n
      · obtain ⟨x, hxk⟩ : ∃ x, es[k]? = some x := ⟨es[k]'(by rw [HN.out]; exact hlt), List.getElem?_eq_getElem _⟩
        obtain ⟨g, off, rfl, hg, hgl, hat⟩ := HX.out (by intro h; rw [h] at hxk; simp at hxk)
        obtain ⟨cs, hcl6, hcs, hex⟩ := hat k x hxk
        have hex' : HVa wr (fun g => g < N) d cs x := hex.mono (SameOn.of_below hb) (fun _ h => h)
        obtain ⟨c0, c1, c2, c3, rfl⟩ := len4 hcl6
        have a0 := hcs 0 (by omega)
        have a1 := hcs 1 (by omega)
        have a2 := hcs 2 (by omega)
        have a3 := hcs 3 (by omega)
        rw [← hb.cell (p := ⟨g, _, none⟩) hgl] at a0 a1 a2 a3
        simp at a0 a1 a2 a3
        clear hb hcs hat hex hcl6
        have hrb : r ≤ 1048576 := by have := hrs.out; omega
        have hst := sum_take_succ (wtVa d) es k x hxk
        have HST : Hid (((es.take (k + 1)).map (wtVa d)).sum = ((es.take k).map (wtVa d)).sum + wtVa d x) := hst
        have hle := sum_take_le (wtVa d) es (k + 1)
        have HLE : Hid (((es.take (k + 1)).map (wtVa d)).sum ≤ (es.map (wtVa d)).sum) := hle
        clear hst hle
        generalize hwx : wtVa d x = y at *
        have HY : Hid (wtVa d x = y) := hwx
        by_cases hy : r < y
        · have hr : leftOf left (wtS (wtVa d) es) = -1 := leftOf_lt (by unfold wtS; have := hrs.out; have := HLE.out; have := HST.out; rw [HN.out]; omega)
          have HR : Hid (leftOf left (wtS (wtVa d) es) = -1) := hr
          have hr2 : leftOf r y = -1 := leftOf_lt hy
          clear hr hwx
          go_wp2_with (go_at_call 6; go_must (refine (hE _ _ x r ⟨_, rfl, hex'⟩ hrb).mono ?_; rintro e w1 ⟨rfl, hb1⟩; rw [HY.out, hr2]; have HB1 : Hid _ := hb1; clear hb1))
          go_ret
          exact ⟨by rw [HR.out]; rfl, HB.out.trans (HB1.out.mono HB.out.size)⟩
        · have hr2 : leftOf r y = ((r - y : Nat) : Int) := leftOf_ge (by omega)
          clear hwx
          go_wp2_with (go_at_call 6; go_must (refine (hE _ _ x r ⟨_, rfl, hex'⟩ hrb).mono ?_; rintro e w1 ⟨rfl, hb1⟩; rw [HY.out, hr2]; have HB1 : Hid _ := hb1; clear hb1))
          exact ⟨⟨k + 1, r - y, by omega, by go_num, rfl, (by have := hrs.out; have := HST.out; show r - y + n + _ = left; omega), HB.out.trans (HB1.out.mono HB.out.size)⟩, by simp [intOf]; omega⟩
      · have hr : leftOf left (wtS (wtVa d) es) = (r : Int) := by
          have h1 := hrs.out
          rw [List.take_of_length_le (by rw [HN.out]; omega)] at h1
          rw [leftOf_ge (by unfold wtS; rw [HN.out]; omega)]
          unfold wtS; rw [HN.out]; omega
        have HR : Hid (leftOf left (wtS (wtVa d) es) = (r : Int)) := hr
        clear hr
        go_wp2
        go_ret
        exact ⟨by rw [HR.out]; rfl, HB.out⟩

set_option maxHeartbeats 2000000 in
theorem szVal_of {d : Nat} (h1 : SzC 18 (fun w v es => Rows w (fun g => g < N) 4 (HVa w (fun g => g < N) d) v es) (wtS (wtVa d))) :
    SzC 6 (fun w v e => ∃ cs, v = .agg cs.toArray ∧ HVa w (fun g => g < N) (d + 1) cs e) (wtVa (d + 1)) := by
  intro w v e left h hl
  obtain ⟨cs, rfl, kv, rfl, hk, hn, ht, hks⟩ := h
  have hb0 : e.text.size ≤ 9223372036854775807 := by have := ht; unfold okS maxLen at this; omega
  have hal : SameOn (fun g => g < N) w (w.alloc (.cells #[.int .i64 e.kind, .int .i64 e.n, .string e.text, kv] 24)) := SameOn.of_below ((Below.refl _ _).alloc (Nat.le_refl _) _)
  replace hks := hks.mono hal (fun _ h => h) (fun _ _ _ => HVa.mono hal (fun _ h => h))
  have HW : Hid (wtVa (d + 1) e = e.text.size + wtS (wtVa d) e.kids) := rfl
  generalize wtVa (d + 1) e = W at *
  have hx0 : ∃ x0 : Nat, e.text.size = x0 := ⟨_, rfl⟩
  obtain ⟨x0, hx0⟩ := hx0
  rw [hx0] at hb0
  generalize hx1 : wtS (wtVa d) e.kids = x1 at *
  have HX1 : Hid (wtS (wtVa d) e.kids = x1) := hx1
  clear hx1
  by_cases t0 : left < x0
  · have HR : Hid (leftOf left W = -1) := by
      have := HW.out
      show leftOf left W = _
      exact leftOf_lt (by omega)
    clear HW
    go_enter Tryd.func6, Tryd.ntmps6
    go_wp2
    go_ret
    exact ⟨by rw [HR.out]; first | rfl | (congr 2; omega) | (simp; omega), ((Below.refl _ _).alloc (Nat.le_refl _) _)⟩
  by_cases t1 : left - x0 < x1
  · have HR : Hid (leftOf left W = -1) := by
      have := HW.out
      show leftOf left W = _
      exact leftOf_lt (by omega)
    have hr1 : leftOf (left - x0) x1 = -1 := leftOf_lt t1
    clear HW
    go_enter Tryd.func6, Tryd.ntmps6
    go_wp2_with (first | (go_at_call 18; go_must (refine (h1.at (w := _) (v := _) e.kids _ (left - x0) (by omega) hks (by omega)).mono ?_; rintro e w1 ⟨rfl, hb1⟩; rw [HX1.out, hr1]; have HB1 : Hid _ := hb1; clear hb1)) )
    go_ret
    exact ⟨by rw [HR.out]; first | rfl | (congr 2; omega) | (simp; omega), (((Below.refl _ _).alloc (Nat.le_refl _) _).trans (HB1.out.mono ((Below.refl _ _).alloc (Nat.le_refl _) _).size))⟩
  have HR : Hid (leftOf left W = ((left - x0 - x1 : Nat) : Int)) := by
    have := HW.out
    show leftOf left W = _
    rw [leftOf_ge (by omega)]; omega
  have hr1 : leftOf (left - x0) x1 = ((left - x0 - x1 : Nat) : Int) := by rw [leftOf_ge (by omega)]
  clear HW
  go_enter Tryd.func6, Tryd.ntmps6
  go_wp2_with (first | (go_at_call 18; go_must (refine (h1.at (w := _) (v := _) e.kids _ (left - x0) (by omega) hks (by omega)).mono ?_; rintro e w1 ⟨rfl, hb1⟩; rw [HX1.out, hr1]; have HB1 : Hid _ := hb1; clear hb1)) )
  go_ret
  exact ⟨by rw [HR.out]; first | rfl | (congr 2; omega) | (simp; omega), (((Below.refl _ _).alloc (Nat.le_refl _) _).trans (HB1.out.mono ((Below.refl _ _).alloc (Nat.le_refl _) _).size))⟩

theorem szVal_all : ∀ d, SzC 6 (fun w v e => ∃ cs, v = .agg cs.toArray ∧ HVa w (fun g => g < N) d cs e) (wtVa d)
  | 0 => fun w v x left ⟨_, _, h⟩ _ => h.elim
  | d + 1 => szVal_of (szValS_of (szVal_all d))
end Go.Proofs.YthcdppdmiicelaaDoor
