/-
  Texts of the proof, packed: Size, ModsSz.
-/
import Derived.Test.YtoknolophmhlgaaGreatDoorPackG
import Derived.Test.YtoknolophmhlgaaGreatDoorPackA
/-
  How great a module is: the laws' szModule tells its weight, and -1 where that is more than what is left.
-/
namespace Go.Proofs.YtoknolophmhlgaaGreatDoor
open Go.ChangeShapes Go.WideShapes Go.ChangeAt Go.RowKit
set_option linter.unusedVariables false

variable {N : Nat}

set_option maxHeartbeats 2000000 in
theorem szExpS_of {d : Nat} (hE : SzC 116 (fun w v e => ∃ cs, v = .agg cs.toArray ∧ HEx w (fun g => g < N) d cs e) (wtEx d)) :
    SzC 102 (fun w v es => Rows w (fun g => g < N) 6 (HEx w (fun g => g < N) d) v es) (wtS (wtEx d)) := by
  intro w v es left h hl
  obtain ⟨p, cap, rfl, hcl, hcm, hx⟩ := h
  generalize hn : es.length = n at *
  have HN : Hid (es.length = n) := hn
  have HX : Hid _ := hx
  have hnb : n ≤ 9223372036854775807 := by unfold maxLen at hcm; omega
  clear hx hn
  by_cases h0 : left < n
  · have hr : leftOf left (wtS (wtEx d) es) = -1 := leftOf_lt (by unfold wtS; rw [HN.out]; omega)
    have HR : Hid (leftOf left (wtS (wtEx d) es) = -1) := hr
    clear hr
    go_enter Tryz.func102, Tryz.ntmps102
    go_wp2
    go_ret
    exact ⟨by rw [HR.out]; rfl, Below.refl _ _⟩
  · go_enter Tryz.func102, Tryz.ntmps102
    go_wp2
    go_loopw [1, 5] (fun lv iv wr => ∃ k r : Nat, k ≤ n ∧ iv = .int .i64 k ∧ lv = .int .i64 r ∧ Hid (r + n + ((es.take k).map (wtEx d)).sum = left) ∧ Below w.heap.size w wr) (fun _ iv _ => n - (intOf iv).toNat)
    case atStart => exact ⟨0, left - n, Nat.zero_le _, rfl, by go_num, (by show left - n + n + _ = left; simp; omega), Below.refl _ _⟩
    case round =>
      obtain ⟨k, r, hk, rfl, rfl, hrs, hb⟩ := hrel
      have HB : Hid (Below w.heap.size w wr) := hb
      by_cases hlt : k < n
      · obtain ⟨x, hxk⟩ : ∃ x, es[k]? = some x := ⟨es[k]'(by rw [HN.out]; exact hlt), List.getElem?_eq_getElem _⟩
        obtain ⟨g, off, rfl, hg, hgl, hat⟩ := HX.out (by intro h; rw [h] at hxk; simp at hxk)
        obtain ⟨cs, hcl6, hcs, hex⟩ := hat k x hxk
        have hex' : HEx wr (fun g => g < N) d cs x := hex.mono (SameOn.of_below hb) (fun _ h => h)
        obtain ⟨c0, c1, c2, c3, c4, c5, rfl⟩ := len6 hcl6
        have a0 := hcs 0 (by omega)
        have a1 := hcs 1 (by omega)
        have a2 := hcs 2 (by omega)
        have a3 := hcs 3 (by omega)
        have a4 := hcs 4 (by omega)
        have a5 := hcs 5 (by omega)
        rw [← hb.cell (p := ⟨g, _, none⟩) hgl] at a0 a1 a2 a3 a4 a5
        simp at a0 a1 a2 a3 a4 a5
        clear hb hcs hat hex hcl6
        have hrb : r ≤ 1048576 := by have := hrs.out; omega
        have hst := sum_take_succ (wtEx d) es k x hxk
        have HST : Hid (((es.take (k + 1)).map (wtEx d)).sum = ((es.take k).map (wtEx d)).sum + wtEx d x) := hst
        have hle := sum_take_le (wtEx d) es (k + 1)
        have HLE : Hid (((es.take (k + 1)).map (wtEx d)).sum ≤ (es.map (wtEx d)).sum) := hle
        clear hst hle
        generalize hwx : wtEx d x = y at *
        have HY : Hid (wtEx d x = y) := hwx
        by_cases hy : r < y
        · have hr : leftOf left (wtS (wtEx d) es) = -1 := leftOf_lt (by unfold wtS; have := hrs.out; have := HLE.out; have := HST.out; rw [HN.out]; omega)
          have HR : Hid (leftOf left (wtS (wtEx d) es) = -1) := hr
          have hr2 : leftOf r y = -1 := leftOf_lt hy
          clear hr hwx
          go_wp2_with (go_at_call 116; go_must (refine (hE _ _ x r ⟨_, rfl, hex'⟩ hrb).mono ?_; rintro e w1 ⟨rfl, hb1⟩; rw [HY.out, hr2]; have HB1 : Hid _ := hb1; clear hb1))
          go_ret
          exact ⟨by rw [HR.out]; rfl, HB.out.trans (HB1.out.mono HB.out.size)⟩
        · have hr2 : leftOf r y = ((r - y : Nat) : Int) := leftOf_ge (by omega)
          clear hwx
          go_wp2_with (go_at_call 116; go_must (refine (hE _ _ x r ⟨_, rfl, hex'⟩ hrb).mono ?_; rintro e w1 ⟨rfl, hb1⟩; rw [HY.out, hr2]; have HB1 : Hid _ := hb1; clear hb1))
          exact ⟨⟨k + 1, r - y, by omega, by go_num, rfl, (by have := hrs.out; have := HST.out; show r - y + n + _ = left; omega), HB.out.trans (HB1.out.mono HB.out.size)⟩, by simp [intOf]; omega⟩
      · have hr : leftOf left (wtS (wtEx d) es) = (r : Int) := by
          have h1 := hrs.out
          rw [List.take_of_length_le (by rw [HN.out]; omega)] at h1
          rw [leftOf_ge (by unfold wtS; rw [HN.out]; omega)]
          unfold wtS; rw [HN.out]; omega
        have HR : Hid (leftOf left (wtS (wtEx d) es) = (r : Int)) := hr
        clear hr
        go_wp2
        go_ret
        exact ⟨by rw [HR.out]; rfl, HB.out⟩

set_option maxHeartbeats 2000000 in
theorem szClauseS_of {d : Nat} (hE : SzC 87 (fun w v e => ∃ cs, v = .agg cs.toArray ∧ HCl w (fun g => g < N) (HEx w (fun g => g < N) d) cs e) (wtCl (wtEx d))) :
    SzC 69 (fun w v es => Rows w (fun g => g < N) 2 (HCl w (fun g => g < N) (HEx w (fun g => g < N) d)) v es) (wtS (wtCl (wtEx d))) := by
  intro w v es left h hl
  obtain ⟨p, cap, rfl, hcl, hcm, hx⟩ := h
  generalize hn : es.length = n at *
  have HN : Hid (es.length = n) := hn
  have HX : Hid _ := hx
  have hnb : n ≤ 9223372036854775807 := by unfold maxLen at hcm; omega
  clear hx hn
  by_cases h0 : left < n
  · have hr : leftOf left (wtS (wtCl (wtEx d)) es) = -1 := leftOf_lt (by unfold wtS; rw [HN.out]; omega)
    have HR : Hid (leftOf left (wtS (wtCl (wtEx d)) es) = -1) := hr
    clear hr
    go_enter Tryz.func69, Tryz.ntmps69
    go_wp2
    go_ret
    exact ⟨by rw [HR.out]; rfl, Below.refl _ _⟩
  · go_enter Tryz.func69, Tryz.ntmps69
    go_wp2
    go_loopw [1, 5] (fun lv iv wr => ∃ k r : Nat, k ≤ n ∧ iv = .int .i64 k ∧ lv = .int .i64 r ∧ Hid (r + n + ((es.take k).map (wtCl (wtEx d))).sum = left) ∧ Below w.heap.size w wr) (fun _ iv _ => n - (intOf iv).toNat)
    case atStart => exact ⟨0, left - n, Nat.zero_le _, rfl, by go_num, (by show left - n + n + _ = left; simp; omega), Below.refl _ _⟩
    case round =>
      obtain ⟨k, r, hk, rfl, rfl, hrs, hb⟩ := hrel
      have HB : Hid (Below w.heap.size w wr) := hb
      by_cases hlt : k < n
      · obtain ⟨x, hxk⟩ : ∃ x, es[k]? = some x := ⟨es[k]'(by rw [HN.out]; exact hlt), List.getElem?_eq_getElem _⟩
        obtain ⟨g, off, rfl, hg, hgl, hat⟩ := HX.out (by intro h; rw [h] at hxk; simp at hxk)
        obtain ⟨cs, hcl6, hcs, hex⟩ := hat k x hxk
        have hex' : HCl wr (fun g => g < N) (HEx wr (fun g => g < N) d) cs x := hex.mono (SameOn.of_below hb) (fun _ h => h) (fun _ _ => HEx.mono (SameOn.of_below hb) (fun _ h => h))
        obtain ⟨c0, c1, rfl⟩ := len2 hcl6
        have a0 := hcs 0 (by omega)
        have a1 := hcs 1 (by omega)
        rw [← hb.cell (p := ⟨g, _, none⟩) hgl] at a0 a1
        simp at a0 a1
        clear hb hcs hat hex hcl6
        have hrb : r ≤ 1048576 := by have := hrs.out; omega
        have hst := sum_take_succ (wtCl (wtEx d)) es k x hxk
        have HST : Hid (((es.take (k + 1)).map (wtCl (wtEx d))).sum = ((es.take k).map (wtCl (wtEx d))).sum + wtCl (wtEx d) x) := hst
        have hle := sum_take_le (wtCl (wtEx d)) es (k + 1)
        have HLE : Hid (((es.take (k + 1)).map (wtCl (wtEx d))).sum ≤ (es.map (wtCl (wtEx d))).sum) := hle
        clear hst hle
        generalize hwx : wtCl (wtEx d) x = y at *
        have HY : Hid (wtCl (wtEx d) x = y) := hwx
        by_cases hy : r < y
        · have hr : leftOf left (wtS (wtCl (wtEx d)) es) = -1 := leftOf_lt (by unfold wtS; have := hrs.out; have := HLE.out; have := HST.out; rw [HN.out]; omega)
          have HR : Hid (leftOf left (wtS (wtCl (wtEx d)) es) = -1) := hr
          have hr2 : leftOf r y = -1 := leftOf_lt hy
          clear hr hwx
          go_wp2_with (go_at_call 87; go_must (refine (hE _ _ x r ⟨_, rfl, hex'⟩ hrb).mono ?_; rintro e w1 ⟨rfl, hb1⟩; rw [HY.out, hr2]; have HB1 : Hid _ := hb1; clear hb1))
          go_ret
          exact ⟨by rw [HR.out]; rfl, HB.out.trans (HB1.out.mono HB.out.size)⟩
        · have hr2 : leftOf r y = ((r - y : Nat) : Int) := leftOf_ge (by omega)
          clear hwx
          go_wp2_with (go_at_call 87; go_must (refine (hE _ _ x r ⟨_, rfl, hex'⟩ hrb).mono ?_; rintro e w1 ⟨rfl, hb1⟩; rw [HY.out, hr2]; have HB1 : Hid _ := hb1; clear hb1))
          exact ⟨⟨k + 1, r - y, by omega, by go_num, rfl, (by have := hrs.out; have := HST.out; show r - y + n + _ = left; omega), HB.out.trans (HB1.out.mono HB.out.size)⟩, by simp [intOf]; omega⟩
      · have hr : leftOf left (wtS (wtCl (wtEx d)) es) = (r : Int) := by
          have h1 := hrs.out
          rw [List.take_of_length_le (by rw [HN.out]; omega)] at h1
          rw [leftOf_ge (by unfold wtS; rw [HN.out]; omega)]
          unfold wtS; rw [HN.out]; omega
        have HR : Hid (leftOf left (wtS (wtCl (wtEx d)) es) = (r : Int)) := hr
        clear hr
        go_wp2
        go_ret
        exact ⟨by rw [HR.out]; rfl, HB.out⟩

set_option maxHeartbeats 2000000 in
theorem szFunS_of {d : Nat} (hE : SzC 47 (fun w v e => ∃ cs, v = .agg cs.toArray ∧ HFn w (fun g => g < N) d cs e) (wtFn d)) :
    SzC 28 (fun w v es => Rows w (fun g => g < N) 3 (HFn w (fun g => g < N) d) v es) (wtS (wtFn d)) := by
  intro w v es left h hl
  obtain ⟨p, cap, rfl, hcl, hcm, hx⟩ := h
  generalize hn : es.length = n at *
  have HN : Hid (es.length = n) := hn
  have HX : Hid _ := hx
  have hnb : n ≤ 9223372036854775807 := by unfold maxLen at hcm; omega
  clear hx hn
  by_cases h0 : left < n
  · have hr : leftOf left (wtS (wtFn d) es) = -1 := leftOf_lt (by unfold wtS; rw [HN.out]; omega)
    have HR : Hid (leftOf left (wtS (wtFn d) es) = -1) := hr
    clear hr
    go_enter Tryz.func28, Tryz.ntmps28
    go_wp2
    go_ret
    exact ⟨by rw [HR.out]; rfl, Below.refl _ _⟩
  · go_enter Tryz.func28, Tryz.ntmps28
    go_wp2
    go_loopw [1, 5] (fun lv iv wr => ∃ k r : Nat, k ≤ n ∧ iv = .int .i64 k ∧ lv = .int .i64 r ∧ Hid (r + n + ((es.take k).map (wtFn d)).sum = left) ∧ Below w.heap.size w wr) (fun _ iv _ => n - (intOf iv).toNat)
    case atStart => exact ⟨0, left - n, Nat.zero_le _, rfl, by go_num, (by show left - n + n + _ = left; simp; omega), Below.refl _ _⟩
    case round =>
      obtain ⟨k, r, hk, rfl, rfl, hrs, hb⟩ := hrel
      have HB : Hid (Below w.heap.size w wr) := hb
      by_cases hlt : k < n
      · obtain ⟨x, hxk⟩ : ∃ x, es[k]? = some x := ⟨es[k]'(by rw [HN.out]; exact hlt), List.getElem?_eq_getElem _⟩
        obtain ⟨g, off, rfl, hg, hgl, hat⟩ := HX.out (by intro h; rw [h] at hxk; simp at hxk)
        obtain ⟨cs, hcl6, hcs, hex⟩ := hat k x hxk
        have hex' : HFn wr (fun g => g < N) d cs x := hex.mono (SameOn.of_below hb) (fun _ h => h)
        obtain ⟨c0, c1, c2, rfl⟩ := len3 hcl6
        have a0 := hcs 0 (by omega)
        have a1 := hcs 1 (by omega)
        have a2 := hcs 2 (by omega)
        rw [← hb.cell (p := ⟨g, _, none⟩) hgl] at a0 a1 a2
        simp at a0 a1 a2
        clear hb hcs hat hex hcl6
        have hrb : r ≤ 1048576 := by have := hrs.out; omega
        have hst := sum_take_succ (wtFn d) es k x hxk
        have HST : Hid (((es.take (k + 1)).map (wtFn d)).sum = ((es.take k).map (wtFn d)).sum + wtFn d x) := hst
        have hle := sum_take_le (wtFn d) es (k + 1)
        have HLE : Hid (((es.take (k + 1)).map (wtFn d)).sum ≤ (es.map (wtFn d)).sum) := hle
        clear hst hle
        generalize hwx : wtFn d x = y at *
        have HY : Hid (wtFn d x = y) := hwx
        by_cases hy : r < y
        · have hr : leftOf left (wtS (wtFn d) es) = -1 := leftOf_lt (by unfold wtS; have := hrs.out; have := HLE.out; have := HST.out; rw [HN.out]; omega)
          have HR : Hid (leftOf left (wtS (wtFn d) es) = -1) := hr
          have hr2 : leftOf r y = -1 := leftOf_lt hy
          clear hr hwx
          go_wp2_with (go_at_call 47; go_must (refine (hE _ _ x r ⟨_, rfl, hex'⟩ hrb).mono ?_; rintro e w1 ⟨rfl, hb1⟩; rw [HY.out, hr2]; have HB1 : Hid _ := hb1; clear hb1))
          go_ret
          exact ⟨by rw [HR.out]; rfl, HB.out.trans (HB1.out.mono HB.out.size)⟩
        · have hr2 : leftOf r y = ((r - y : Nat) : Int) := leftOf_ge (by omega)
          clear hwx
          go_wp2_with (go_at_call 47; go_must (refine (hE _ _ x r ⟨_, rfl, hex'⟩ hrb).mono ?_; rintro e w1 ⟨rfl, hb1⟩; rw [HY.out, hr2]; have HB1 : Hid _ := hb1; clear hb1))
          exact ⟨⟨k + 1, r - y, by omega, by go_num, rfl, (by have := hrs.out; have := HST.out; show r - y + n + _ = left; omega), HB.out.trans (HB1.out.mono HB.out.size)⟩, by simp [intOf]; omega⟩
      · have hr : leftOf left (wtS (wtFn d) es) = (r : Int) := by
          have h1 := hrs.out
          rw [List.take_of_length_le (by rw [HN.out]; omega)] at h1
          rw [leftOf_ge (by unfold wtS; rw [HN.out]; omega)]
          unfold wtS; rw [HN.out]; omega
        have HR : Hid (leftOf left (wtS (wtFn d) es) = (r : Int)) := hr
        clear hr
        go_wp2
        go_ret
        exact ⟨by rw [HR.out]; rfl, HB.out⟩

set_option maxHeartbeats 2000000 in
theorem szRefS_of {d : Nat} (hE : SzC 46 (fun w v e => ∃ cs, v = .agg cs.toArray ∧ HRf cs e) (wtRf)) :
    SzC 27 (fun w v es => Rows w (fun g => g < N) 2 (HRf) v es) (wtS (wtRf)) := by
  intro w v es left h hl
  obtain ⟨p, cap, rfl, hcl, hcm, hx⟩ := h
  generalize hn : es.length = n at *
  have HN : Hid (es.length = n) := hn
  have HX : Hid _ := hx
  have hnb : n ≤ 9223372036854775807 := by unfold maxLen at hcm; omega
  clear hx hn
  by_cases h0 : left < n
  · have hr : leftOf left (wtS (wtRf) es) = -1 := leftOf_lt (by unfold wtS; rw [HN.out]; omega)
    have HR : Hid (leftOf left (wtS (wtRf) es) = -1) := hr
    clear hr
    go_enter Tryz.func27, Tryz.ntmps27
    go_wp2
    go_ret
    exact ⟨by rw [HR.out]; rfl, Below.refl _ _⟩
  · go_enter Tryz.func27, Tryz.ntmps27
    go_wp2
    go_loopw [1, 5] (fun lv iv wr => ∃ k r : Nat, k ≤ n ∧ iv = .int .i64 k ∧ lv = .int .i64 r ∧ Hid (r + n + ((es.take k).map (wtRf)).sum = left) ∧ Below w.heap.size w wr) (fun _ iv _ => n - (intOf iv).toNat)
    case atStart => exact ⟨0, left - n, Nat.zero_le _, rfl, by go_num, (by show left - n + n + _ = left; simp; omega), Below.refl _ _⟩
    case round =>
      obtain ⟨k, r, hk, rfl, rfl, hrs, hb⟩ := hrel
      have HB : Hid (Below w.heap.size w wr) := hb
      by_cases hlt : k < n
      · obtain ⟨x, hxk⟩ : ∃ x, es[k]? = some x := ⟨es[k]'(by rw [HN.out]; exact hlt), List.getElem?_eq_getElem _⟩
        obtain ⟨g, off, rfl, hg, hgl, hat⟩ := HX.out (by intro h; rw [h] at hxk; simp at hxk)
        obtain ⟨cs, hcl6, hcs, hex⟩ := hat k x hxk
        have hex' : HRf cs x := hex
        obtain ⟨c0, c1, rfl⟩ := len2 hcl6
        have a0 := hcs 0 (by omega)
        have a1 := hcs 1 (by omega)
        rw [← hb.cell (p := ⟨g, _, none⟩) hgl] at a0 a1
        simp at a0 a1
        clear hb hcs hat hex hcl6
        have hrb : r ≤ 1048576 := by have := hrs.out; omega
        have hst := sum_take_succ (wtRf) es k x hxk
        have HST : Hid (((es.take (k + 1)).map (wtRf)).sum = ((es.take k).map (wtRf)).sum + wtRf x) := hst
        have hle := sum_take_le (wtRf) es (k + 1)
        have HLE : Hid (((es.take (k + 1)).map (wtRf)).sum ≤ (es.map (wtRf)).sum) := hle
        clear hst hle
        generalize hwx : wtRf x = y at *
        have HY : Hid (wtRf x = y) := hwx
        by_cases hy : r < y
        · have hr : leftOf left (wtS (wtRf) es) = -1 := leftOf_lt (by unfold wtS; have := hrs.out; have := HLE.out; have := HST.out; rw [HN.out]; omega)
          have HR : Hid (leftOf left (wtS (wtRf) es) = -1) := hr
          have hr2 : leftOf r y = -1 := leftOf_lt hy
          clear hr hwx
          go_wp2_with (go_at_call 46; go_must (refine (hE _ _ x r ⟨_, rfl, hex'⟩ hrb).mono ?_; rintro e w1 ⟨rfl, hb1⟩; rw [HY.out, hr2]; have HB1 : Hid _ := hb1; clear hb1))
          go_ret
          exact ⟨by rw [HR.out]; rfl, HB.out.trans (HB1.out.mono HB.out.size)⟩
        · have hr2 : leftOf r y = ((r - y : Nat) : Int) := leftOf_ge (by omega)
          clear hwx
          go_wp2_with (go_at_call 46; go_must (refine (hE _ _ x r ⟨_, rfl, hex'⟩ hrb).mono ?_; rintro e w1 ⟨rfl, hb1⟩; rw [HY.out, hr2]; have HB1 : Hid _ := hb1; clear hb1))
          exact ⟨⟨k + 1, r - y, by omega, by go_num, rfl, (by have := hrs.out; have := HST.out; show r - y + n + _ = left; omega), HB.out.trans (HB1.out.mono HB.out.size)⟩, by simp [intOf]; omega⟩
      · have hr : leftOf left (wtS (wtRf) es) = (r : Int) := by
          have h1 := hrs.out
          rw [List.take_of_length_le (by rw [HN.out]; omega)] at h1
          rw [leftOf_ge (by unfold wtS; rw [HN.out]; omega)]
          unfold wtS; rw [HN.out]; omega
        have HR : Hid (leftOf left (wtS (wtRf) es) = (r : Int)) := hr
        clear hr
        go_wp2
        go_ret
        exact ⟨by rw [HR.out]; rfl, HB.out⟩

set_option maxHeartbeats 2000000 in
theorem szExp_of {d : Nat} (h1 : SzC 102 (fun w v es => Rows w (fun g => g < N) 6 (HEx w (fun g => g < N) d) v es) (wtS (wtEx d))) (h2 : SzC 69 (fun w v es => Rows w (fun g => g < N) 2 (HCl w (fun g => g < N) (HEx w (fun g => g < N) d)) v es) (wtS (wtCl (wtEx d)))) :
    SzC 116 (fun w v e => ∃ cs, v = .agg cs.toArray ∧ HEx w (fun g => g < N) (d + 1) cs e) (wtEx (d + 1)) := by
  intro w v e left h hl
  obtain ⟨cs, rfl, kv, cv, rfl, hk, hn, ht, hm, hks, hcs⟩ := h
  have hb0 : e.text.size ≤ 9223372036854775807 := by have := ht; unfold okS maxLen at this; omega
  have hb1 : e.mod.size ≤ 9223372036854775807 := by have := hm; unfold okS maxLen at this; omega
  have hal : SameOn (fun g => g < N) w (w.alloc (.cells #[.int .i64 e.kind, .int .i64 e.n, .string e.text, .string e.mod, kv, cv] 156)) := SameOn.of_below ((Below.refl _ _).alloc (Nat.le_refl _) _)
  replace hks := hks.mono hal (fun _ h => h) (fun _ _ _ => HEx.mono hal (fun _ h => h))
  replace hcs := hcs.mono hal (fun _ h => h) (fun _ _ _ h => h.mono hal (fun _ h => h) (fun _ _ => HEx.mono hal (fun _ h => h)))
  have HW : Hid (wtEx (d + 1) e = e.text.size + e.mod.size + wtS (wtEx d) e.kids + wtS (wtCl (wtEx d)) e.clauses) := rfl
  generalize wtEx (d + 1) e = W at *
  have hx0 : ∃ x0 : Nat, e.text.size = x0 := ⟨_, rfl⟩
  obtain ⟨x0, hx0⟩ := hx0
  rw [hx0] at hb0
  have hx1 : ∃ x1 : Nat, e.mod.size = x1 := ⟨_, rfl⟩
  obtain ⟨x1, hx1⟩ := hx1
  rw [hx1] at hb1
  generalize hx2 : wtS (wtEx d) e.kids = x2 at *
  have HX2 : Hid (wtS (wtEx d) e.kids = x2) := hx2
  clear hx2
  generalize hx3 : wtS (wtCl (wtEx d)) e.clauses = x3 at *
  have HX3 : Hid (wtS (wtCl (wtEx d)) e.clauses = x3) := hx3
  clear hx3
  by_cases t0 : left < x0
  · have HR : Hid (leftOf left W = -1) := by
      have := HW.out
      show leftOf left W = _
      exact leftOf_lt (by omega)
    clear HW
    go_enter Tryz.func116, Tryz.ntmps116
    go_wp2
    go_ret
    exact ⟨by rw [HR.out]; first | rfl | (congr 2; omega) | (simp; omega), ((Below.refl _ _).alloc (Nat.le_refl _) _)⟩
  by_cases t1 : left - x0 < x1
  · have HR : Hid (leftOf left W = -1) := by
      have := HW.out
      show leftOf left W = _
      exact leftOf_lt (by omega)
    clear HW
    go_enter Tryz.func116, Tryz.ntmps116
    go_wp2
    go_ret
    exact ⟨by rw [HR.out]; first | rfl | (congr 2; omega) | (simp; omega), ((Below.refl _ _).alloc (Nat.le_refl _) _)⟩
  by_cases t2 : left - x0 - x1 < x2
  · have HR : Hid (leftOf left W = -1) := by
      have := HW.out
      show leftOf left W = _
      exact leftOf_lt (by omega)
    have hr2 : leftOf (left - x0 - x1) x2 = -1 := leftOf_lt t2
    clear HW
    go_enter Tryz.func116, Tryz.ntmps116
    go_wp2_with (first | (go_at_call 102; go_must (refine (h1.at (w := _) (v := _) e.kids _ (left - x0 - x1) (by omega) hks (by omega)).mono ?_; rintro e w2 ⟨rfl, hb2⟩; rw [HX2.out, hr2]; have HB2 : Hid _ := hb2; have hk2 := (hb2.cell (p := ⟨w.heap.size, 5, none⟩) (by simp)).trans (cell_new _ _ _ 5 cv rfl); clear hb2)) )
    go_ret
    exact ⟨by rw [HR.out]; first | rfl | (congr 2; omega) | (simp; omega), (((Below.refl _ _).alloc (Nat.le_refl _) _).trans (HB2.out.mono ((Below.refl _ _).alloc (Nat.le_refl _) _).size))⟩
  by_cases t3 : left - x0 - x1 - x2 < x3
  · have HR : Hid (leftOf left W = -1) := by
      have := HW.out
      show leftOf left W = _
      exact leftOf_lt (by omega)
    have hr2 : leftOf (left - x0 - x1) x2 = ((left - x0 - x1 - x2 : Nat) : Int) := by rw [leftOf_ge (by omega)]
    have hr3 : leftOf (left - x0 - x1 - x2) x3 = -1 := leftOf_lt t3
    clear HW
    go_enter Tryz.func116, Tryz.ntmps116
    go_wp2_with (first | (go_at_call 69; go_must (refine (h2.at (w := _) (v := _) e.clauses _ (left - x0 - x1 - x2) (by omega) (hcs.mono (SameOn.of_below HB2.out) (fun _ h => h) (fun _ _ _ h => h.mono (SameOn.of_below HB2.out) (fun _ h => h) (fun _ _ => HEx.mono (SameOn.of_below HB2.out) (fun _ h => h)))) (by omega)).mono ?_; rintro e w3 ⟨rfl, hb3⟩; rw [HX3.out, hr3]; have HB3 : Hid _ := hb3; clear hb3)) | (go_at_call 102; go_must (refine (h1.at (w := _) (v := _) e.kids _ (left - x0 - x1) (by omega) hks (by omega)).mono ?_; rintro e w2 ⟨rfl, hb2⟩; rw [HX2.out, hr2]; have HB2 : Hid _ := hb2; have hk2 := (hb2.cell (p := ⟨w.heap.size, 5, none⟩) (by simp)).trans (cell_new _ _ _ 5 cv rfl); clear hb2)) )
    go_ret
    exact ⟨by rw [HR.out]; first | rfl | (congr 2; omega) | (simp; omega), ((((Below.refl _ _).alloc (Nat.le_refl _) _).trans (HB2.out.mono ((Below.refl _ _).alloc (Nat.le_refl _) _).size)).trans (HB3.out.mono (((Below.refl _ _).alloc (Nat.le_refl _) _).trans (HB2.out.mono ((Below.refl _ _).alloc (Nat.le_refl _) _).size)).size))⟩
  have HR : Hid (leftOf left W = ((left - x0 - x1 - x2 - x3 : Nat) : Int)) := by
    have := HW.out
    show leftOf left W = _
    rw [leftOf_ge (by omega)]; omega
  have hr2 : leftOf (left - x0 - x1) x2 = ((left - x0 - x1 - x2 : Nat) : Int) := by rw [leftOf_ge (by omega)]
  have hr3 : leftOf (left - x0 - x1 - x2) x3 = ((left - x0 - x1 - x2 - x3 : Nat) : Int) := by rw [leftOf_ge (by omega)]
  clear HW
  go_enter Tryz.func116, Tryz.ntmps116
  go_wp2_with (first | (go_at_call 69; go_must (refine (h2.at (w := _) (v := _) e.clauses _ (left - x0 - x1 - x2) (by omega) (hcs.mono (SameOn.of_below HB2.out) (fun _ h => h) (fun _ _ _ h => h.mono (SameOn.of_below HB2.out) (fun _ h => h) (fun _ _ => HEx.mono (SameOn.of_below HB2.out) (fun _ h => h)))) (by omega)).mono ?_; rintro e w3 ⟨rfl, hb3⟩; rw [HX3.out, hr3]; have HB3 : Hid _ := hb3; clear hb3)) | (go_at_call 102; go_must (refine (h1.at (w := _) (v := _) e.kids _ (left - x0 - x1) (by omega) hks (by omega)).mono ?_; rintro e w2 ⟨rfl, hb2⟩; rw [HX2.out, hr2]; have HB2 : Hid _ := hb2; have hk2 := (hb2.cell (p := ⟨w.heap.size, 5, none⟩) (by simp)).trans (cell_new _ _ _ 5 cv rfl); clear hb2)) )
  go_ret
  exact ⟨by rw [HR.out]; first | rfl | (congr 2; omega) | (simp; omega), ((((Below.refl _ _).alloc (Nat.le_refl _) _).trans (HB2.out.mono ((Below.refl _ _).alloc (Nat.le_refl _) _).size)).trans (HB3.out.mono (((Below.refl _ _).alloc (Nat.le_refl _) _).trans (HB2.out.mono ((Below.refl _ _).alloc (Nat.le_refl _) _).size)).size))⟩

set_option maxHeartbeats 2000000 in
theorem szClause_of {d : Nat} (h1 : SzC 102 (fun w v es => Rows w (fun g => g < N) 6 (HEx w (fun g => g < N) d) v es) (wtS (wtEx d))) (h2 : SzC 102 (fun w v es => Rows w (fun g => g < N) 6 (HEx w (fun g => g < N) d) v es) (wtS (wtEx d))) :
    SzC 87 (fun w v e => ∃ cs, v = .agg cs.toArray ∧ HCl w (fun g => g < N) (HEx w (fun g => g < N) d) cs e) (wtCl (wtEx d)) := by
  intro w v e left h hl
  obtain ⟨cs, rfl, kv, cv, rfl, hks, hcs⟩ := h
  have hal : SameOn (fun g => g < N) w (w.alloc (.cells #[kv, cv] 133)) := SameOn.of_below ((Below.refl _ _).alloc (Nat.le_refl _) _)
  replace hks := hks.mono hal (fun _ h => h) (fun _ _ _ => HEx.mono hal (fun _ h => h))
  replace hcs := hcs.mono hal (fun _ h => h) (fun _ _ _ => HEx.mono hal (fun _ h => h))
  have HW : Hid (wtCl (wtEx d) e = wtS (wtEx d) e.1 + wtS (wtEx d) e.2) := rfl
  generalize wtCl (wtEx d) e = W at *
  generalize hx0 : wtS (wtEx d) e.1 = x0 at *
  have HX0 : Hid (wtS (wtEx d) e.1 = x0) := hx0
  clear hx0
  generalize hx1 : wtS (wtEx d) e.2 = x1 at *
  have HX1 : Hid (wtS (wtEx d) e.2 = x1) := hx1
  clear hx1
  by_cases t0 : left < x0
  · have HR : Hid (leftOf left W = -1) := by
      have := HW.out
      show leftOf left W = _
      exact leftOf_lt (by omega)
    have hr0 : leftOf (left) x0 = -1 := leftOf_lt t0
    clear HW
    go_enter Tryz.func87, Tryz.ntmps87
    go_wp2_with (first | (go_at_call 102; (refine (h1.at (w := _) (v := _) e.1 _ (left) (by omega) hks (by omega)).mono ?_; rintro e w0 ⟨rfl, hb0⟩; rw [HX0.out, hr0]; have HB0 : Hid _ := hb0; have hk0 := (hb0.cell (p := ⟨w.heap.size, 1, none⟩) (by simp)).trans (cell_new _ _ _ 1 cv rfl); clear hb0)) )
    go_ret
    exact ⟨by rw [HR.out]; first | rfl | (congr 2; omega) | (simp; omega), (((Below.refl _ _).alloc (Nat.le_refl _) _).trans (HB0.out.mono ((Below.refl _ _).alloc (Nat.le_refl _) _).size))⟩
  by_cases t1 : left - x0 < x1
  · have HR : Hid (leftOf left W = -1) := by
      have := HW.out
      show leftOf left W = _
      exact leftOf_lt (by omega)
    have hr0 : leftOf (left) x0 = ((left - x0 : Nat) : Int) := by rw [leftOf_ge (by omega)]
    have hr1 : leftOf (left - x0) x1 = -1 := leftOf_lt t1
    clear HW
    go_enter Tryz.func87, Tryz.ntmps87
    go_wp2_with (first | (go_at_call 102; (refine (h2.at (w := _) (v := _) e.2 _ (left - x0) (by omega) (hcs.mono (SameOn.of_below HB0.out) (fun _ h => h) (fun _ _ _ => HEx.mono (SameOn.of_below HB0.out) (fun _ h => h))) (by omega)).mono ?_; rintro e w1 ⟨rfl, hb1⟩; rw [HX1.out, hr1]; have HB1 : Hid _ := hb1; clear hb1)) | (go_at_call 102; (refine (h1.at (w := _) (v := _) e.1 _ (left) (by omega) hks (by omega)).mono ?_; rintro e w0 ⟨rfl, hb0⟩; rw [HX0.out, hr0]; have HB0 : Hid _ := hb0; have hk0 := (hb0.cell (p := ⟨w.heap.size, 1, none⟩) (by simp)).trans (cell_new _ _ _ 1 cv rfl); clear hb0)) )
    go_ret
    exact ⟨by rw [HR.out]; first | rfl | (congr 2; omega) | (simp; omega), ((((Below.refl _ _).alloc (Nat.le_refl _) _).trans (HB0.out.mono ((Below.refl _ _).alloc (Nat.le_refl _) _).size)).trans (HB1.out.mono (((Below.refl _ _).alloc (Nat.le_refl _) _).trans (HB0.out.mono ((Below.refl _ _).alloc (Nat.le_refl _) _).size)).size))⟩
  have HR : Hid (leftOf left W = ((left - x0 - x1 : Nat) : Int)) := by
    have := HW.out
    show leftOf left W = _
    rw [leftOf_ge (by omega)]; omega
  have hr0 : leftOf (left) x0 = ((left - x0 : Nat) : Int) := by rw [leftOf_ge (by omega)]
  have hr1 : leftOf (left - x0) x1 = ((left - x0 - x1 : Nat) : Int) := by rw [leftOf_ge (by omega)]
  clear HW
  go_enter Tryz.func87, Tryz.ntmps87
  go_wp2_with (first | (go_at_call 102; (refine (h2.at (w := _) (v := _) e.2 _ (left - x0) (by omega) (hcs.mono (SameOn.of_below HB0.out) (fun _ h => h) (fun _ _ _ => HEx.mono (SameOn.of_below HB0.out) (fun _ h => h))) (by omega)).mono ?_; rintro e w1 ⟨rfl, hb1⟩; rw [HX1.out, hr1]; have HB1 : Hid _ := hb1; clear hb1)) | (go_at_call 102; (refine (h1.at (w := _) (v := _) e.1 _ (left) (by omega) hks (by omega)).mono ?_; rintro e w0 ⟨rfl, hb0⟩; rw [HX0.out, hr0]; have HB0 : Hid _ := hb0; have hk0 := (hb0.cell (p := ⟨w.heap.size, 1, none⟩) (by simp)).trans (cell_new _ _ _ 1 cv rfl); clear hb0)) )
  go_ret
  exact ⟨by rw [HR.out]; first | rfl | (congr 2; omega) | (simp; omega), ((((Below.refl _ _).alloc (Nat.le_refl _) _).trans (HB0.out.mono ((Below.refl _ _).alloc (Nat.le_refl _) _).size)).trans (HB1.out.mono (((Below.refl _ _).alloc (Nat.le_refl _) _).trans (HB0.out.mono ((Below.refl _ _).alloc (Nat.le_refl _) _).size)).size))⟩

set_option maxHeartbeats 2000000 in
theorem szFun_of {d : Nat} (h1 : SzC 69 (fun w v es => Rows w (fun g => g < N) 2 (HCl w (fun g => g < N) (HEx w (fun g => g < N) d)) v es) (wtS (wtCl (wtEx d)))) :
    SzC 47 (fun w v e => ∃ cs, v = .agg cs.toArray ∧ HFn w (fun g => g < N) d cs e) (wtFn d) := by
  intro w v e left h hl
  obtain ⟨cs, rfl, cv, rfl, ht, hn, hcs⟩ := h
  have hb0 : e.name.size ≤ 9223372036854775807 := by have := ht; unfold okS maxLen at this; omega
  have hal : SameOn (fun g => g < N) w (w.alloc (.cells #[.string e.name, .int .i64 e.arity, cv] 95)) := SameOn.of_below ((Below.refl _ _).alloc (Nat.le_refl _) _)
  replace hcs := hcs.mono hal (fun _ h => h) (fun _ _ _ h => h.mono hal (fun _ h => h) (fun _ _ => HEx.mono hal (fun _ h => h)))
  have HW : Hid (wtFn d e = e.name.size + wtS (wtCl (wtEx d)) e.clauses) := rfl
  generalize wtFn d e = W at *
  have hx0 : ∃ x0 : Nat, e.name.size = x0 := ⟨_, rfl⟩
  obtain ⟨x0, hx0⟩ := hx0
  rw [hx0] at hb0
  generalize hx1 : wtS (wtCl (wtEx d)) e.clauses = x1 at *
  have HX1 : Hid (wtS (wtCl (wtEx d)) e.clauses = x1) := hx1
  clear hx1
  by_cases t0 : left < x0
  · have HR : Hid (leftOf left W = -1) := by
      have := HW.out
      show leftOf left W = _
      exact leftOf_lt (by omega)
    clear HW
    go_enter Tryz.func47, Tryz.ntmps47
    go_wp2
    go_ret
    exact ⟨by rw [HR.out]; first | rfl | (congr 2; omega) | (simp; omega), ((Below.refl _ _).alloc (Nat.le_refl _) _)⟩
  by_cases t1 : left - x0 < x1
  · have HR : Hid (leftOf left W = -1) := by
      have := HW.out
      show leftOf left W = _
      exact leftOf_lt (by omega)
    have hr1 : leftOf (left - x0) x1 = -1 := leftOf_lt t1
    clear HW
    go_enter Tryz.func47, Tryz.ntmps47
    go_wp2_with (first | (go_at_call 69; go_must (refine (h1.at (w := _) (v := _) e.clauses _ (left - x0) (by omega) hcs (by omega)).mono ?_; rintro e w1 ⟨rfl, hb1⟩; rw [HX1.out, hr1]; have HB1 : Hid _ := hb1; clear hb1)) )
    go_ret
    exact ⟨by rw [HR.out]; first | rfl | (congr 2; omega) | (simp; omega), (((Below.refl _ _).alloc (Nat.le_refl _) _).trans (HB1.out.mono ((Below.refl _ _).alloc (Nat.le_refl _) _).size))⟩
  have HR : Hid (leftOf left W = ((left - x0 - x1 : Nat) : Int)) := by
    have := HW.out
    show leftOf left W = _
    rw [leftOf_ge (by omega)]; omega
  have hr1 : leftOf (left - x0) x1 = ((left - x0 - x1 : Nat) : Int) := by rw [leftOf_ge (by omega)]
  clear HW
  go_enter Tryz.func47, Tryz.ntmps47
  go_wp2_with (first | (go_at_call 69; go_must (refine (h1.at (w := _) (v := _) e.clauses _ (left - x0) (by omega) hcs (by omega)).mono ?_; rintro e w1 ⟨rfl, hb1⟩; rw [HX1.out, hr1]; have HB1 : Hid _ := hb1; clear hb1)) )
  go_ret
  exact ⟨by rw [HR.out]; first | rfl | (congr 2; omega) | (simp; omega), (((Below.refl _ _).alloc (Nat.le_refl _) _).trans (HB1.out.mono ((Below.refl _ _).alloc (Nat.le_refl _) _).size))⟩

set_option maxHeartbeats 2000000 in
theorem szRef_of {d : Nat}  :
    SzC 46 (fun w v e => ∃ cs, v = .agg cs.toArray ∧ HRf cs e) (wtRf) := by
  intro w v e left h hl
  obtain ⟨cs, rfl, rfl, ht, hn⟩ := h
  have hb0 : e.name.size ≤ 9223372036854775807 := by have := ht; unfold okS maxLen at this; omega
  have HW : Hid (wtRf e = e.name.size) := rfl
  generalize wtRf e = W at *
  have hx0 : ∃ x0 : Nat, e.name.size = x0 := ⟨_, rfl⟩
  obtain ⟨x0, hx0⟩ := hx0
  rw [hx0] at hb0
  by_cases t0 : left < x0
  · have HR : Hid (leftOf left W = -1) := by
      have := HW.out
      show leftOf left W = _
      exact leftOf_lt (by omega)
    clear HW
    go_enter Tryz.func46, Tryz.ntmps46
    go_wp2
    go_ret
    exact ⟨by rw [HR.out]; first | rfl | (congr 2; omega) | (simp; omega), ((Below.refl _ _).alloc (Nat.le_refl _) _)⟩
  have HR : Hid (leftOf left W = ((left - x0 : Nat) : Int)) := by
    have := HW.out
    show leftOf left W = _
    rw [leftOf_ge (by omega)]; omega
  clear HW
  go_enter Tryz.func46, Tryz.ntmps46
  go_wp2
  go_ret
  exact ⟨by rw [HR.out]; first | rfl | (congr 2; omega) | (simp; omega), ((Below.refl _ _).alloc (Nat.le_refl _) _)⟩

set_option maxHeartbeats 2000000 in
theorem szModule_of {d : Nat} (h1 : SzC 27 (fun w v es => Rows w (fun g => g < N) 2 (HRf) v es) (wtS (wtRf))) (h2 : SzC 28 (fun w v es => Rows w (fun g => g < N) 3 (HFn w (fun g => g < N) d) v es) (wtS (wtFn d))) :
    SzC 15 (fun w v e => ∃ cs, v = .agg cs.toArray ∧ HMd w (fun g => g < N) d cs e) (wtMd d) := by
  intro w v e left h hl
  obtain ⟨cs, rfl, kv, cv, rfl, ht, hks, hcs⟩ := h
  have hb0 : e.name.size ≤ 9223372036854775807 := by have := ht; unfold okS maxLen at this; omega
  have hal : SameOn (fun g => g < N) w (w.alloc (.cells #[.string e.name, kv, cv] 42)) := SameOn.of_below ((Below.refl _ _).alloc (Nat.le_refl _) _)
  replace hks := hks.mono hal (fun _ h => h) (fun _ _ _ h => h)
  replace hcs := hcs.mono hal (fun _ h => h) (fun _ _ _ h => h.mono hal (fun _ h => h))
  have HW : Hid (wtMd d e = e.name.size + wtS wtRf e.exports + wtS (wtFn d) e.funs) := rfl
  generalize wtMd d e = W at *
  have hx0 : ∃ x0 : Nat, e.name.size = x0 := ⟨_, rfl⟩
  obtain ⟨x0, hx0⟩ := hx0
  rw [hx0] at hb0
  generalize hx1 : wtS wtRf e.exports = x1 at *
  have HX1 : Hid (wtS wtRf e.exports = x1) := hx1
  clear hx1
  generalize hx2 : wtS (wtFn d) e.funs = x2 at *
  have HX2 : Hid (wtS (wtFn d) e.funs = x2) := hx2
  clear hx2
  by_cases t0 : left < x0
  · have HR : Hid (leftOf left W = -1) := by
      have := HW.out
      show leftOf left W = _
      exact leftOf_lt (by omega)
    clear HW
    go_enter Tryz.func15, Tryz.ntmps15
    go_wp2
    go_ret
    exact ⟨by rw [HR.out]; first | rfl | (congr 2; omega) | (simp; omega), ((Below.refl _ _).alloc (Nat.le_refl _) _)⟩
  by_cases t1 : left - x0 < x1
  · have HR : Hid (leftOf left W = -1) := by
      have := HW.out
      show leftOf left W = _
      exact leftOf_lt (by omega)
    have hr1 : leftOf (left - x0) x1 = -1 := leftOf_lt t1
    clear HW
    go_enter Tryz.func15, Tryz.ntmps15
    go_wp2_with (first | (go_at_call 27; go_must (refine (h1.at (w := _) (v := _) e.exports _ (left - x0) (by omega) hks (by omega)).mono ?_; rintro e w1 ⟨rfl, hb1⟩; rw [HX1.out, hr1]; have HB1 : Hid _ := hb1; have hk1 := (hb1.cell (p := ⟨w.heap.size, 2, none⟩) (by simp)).trans (cell_new _ _ _ 2 cv rfl); clear hb1)) )
    go_ret
    exact ⟨by rw [HR.out]; first | rfl | (congr 2; omega) | (simp; omega), (((Below.refl _ _).alloc (Nat.le_refl _) _).trans (HB1.out.mono ((Below.refl _ _).alloc (Nat.le_refl _) _).size))⟩
  by_cases t2 : left - x0 - x1 < x2
  · have HR : Hid (leftOf left W = -1) := by
      have := HW.out
      show leftOf left W = _
      exact leftOf_lt (by omega)
    have hr1 : leftOf (left - x0) x1 = ((left - x0 - x1 : Nat) : Int) := by rw [leftOf_ge (by omega)]
    have hr2 : leftOf (left - x0 - x1) x2 = -1 := leftOf_lt t2
    clear HW
    go_enter Tryz.func15, Tryz.ntmps15
    go_wp2_with (first | (go_at_call 28; go_must (refine (h2.at (w := _) (v := _) e.funs _ (left - x0 - x1) (by omega) (hcs.mono (SameOn.of_below HB1.out) (fun _ h => h) (fun _ _ _ h => h.mono (SameOn.of_below HB1.out) (fun _ h => h))) (by omega)).mono ?_; rintro e w2 ⟨rfl, hb2⟩; rw [HX2.out, hr2]; have HB2 : Hid _ := hb2; clear hb2)) | (go_at_call 27; go_must (refine (h1.at (w := _) (v := _) e.exports _ (left - x0) (by omega) hks (by omega)).mono ?_; rintro e w1 ⟨rfl, hb1⟩; rw [HX1.out, hr1]; have HB1 : Hid _ := hb1; have hk1 := (hb1.cell (p := ⟨w.heap.size, 2, none⟩) (by simp)).trans (cell_new _ _ _ 2 cv rfl); clear hb1)) )
    go_ret
    exact ⟨by rw [HR.out]; first | rfl | (congr 2; omega) | (simp; omega), ((((Below.refl _ _).alloc (Nat.le_refl _) _).trans (HB1.out.mono ((Below.refl _ _).alloc (Nat.le_refl _) _).size)).trans (HB2.out.mono (((Below.refl _ _).alloc (Nat.le_refl _) _).trans (HB1.out.mono ((Below.refl _ _).alloc (Nat.le_refl _) _).size)).size))⟩
  have HR : Hid (leftOf left W = ((left - x0 - x1 - x2 : Nat) : Int)) := by
    have := HW.out
    show leftOf left W = _
    rw [leftOf_ge (by omega)]; omega
  have hr1 : leftOf (left - x0) x1 = ((left - x0 - x1 : Nat) : Int) := by rw [leftOf_ge (by omega)]
  have hr2 : leftOf (left - x0 - x1) x2 = ((left - x0 - x1 - x2 : Nat) : Int) := by rw [leftOf_ge (by omega)]
  clear HW
  go_enter Tryz.func15, Tryz.ntmps15
  go_wp2_with (first | (go_at_call 28; go_must (refine (h2.at (w := _) (v := _) e.funs _ (left - x0 - x1) (by omega) (hcs.mono (SameOn.of_below HB1.out) (fun _ h => h) (fun _ _ _ h => h.mono (SameOn.of_below HB1.out) (fun _ h => h))) (by omega)).mono ?_; rintro e w2 ⟨rfl, hb2⟩; rw [HX2.out, hr2]; have HB2 : Hid _ := hb2; clear hb2)) | (go_at_call 27; go_must (refine (h1.at (w := _) (v := _) e.exports _ (left - x0) (by omega) hks (by omega)).mono ?_; rintro e w1 ⟨rfl, hb1⟩; rw [HX1.out, hr1]; have HB1 : Hid _ := hb1; have hk1 := (hb1.cell (p := ⟨w.heap.size, 2, none⟩) (by simp)).trans (cell_new _ _ _ 2 cv rfl); clear hb1)) )
  go_ret
  exact ⟨by rw [HR.out]; first | rfl | (congr 2; omega) | (simp; omega), ((((Below.refl _ _).alloc (Nat.le_refl _) _).trans (HB1.out.mono ((Below.refl _ _).alloc (Nat.le_refl _) _).size)).trans (HB2.out.mono (((Below.refl _ _).alloc (Nat.le_refl _) _).trans (HB1.out.mono ((Below.refl _ _).alloc (Nat.le_refl _) _).size)).size))⟩

theorem szExp_all : ∀ d, SzC 116 (fun w v e => ∃ cs, v = .agg cs.toArray ∧ HEx w (fun g => g < N) d cs e) (wtEx d)
  | 0 => fun w v x left ⟨_, _, h⟩ _ => h.elim
  | d + 1 => szExp_of (szExpS_of (szExp_all d)) (szClauseS_of (szClause_of (szExpS_of (szExp_all d)) (szExpS_of (szExp_all d))))
theorem szClauseS_all (d : Nat) : SzC 69 (fun w v es => Rows w (fun g => g < N) 2 (HCl w (fun g => g < N) (HEx w (fun g => g < N) d)) v es) (wtS (wtCl (wtEx d))) :=
  szClauseS_of (szClause_of (szExpS_of (szExp_all d)) (szExpS_of (szExp_all d)))

/-- THE LAWS' szModule. -/
theorem szModule_all (d : Nat) : SzC 15 (fun w v m => ∃ cs, v = .agg cs.toArray ∧ HMd w (fun g => g < N) d cs m) (wtMd d) :=
  szModule_of (szRefS_of (d := 0) (szRef_of (d := 0))) (szFunS_of (szFun_of (szClauseS_all d)))
end Go.Proofs.YtoknolophmhlgaaGreatDoor
/-
  The laws' szModuleS: the weight of a row of modules.
-/
namespace Go.Proofs.YtoknolophmhlgaaGreatDoor
open Go.ChangeShapes Go.WideShapes Go.ChangeAt Go.RowKit
set_option linter.unusedVariables false

section
variable {N : Nat}

set_option maxHeartbeats 2000000 in
theorem szModuleS_of {d : Nat} (hE : SzC 15 (fun w v e => ∃ cs, v = .agg cs.toArray ∧ HMd w (fun g => g < N) d cs e) (wtMd d)) :
    SzC 4 (fun w v es => Rows w (fun g => g < N) 3 (HMd w (fun g => g < N) d) v es) (wtS (wtMd d)) := by
  intro w v es left h hl
  obtain ⟨p, cap, rfl, hcl, hcm, hx⟩ := h
  generalize hn : es.length = n at *
  have HN : Hid (es.length = n) := hn
  have HX : Hid _ := hx
  have hnb : n ≤ 9223372036854775807 := by unfold maxLen at hcm; omega
  clear hx hn
  by_cases h0 : left < n
  · have hr : leftOf left (wtS (wtMd d) es) = -1 := leftOf_lt (by unfold wtS; rw [HN.out]; omega)
    have HR : Hid (leftOf left (wtS (wtMd d) es) = -1) := hr
    clear hr
    go_enter Tryz.func4, Tryz.ntmps4
    go_wp2
    go_ret
    exact ⟨by rw [HR.out]; rfl, Below.refl _ _⟩
  · go_enter Tryz.func4, Tryz.ntmps4
    go_wp2
    go_loopw [1, 5] (fun lv iv wr => ∃ k r : Nat, k ≤ n ∧ iv = .int .i64 k ∧ lv = .int .i64 r ∧ Hid (r + n + ((es.take k).map (wtMd d)).sum = left) ∧ Below w.heap.size w wr) (fun _ iv _ => n - (intOf iv).toNat)
    case atStart => exact ⟨0, left - n, Nat.zero_le _, rfl, by go_num, (by show left - n + n + _ = left; simp; omega), Below.refl _ _⟩
    case round =>
      obtain ⟨k, r, hk, rfl, rfl, hrs, hb⟩ := hrel
      have HB : Hid (Below w.heap.size w wr) := hb
      by_cases hlt : k < n
      · obtain ⟨x, hxk⟩ : ∃ x, es[k]? = some x := ⟨es[k]'(by rw [HN.out]; exact hlt), List.getElem?_eq_getElem _⟩
        obtain ⟨g, off, rfl, hg, hgl, hat⟩ := HX.out (by intro h; rw [h] at hxk; simp at hxk)
        obtain ⟨cs, hcl6, hcs, hex⟩ := hat k x hxk
        have hex' : HMd wr (fun g => g < N) d cs x := hex.mono (SameOn.of_below hb) (fun _ h => h)
        obtain ⟨c0, c1, c2, rfl⟩ := len3 hcl6
        have a0 := hcs 0 (by omega)
        have a1 := hcs 1 (by omega)
        have a2 := hcs 2 (by omega)
        rw [← hb.cell (p := ⟨g, _, none⟩) hgl] at a0 a1 a2
        simp at a0 a1 a2
        clear hb hcs hat hex hcl6
        have hrb : r ≤ 1048576 := by have := hrs.out; omega
        have hst := sum_take_succ (wtMd d) es k x hxk
        have HST : Hid (((es.take (k + 1)).map (wtMd d)).sum = ((es.take k).map (wtMd d)).sum + wtMd d x) := hst
        have hle := sum_take_le (wtMd d) es (k + 1)
        have HLE : Hid (((es.take (k + 1)).map (wtMd d)).sum ≤ (es.map (wtMd d)).sum) := hle
        clear hst hle
        generalize hwx : wtMd d x = y at *
        have HY : Hid (wtMd d x = y) := hwx
        by_cases hy : r < y
        · have hr : leftOf left (wtS (wtMd d) es) = -1 := leftOf_lt (by unfold wtS; have := hrs.out; have := HLE.out; have := HST.out; rw [HN.out]; omega)
          have HR : Hid (leftOf left (wtS (wtMd d) es) = -1) := hr
          have hr2 : leftOf r y = -1 := leftOf_lt hy
          clear hr hwx
          go_wp2_with (go_at_call 15; go_must (refine (hE _ _ x r ⟨_, rfl, hex'⟩ hrb).mono ?_; rintro e w1 ⟨rfl, hb1⟩; rw [HY.out, hr2]; have HB1 : Hid _ := hb1; clear hb1))
          go_ret
          exact ⟨by rw [HR.out]; rfl, HB.out.trans (HB1.out.mono HB.out.size)⟩
        · have hr2 : leftOf r y = ((r - y : Nat) : Int) := leftOf_ge (by omega)
          clear hwx
          go_wp2_with (go_at_call 15; go_must (refine (hE _ _ x r ⟨_, rfl, hex'⟩ hrb).mono ?_; rintro e w1 ⟨rfl, hb1⟩; rw [HY.out, hr2]; have HB1 : Hid _ := hb1; clear hb1))
          exact ⟨⟨k + 1, r - y, by omega, by go_num, rfl, (by have := hrs.out; have := HST.out; show r - y + n + _ = left; omega), HB.out.trans (HB1.out.mono HB.out.size)⟩, by simp [intOf]; omega⟩
      · have hr : leftOf left (wtS (wtMd d) es) = (r : Int) := by
          have h1 := hrs.out
          rw [List.take_of_length_le (by rw [HN.out]; omega)] at h1
          rw [leftOf_ge (by unfold wtS; rw [HN.out]; omega)]
          unfold wtS; rw [HN.out]; omega
        have HR : Hid (leftOf left (wtS (wtMd d) es) = (r : Int)) := hr
        clear hr
        go_wp2
        go_ret
        exact ⟨by rw [HR.out]; rfl, HB.out⟩

theorem szModuleS_all (d : Nat) : SzC 4 (fun w v es => Rows w (fun g => g < N) 3 (HMd w (fun g => g < N) d) v es) (wtS (wtMd d)) := szModuleS_of (szModule_all d)
end
end Go.Proofs.YtoknolophmhlgaaGreatDoor
