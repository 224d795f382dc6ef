/-
  Texts of the proof, packed: Size, ModsSz, Eq, ModsEq, ExTo, ModTo, ModsTo, Mark, ExMark, RefMark, FunMark, ModCnt, ModsMark, ProbMark, CheckWalk, ModsOpen, Frame, Frame2.
-/
import Derived.Test.YtigfmdfgioccjaaGreatDoorPackB
import Derived.Test.YtigfmdfgioccjaaGreatDoorPackA
import Derived.Test.YtigfmdfgioccjaaGreatDoorPackD
import Derived.Test.YtigfmdfgioccjaaGreatDoorRows
import Derived.WalkKit
import Derived.ProofKit
import Derived.OpenShut
import Derived.WalkSpells
import Derived.Lib.ItoaNum
import Derived.Laws.IdiomStrings
import Derived.OpenVars
import Derived.LaidMore
import Derived.Lib.LaidTab
import Derived.Deep.DeepHandedRow
/-
  How great a module is: the laws' szModule tells its weight, and -1 where that is more than what is left.
-/
namespace Go.Proofs.YtigfmdfgioccjaaGreatDoor
open Go.ChangeShapes Go.WideShapes Go.ChangeAt Go.RowKit
set_option linter.unusedVariables false

variable {N : Nat}

set_option maxHeartbeats 2000000 in
theorem szExpS_of {d : Nat} (hE : SzC 130 (fun w v e => ∃ cs, v = .agg cs.toArray ∧ HEx w (fun g => g < N) d cs e) (wtEx d)) :
    SzC 116 (fun w v es => Rows w (fun g => g < N) 6 (HEx w (fun g => g < N) d) v es) (wtS (wtEx d)) := by
  intro w v es left h hl
  obtain ⟨p, cap, rfl, hcl, hcm, hx⟩ := h
  generalize hn : es.length = n at *
  have HN : Hid (es.length = n) := hn
  have HX : Hid _ := hx
  have hnb : n ≤ 9223372036854775807 := by unfold maxLen at hcm; omega
  clear hx hn
  by_cases h0 : left < n
  · have hr : leftOf left (wtS (wtEx d) es) = -1 := leftOf_lt (by unfold wtS; rw [HN.out]; omega)
    have HR : Hid (leftOf left (wtS (wtEx d) es) = -1) := hr
    clear hr
    go_enter Tryz.func116, Tryz.ntmps116
    go_wp2
    go_ret
    exact ⟨by rw [HR.out]; rfl, Below.refl _ _⟩
  · go_enter Tryz.func116, Tryz.ntmps116
    go_wp2
    go_loopw [1, 5] (fun lv iv wr => ∃ k r : Nat, k ≤ n ∧ iv = .int .i64 k ∧ lv = .int .i64 r ∧ Hid (r + n + ((es.take k).map (wtEx d)).sum = left) ∧ Below w.heap.size w wr) (fun _ iv _ => n - (intOf iv).toNat)
    case atStart => exact ⟨0, left - n, Nat.zero_le _, rfl, by go_num, (by show left - n + n + _ = left; simp; omega), Below.refl _ _⟩
    case round =>
      obtain ⟨k, r, hk, rfl, rfl, hrs, hb⟩ := hrel
      have HB : Hid (Below w.heap.size w wr) := hb
      by_cases hlt : k < n
      · obtain ⟨x, hxk⟩ : ∃ x, es[k]? = some x := ⟨es[k]'(by rw [HN.out]; exact hlt), List.getElem?_eq_getElem _⟩
        obtain ⟨g, off, rfl, hg, hgl, hat⟩ := HX.out (by intro h; rw [h] at hxk; simp at hxk)
        obtain ⟨cs, hcl6, hcs, hex⟩ := hat k x hxk
        have hex' : HEx wr (fun g => g < N) d cs x := hex.mono (SameOn.of_below hb) (fun _ h => h)
        obtain ⟨c0, c1, c2, c3, c4, c5, rfl⟩ := len6 hcl6
        have a0 := hcs 0 (by omega)
        have a1 := hcs 1 (by omega)
        have a2 := hcs 2 (by omega)
        have a3 := hcs 3 (by omega)
        have a4 := hcs 4 (by omega)
        have a5 := hcs 5 (by omega)
        rw [← hb.cell (p := ⟨g, _, none⟩) hgl] at a0 a1 a2 a3 a4 a5
        simp at a0 a1 a2 a3 a4 a5
        clear hb hcs hat hex hcl6
        have hrb : r ≤ 1048576 := by have := hrs.out; omega
        have hst := sum_take_succ (wtEx d) es k x hxk
        have HST : Hid (((es.take (k + 1)).map (wtEx d)).sum = ((es.take k).map (wtEx d)).sum + wtEx d x) := hst
        have hle := sum_take_le (wtEx d) es (k + 1)
        have HLE : Hid (((es.take (k + 1)).map (wtEx d)).sum ≤ (es.map (wtEx d)).sum) := hle
        clear hst hle
        generalize hwx : wtEx d x = y at *
        have HY : Hid (wtEx d x = y) := hwx
        by_cases hy : r < y
        · have hr : leftOf left (wtS (wtEx d) es) = -1 := leftOf_lt (by unfold wtS; have := hrs.out; have := HLE.out; have := HST.out; rw [HN.out]; omega)
          have HR : Hid (leftOf left (wtS (wtEx d) es) = -1) := hr
          have hr2 : leftOf r y = -1 := leftOf_lt hy
          clear hr hwx
          go_wp2_with (go_at_call 130; go_must (refine (hE _ _ x r ⟨_, rfl, hex'⟩ hrb).mono ?_; rintro e w1 ⟨rfl, hb1⟩; rw [HY.out, hr2]; have HB1 : Hid _ := hb1; clear hb1))
          go_ret
          exact ⟨by rw [HR.out]; rfl, HB.out.trans (HB1.out.mono HB.out.size)⟩
        · have hr2 : leftOf r y = ((r - y : Nat) : Int) := leftOf_ge (by omega)
          clear hwx
          go_wp2_with (go_at_call 130; go_must (refine (hE _ _ x r ⟨_, rfl, hex'⟩ hrb).mono ?_; rintro e w1 ⟨rfl, hb1⟩; rw [HY.out, hr2]; have HB1 : Hid _ := hb1; clear hb1))
          exact ⟨⟨k + 1, r - y, by omega, by go_num, rfl, (by have := hrs.out; have := HST.out; show r - y + n + _ = left; omega), HB.out.trans (HB1.out.mono HB.out.size)⟩, by simp [intOf]; omega⟩
      · have hr : leftOf left (wtS (wtEx d) es) = (r : Int) := by
          have h1 := hrs.out
          rw [List.take_of_length_le (by rw [HN.out]; omega)] at h1
          rw [leftOf_ge (by unfold wtS; rw [HN.out]; omega)]
          unfold wtS; rw [HN.out]; omega
        have HR : Hid (leftOf left (wtS (wtEx d) es) = (r : Int)) := hr
        clear hr
        go_wp2
        go_ret
        exact ⟨by rw [HR.out]; rfl, HB.out⟩

set_option maxHeartbeats 2000000 in
theorem szClauseS_of {d : Nat} (hE : SzC 100 (fun w v e => ∃ cs, v = .agg cs.toArray ∧ HCl w (fun g => g < N) (HEx w (fun g => g < N) d) cs e) (wtCl (wtEx d))) :
    SzC 74 (fun w v es => Rows w (fun g => g < N) 2 (HCl w (fun g => g < N) (HEx w (fun g => g < N) d)) v es) (wtS (wtCl (wtEx d))) := by
  intro w v es left h hl
  obtain ⟨p, cap, rfl, hcl, hcm, hx⟩ := h
  generalize hn : es.length = n at *
  have HN : Hid (es.length = n) := hn
  have HX : Hid _ := hx
  have hnb : n ≤ 9223372036854775807 := by unfold maxLen at hcm; omega
  clear hx hn
  by_cases h0 : left < n
  · have hr : leftOf left (wtS (wtCl (wtEx d)) es) = -1 := leftOf_lt (by unfold wtS; rw [HN.out]; omega)
    have HR : Hid (leftOf left (wtS (wtCl (wtEx d)) es) = -1) := hr
    clear hr
    go_enter Tryz.func74, Tryz.ntmps74
    go_wp2
    go_ret
    exact ⟨by rw [HR.out]; rfl, Below.refl _ _⟩
  · go_enter Tryz.func74, Tryz.ntmps74
    go_wp2
    go_loopw [1, 5] (fun lv iv wr => ∃ k r : Nat, k ≤ n ∧ iv = .int .i64 k ∧ lv = .int .i64 r ∧ Hid (r + n + ((es.take k).map (wtCl (wtEx d))).sum = left) ∧ Below w.heap.size w wr) (fun _ iv _ => n - (intOf iv).toNat)
    case atStart => exact ⟨0, left - n, Nat.zero_le _, rfl, by go_num, (by show left - n + n + _ = left; simp; omega), Below.refl _ _⟩
    case round =>
      obtain ⟨k, r, hk, rfl, rfl, hrs, hb⟩ := hrel
      have HB : Hid (Below w.heap.size w wr) := hb
      by_cases hlt : k < n
      · obtain ⟨x, hxk⟩ : ∃ x, es[k]? = some x := ⟨es[k]'(by rw [HN.out]; exact hlt), List.getElem?_eq_getElem _⟩
        obtain ⟨g, off, rfl, hg, hgl, hat⟩ := HX.out (by intro h; rw [h] at hxk; simp at hxk)
        obtain ⟨cs, hcl6, hcs, hex⟩ := hat k x hxk
        have hex' : HCl wr (fun g => g < N) (HEx wr (fun g => g < N) d) cs x := hex.mono (SameOn.of_below hb) (fun _ h => h) (fun _ _ => HEx.mono (SameOn.of_below hb) (fun _ h => h))
        obtain ⟨c0, c1, rfl⟩ := len2 hcl6
        have a0 := hcs 0 (by omega)
        have a1 := hcs 1 (by omega)
        rw [← hb.cell (p := ⟨g, _, none⟩) hgl] at a0 a1
        simp at a0 a1
        clear hb hcs hat hex hcl6
        have hrb : r ≤ 1048576 := by have := hrs.out; omega
        have hst := sum_take_succ (wtCl (wtEx d)) es k x hxk
        have HST : Hid (((es.take (k + 1)).map (wtCl (wtEx d))).sum = ((es.take k).map (wtCl (wtEx d))).sum + wtCl (wtEx d) x) := hst
        have hle := sum_take_le (wtCl (wtEx d)) es (k + 1)
        have HLE : Hid (((es.take (k + 1)).map (wtCl (wtEx d))).sum ≤ (es.map (wtCl (wtEx d))).sum) := hle
        clear hst hle
        generalize hwx : wtCl (wtEx d) x = y at *
        have HY : Hid (wtCl (wtEx d) x = y) := hwx
        by_cases hy : r < y
        · have hr : leftOf left (wtS (wtCl (wtEx d)) es) = -1 := leftOf_lt (by unfold wtS; have := hrs.out; have := HLE.out; have := HST.out; rw [HN.out]; omega)
          have HR : Hid (leftOf left (wtS (wtCl (wtEx d)) es) = -1) := hr
          have hr2 : leftOf r y = -1 := leftOf_lt hy
          clear hr hwx
          go_wp2_with (go_at_call 100; go_must (refine (hE _ _ x r ⟨_, rfl, hex'⟩ hrb).mono ?_; rintro e w1 ⟨rfl, hb1⟩; rw [HY.out, hr2]; have HB1 : Hid _ := hb1; clear hb1))
          go_ret
          exact ⟨by rw [HR.out]; rfl, HB.out.trans (HB1.out.mono HB.out.size)⟩
        · have hr2 : leftOf r y = ((r - y : Nat) : Int) := leftOf_ge (by omega)
          clear hwx
          go_wp2_with (go_at_call 100; go_must (refine (hE _ _ x r ⟨_, rfl, hex'⟩ hrb).mono ?_; rintro e w1 ⟨rfl, hb1⟩; rw [HY.out, hr2]; have HB1 : Hid _ := hb1; clear hb1))
          exact ⟨⟨k + 1, r - y, by omega, by go_num, rfl, (by have := hrs.out; have := HST.out; show r - y + n + _ = left; omega), HB.out.trans (HB1.out.mono HB.out.size)⟩, by simp [intOf]; omega⟩
      · have hr : leftOf left (wtS (wtCl (wtEx d)) es) = (r : Int) := by
          have h1 := hrs.out
          rw [List.take_of_length_le (by rw [HN.out]; omega)] at h1
          rw [leftOf_ge (by unfold wtS; rw [HN.out]; omega)]
          unfold wtS; rw [HN.out]; omega
        have HR : Hid (leftOf left (wtS (wtCl (wtEx d)) es) = (r : Int)) := hr
        clear hr
        go_wp2
        go_ret
        exact ⟨by rw [HR.out]; rfl, HB.out⟩

set_option maxHeartbeats 2000000 in
theorem szFunS_of {d : Nat} (hE : SzC 47 (fun w v e => ∃ cs, v = .agg cs.toArray ∧ HFn w (fun g => g < N) d cs e) (wtFn d)) :
    SzC 29 (fun w v es => Rows w (fun g => g < N) 3 (HFn w (fun g => g < N) d) v es) (wtS (wtFn d)) := by
  intro w v es left h hl
  obtain ⟨p, cap, rfl, hcl, hcm, hx⟩ := h
  generalize hn : es.length = n at *
  have HN : Hid (es.length = n) := hn
  have HX : Hid _ := hx
  have hnb : n ≤ 9223372036854775807 := by unfold maxLen at hcm; omega
  clear hx hn
  by_cases h0 : left < n
  · have hr : leftOf left (wtS (wtFn d) es) = -1 := leftOf_lt (by unfold wtS; rw [HN.out]; omega)
    have HR : Hid (leftOf left (wtS (wtFn d) es) = -1) := hr
    clear hr
    go_enter Tryz.func29, Tryz.ntmps29
    go_wp2
    go_ret
    exact ⟨by rw [HR.out]; rfl, Below.refl _ _⟩
  · go_enter Tryz.func29, Tryz.ntmps29
    go_wp2
    go_loopw [1, 5] (fun lv iv wr => ∃ k r : Nat, k ≤ n ∧ iv = .int .i64 k ∧ lv = .int .i64 r ∧ Hid (r + n + ((es.take k).map (wtFn d)).sum = left) ∧ Below w.heap.size w wr) (fun _ iv _ => n - (intOf iv).toNat)
    case atStart => exact ⟨0, left - n, Nat.zero_le _, rfl, by go_num, (by show left - n + n + _ = left; simp; omega), Below.refl _ _⟩
    case round =>
      obtain ⟨k, r, hk, rfl, rfl, hrs, hb⟩ := hrel
      have HB : Hid (Below w.heap.size w wr) := hb
      by_cases hlt : k < n
      · obtain ⟨x, hxk⟩ : ∃ x, es[k]? = some x := ⟨es[k]'(by rw [HN.out]; exact hlt), List.getElem?_eq_getElem _⟩
        obtain ⟨g, off, rfl, hg, hgl, hat⟩ := HX.out (by intro h; rw [h] at hxk; simp at hxk)
        obtain ⟨cs, hcl6, hcs, hex⟩ := hat k x hxk
        have hex' : HFn wr (fun g => g < N) d cs x := hex.mono (SameOn.of_below hb) (fun _ h => h)
        obtain ⟨c0, c1, c2, rfl⟩ := len3 hcl6
        have a0 := hcs 0 (by omega)
        have a1 := hcs 1 (by omega)
        have a2 := hcs 2 (by omega)
        rw [← hb.cell (p := ⟨g, _, none⟩) hgl] at a0 a1 a2
        simp at a0 a1 a2
        clear hb hcs hat hex hcl6
        have hrb : r ≤ 1048576 := by have := hrs.out; omega
        have hst := sum_take_succ (wtFn d) es k x hxk
        have HST : Hid (((es.take (k + 1)).map (wtFn d)).sum = ((es.take k).map (wtFn d)).sum + wtFn d x) := hst
        have hle := sum_take_le (wtFn d) es (k + 1)
        have HLE : Hid (((es.take (k + 1)).map (wtFn d)).sum ≤ (es.map (wtFn d)).sum) := hle
        clear hst hle
        generalize hwx : wtFn d x = y at *
        have HY : Hid (wtFn d x = y) := hwx
        by_cases hy : r < y
        · have hr : leftOf left (wtS (wtFn d) es) = -1 := leftOf_lt (by unfold wtS; have := hrs.out; have := HLE.out; have := HST.out; rw [HN.out]; omega)
          have HR : Hid (leftOf left (wtS (wtFn d) es) = -1) := hr
          have hr2 : leftOf r y = -1 := leftOf_lt hy
          clear hr hwx
          go_wp2_with (go_at_call 47; go_must (refine (hE _ _ x r ⟨_, rfl, hex'⟩ hrb).mono ?_; rintro e w1 ⟨rfl, hb1⟩; rw [HY.out, hr2]; have HB1 : Hid _ := hb1; clear hb1))
          go_ret
          exact ⟨by rw [HR.out]; rfl, HB.out.trans (HB1.out.mono HB.out.size)⟩
        · have hr2 : leftOf r y = ((r - y : Nat) : Int) := leftOf_ge (by omega)
          clear hwx
          go_wp2_with (go_at_call 47; go_must (refine (hE _ _ x r ⟨_, rfl, hex'⟩ hrb).mono ?_; rintro e w1 ⟨rfl, hb1⟩; rw [HY.out, hr2]; have HB1 : Hid _ := hb1; clear hb1))
          exact ⟨⟨k + 1, r - y, by omega, by go_num, rfl, (by have := hrs.out; have := HST.out; show r - y + n + _ = left; omega), HB.out.trans (HB1.out.mono HB.out.size)⟩, by simp [intOf]; omega⟩
      · have hr : leftOf left (wtS (wtFn d) es) = (r : Int) := by
          have h1 := hrs.out
          rw [List.take_of_length_le (by rw [HN.out]; omega)] at h1
          rw [leftOf_ge (by unfold wtS; rw [HN.out]; omega)]
          unfold wtS; rw [HN.out]; omega
        have HR : Hid (leftOf left (wtS (wtFn d) es) = (r : Int)) := hr
        clear hr
        go_wp2
        go_ret
        exact ⟨by rw [HR.out]; rfl, HB.out⟩

set_option maxHeartbeats 2000000 in
theorem szRefS_of {d : Nat} (hE : SzC 46 (fun w v e => ∃ cs, v = .agg cs.toArray ∧ HRf cs e) (wtRf)) :
    SzC 28 (fun w v es => Rows w (fun g => g < N) 2 (HRf) v es) (wtS (wtRf)) := by
  intro w v es left h hl
  obtain ⟨p, cap, rfl, hcl, hcm, hx⟩ := h
  generalize hn : es.length = n at *
  have HN : Hid (es.length = n) := hn
  have HX : Hid _ := hx
  have hnb : n ≤ 9223372036854775807 := by unfold maxLen at hcm; omega
  clear hx hn
  by_cases h0 : left < n
  · have hr : leftOf left (wtS (wtRf) es) = -1 := leftOf_lt (by unfold wtS; rw [HN.out]; omega)
    have HR : Hid (leftOf left (wtS (wtRf) es) = -1) := hr
    clear hr
    go_enter Tryz.func28, Tryz.ntmps28
    go_wp2
    go_ret
    exact ⟨by rw [HR.out]; rfl, Below.refl _ _⟩
  · go_enter Tryz.func28, Tryz.ntmps28
    go_wp2
    go_loopw [1, 5] (fun lv iv wr => ∃ k r : Nat, k ≤ n ∧ iv = .int .i64 k ∧ lv = .int .i64 r ∧ Hid (r + n + ((es.take k).map (wtRf)).sum = left) ∧ Below w.heap.size w wr) (fun _ iv _ => n - (intOf iv).toNat)
    case atStart => exact ⟨0, left - n, Nat.zero_le _, rfl, by go_num, (by show left - n + n + _ = left; simp; omega), Below.refl _ _⟩
    case round =>
      obtain ⟨k, r, hk, rfl, rfl, hrs, hb⟩ := hrel
      have HB : Hid (Below w.heap.size w wr) := hb
      by_cases hlt : k < n
      · obtain ⟨x, hxk⟩ : ∃ x, es[k]? = some x := ⟨es[k]'(by rw [HN.out]; exact hlt), List.getElem?_eq_getElem _⟩
        obtain ⟨g, off, rfl, hg, hgl, hat⟩ := HX.out (by intro h; rw [h] at hxk; simp at hxk)
        obtain ⟨cs, hcl6, hcs, hex⟩ := hat k x hxk
        have hex' : HRf cs x := hex
        obtain ⟨c0, c1, rfl⟩ := len2 hcl6
        have a0 := hcs 0 (by omega)
        have a1 := hcs 1 (by omega)
        rw [← hb.cell (p := ⟨g, _, none⟩) hgl] at a0 a1
        simp at a0 a1
        clear hb hcs hat hex hcl6
        have hrb : r ≤ 1048576 := by have := hrs.out; omega
        have hst := sum_take_succ (wtRf) es k x hxk
        have HST : Hid (((es.take (k + 1)).map (wtRf)).sum = ((es.take k).map (wtRf)).sum + wtRf x) := hst
        have hle := sum_take_le (wtRf) es (k + 1)
        have HLE : Hid (((es.take (k + 1)).map (wtRf)).sum ≤ (es.map (wtRf)).sum) := hle
        clear hst hle
        generalize hwx : wtRf x = y at *
        have HY : Hid (wtRf x = y) := hwx
        by_cases hy : r < y
        · have hr : leftOf left (wtS (wtRf) es) = -1 := leftOf_lt (by unfold wtS; have := hrs.out; have := HLE.out; have := HST.out; rw [HN.out]; omega)
          have HR : Hid (leftOf left (wtS (wtRf) es) = -1) := hr
          have hr2 : leftOf r y = -1 := leftOf_lt hy
          clear hr hwx
          go_wp2_with (go_at_call 46; go_must (refine (hE _ _ x r ⟨_, rfl, hex'⟩ hrb).mono ?_; rintro e w1 ⟨rfl, hb1⟩; rw [HY.out, hr2]; have HB1 : Hid _ := hb1; clear hb1))
          go_ret
          exact ⟨by rw [HR.out]; rfl, HB.out.trans (HB1.out.mono HB.out.size)⟩
        · have hr2 : leftOf r y = ((r - y : Nat) : Int) := leftOf_ge (by omega)
          clear hwx
          go_wp2_with (go_at_call 46; go_must (refine (hE _ _ x r ⟨_, rfl, hex'⟩ hrb).mono ?_; rintro e w1 ⟨rfl, hb1⟩; rw [HY.out, hr2]; have HB1 : Hid _ := hb1; clear hb1))
          exact ⟨⟨k + 1, r - y, by omega, by go_num, rfl, (by have := hrs.out; have := HST.out; show r - y + n + _ = left; omega), HB.out.trans (HB1.out.mono HB.out.size)⟩, by simp [intOf]; omega⟩
      · have hr : leftOf left (wtS (wtRf) es) = (r : Int) := by
          have h1 := hrs.out
          rw [List.take_of_length_le (by rw [HN.out]; omega)] at h1
          rw [leftOf_ge (by unfold wtS; rw [HN.out]; omega)]
          unfold wtS; rw [HN.out]; omega
        have HR : Hid (leftOf left (wtS (wtRf) es) = (r : Int)) := hr
        clear hr
        go_wp2
        go_ret
        exact ⟨by rw [HR.out]; rfl, HB.out⟩

set_option maxHeartbeats 2000000 in
theorem szExp_of {d : Nat} (h1 : SzC 116 (fun w v es => Rows w (fun g => g < N) 6 (HEx w (fun g => g < N) d) v es) (wtS (wtEx d))) (h2 : SzC 74 (fun w v es => Rows w (fun g => g < N) 2 (HCl w (fun g => g < N) (HEx w (fun g => g < N) d)) v es) (wtS (wtCl (wtEx d)))) :
    SzC 130 (fun w v e => ∃ cs, v = .agg cs.toArray ∧ HEx w (fun g => g < N) (d + 1) cs e) (wtEx (d + 1)) := by
  intro w v e left h hl
  obtain ⟨cs, rfl, kv, cv, rfl, hk, hn, ht, hm, hks, hcs⟩ := h
  have hb0 : e.text.size ≤ 9223372036854775807 := by have := ht; unfold okS maxLen at this; omega
  have hb1 : e.mod.size ≤ 9223372036854775807 := by have := hm; unfold okS maxLen at this; omega
  have hal : SameOn (fun g => g < N) w (w.alloc (.cells #[.int .i64 e.kind, .int .i64 e.n, .string e.text, .string e.mod, kv, cv] 165)) := SameOn.of_below ((Below.refl _ _).alloc (Nat.le_refl _) _)
  replace hks := hks.mono hal (fun _ h => h) (fun _ _ _ => HEx.mono hal (fun _ h => h))
  replace hcs := hcs.mono hal (fun _ h => h) (fun _ _ _ h => h.mono hal (fun _ h => h) (fun _ _ => HEx.mono hal (fun _ h => h)))
  have HW : Hid (wtEx (d + 1) e = e.text.size + e.mod.size + wtS (wtEx d) e.kids + wtS (wtCl (wtEx d)) e.clauses) := rfl
  generalize wtEx (d + 1) e = W at *
  have hx0 : ∃ x0 : Nat, e.text.size = x0 := ⟨_, rfl⟩
  obtain ⟨x0, hx0⟩ := hx0
  rw [hx0] at hb0
  have hx1 : ∃ x1 : Nat, e.mod.size = x1 := ⟨_, rfl⟩
  obtain ⟨x1, hx1⟩ := hx1
  rw [hx1] at hb1
  generalize hx2 : wtS (wtEx d) e.kids = x2 at *
  have HX2 : Hid (wtS (wtEx d) e.kids = x2) := hx2
  clear hx2
  generalize hx3 : wtS (wtCl (wtEx d)) e.clauses = x3 at *
  have HX3 : Hid (wtS (wtCl (wtEx d)) e.clauses = x3) := hx3
  clear hx3
  by_cases t0 : left < x0
  · have HR : Hid (leftOf left W = -1) := by
      have := HW.out
      show leftOf left W = _
      exact leftOf_lt (by omega)
    clear HW
    go_enter Tryz.func130, Tryz.ntmps130
    go_wp2
    go_ret
    exact ⟨by rw [HR.out]; first | rfl | (congr 2; omega) | (simp; omega), ((Below.refl _ _).alloc (Nat.le_refl _) _)⟩
  by_cases t1 : left - x0 < x1
  · have HR : Hid (leftOf left W = -1) := by
      have := HW.out
      show leftOf left W = _
      exact leftOf_lt (by omega)
    clear HW
    go_enter Tryz.func130, Tryz.ntmps130
    go_wp2
    go_ret
    exact ⟨by rw [HR.out]; first | rfl | (congr 2; omega) | (simp; omega), ((Below.refl _ _).alloc (Nat.le_refl _) _)⟩
  by_cases t2 : left - x0 - x1 < x2
  · have HR : Hid (leftOf left W = -1) := by
      have := HW.out
      show leftOf left W = _
      exact leftOf_lt (by omega)
    have hr2 : leftOf (left - x0 - x1) x2 = -1 := leftOf_lt t2
    clear HW
    go_enter Tryz.func130, Tryz.ntmps130
    go_wp2_with (first | (go_at_call 116; go_must (refine (h1.at (w := _) (v := _) e.kids _ (left - x0 - x1) (by omega) hks (by omega)).mono ?_; rintro e w2 ⟨rfl, hb2⟩; rw [HX2.out, hr2]; have HB2 : Hid _ := hb2; have hk2 := (hb2.cell (p := ⟨w.heap.size, 5, none⟩) (by simp)).trans (cell_new _ _ _ 5 cv rfl); clear hb2)) )
    go_ret
    exact ⟨by rw [HR.out]; first | rfl | (congr 2; omega) | (simp; omega), (((Below.refl _ _).alloc (Nat.le_refl _) _).trans (HB2.out.mono ((Below.refl _ _).alloc (Nat.le_refl _) _).size))⟩
  by_cases t3 : left - x0 - x1 - x2 < x3
  · have HR : Hid (leftOf left W = -1) := by
      have := HW.out
      show leftOf left W = _
      exact leftOf_lt (by omega)
    have hr2 : leftOf (left - x0 - x1) x2 = ((left - x0 - x1 - x2 : Nat) : Int) := by rw [leftOf_ge (by omega)]
    have hr3 : leftOf (left - x0 - x1 - x2) x3 = -1 := leftOf_lt t3
    clear HW
    go_enter Tryz.func130, Tryz.ntmps130
    go_wp2_with (first | (go_at_call 74; go_must (refine (h2.at (w := _) (v := _) e.clauses _ (left - x0 - x1 - x2) (by omega) (hcs.mono (SameOn.of_below HB2.out) (fun _ h => h) (fun _ _ _ h => h.mono (SameOn.of_below HB2.out) (fun _ h => h) (fun _ _ => HEx.mono (SameOn.of_below HB2.out) (fun _ h => h)))) (by omega)).mono ?_; rintro e w3 ⟨rfl, hb3⟩; rw [HX3.out, hr3]; have HB3 : Hid _ := hb3; clear hb3)) | (go_at_call 116; go_must (refine (h1.at (w := _) (v := _) e.kids _ (left - x0 - x1) (by omega) hks (by omega)).mono ?_; rintro e w2 ⟨rfl, hb2⟩; rw [HX2.out, hr2]; have HB2 : Hid _ := hb2; have hk2 := (hb2.cell (p := ⟨w.heap.size, 5, none⟩) (by simp)).trans (cell_new _ _ _ 5 cv rfl); clear hb2)) )
    go_ret
    exact ⟨by rw [HR.out]; first | rfl | (congr 2; omega) | (simp; omega), ((((Below.refl _ _).alloc (Nat.le_refl _) _).trans (HB2.out.mono ((Below.refl _ _).alloc (Nat.le_refl _) _).size)).trans (HB3.out.mono (((Below.refl _ _).alloc (Nat.le_refl _) _).trans (HB2.out.mono ((Below.refl _ _).alloc (Nat.le_refl _) _).size)).size))⟩
  have HR : Hid (leftOf left W = ((left - x0 - x1 - x2 - x3 : Nat) : Int)) := by
    have := HW.out
    show leftOf left W = _
    rw [leftOf_ge (by omega)]; omega
  have hr2 : leftOf (left - x0 - x1) x2 = ((left - x0 - x1 - x2 : Nat) : Int) := by rw [leftOf_ge (by omega)]
  have hr3 : leftOf (left - x0 - x1 - x2) x3 = ((left - x0 - x1 - x2 - x3 : Nat) : Int) := by rw [leftOf_ge (by omega)]
  clear HW
  go_enter Tryz.func130, Tryz.ntmps130
  go_wp2_with (first | (go_at_call 74; go_must (refine (h2.at (w := _) (v := _) e.clauses _ (left - x0 - x1 - x2) (by omega) (hcs.mono (SameOn.of_below HB2.out) (fun _ h => h) (fun _ _ _ h => h.mono (SameOn.of_below HB2.out) (fun _ h => h) (fun _ _ => HEx.mono (SameOn.of_below HB2.out) (fun _ h => h)))) (by omega)).mono ?_; rintro e w3 ⟨rfl, hb3⟩; rw [HX3.out, hr3]; have HB3 : Hid _ := hb3; clear hb3)) | (go_at_call 116; go_must (refine (h1.at (w := _) (v := _) e.kids _ (left - x0 - x1) (by omega) hks (by omega)).mono ?_; rintro e w2 ⟨rfl, hb2⟩; rw [HX2.out, hr2]; have HB2 : Hid _ := hb2; have hk2 := (hb2.cell (p := ⟨w.heap.size, 5, none⟩) (by simp)).trans (cell_new _ _ _ 5 cv rfl); clear hb2)) )
  go_ret
  exact ⟨by rw [HR.out]; first | rfl | (congr 2; omega) | (simp; omega), ((((Below.refl _ _).alloc (Nat.le_refl _) _).trans (HB2.out.mono ((Below.refl _ _).alloc (Nat.le_refl _) _).size)).trans (HB3.out.mono (((Below.refl _ _).alloc (Nat.le_refl _) _).trans (HB2.out.mono ((Below.refl _ _).alloc (Nat.le_refl _) _).size)).size))⟩

set_option maxHeartbeats 2000000 in
theorem szClause_of {d : Nat} (h1 : SzC 116 (fun w v es => Rows w (fun g => g < N) 6 (HEx w (fun g => g < N) d) v es) (wtS (wtEx d))) (h2 : SzC 116 (fun w v es => Rows w (fun g => g < N) 6 (HEx w (fun g => g < N) d) v es) (wtS (wtEx d))) :
    SzC 100 (fun w v e => ∃ cs, v = .agg cs.toArray ∧ HCl w (fun g => g < N) (HEx w (fun g => g < N) d) cs e) (wtCl (wtEx d)) := by
  intro w v e left h hl
  obtain ⟨cs, rfl, kv, cv, rfl, hks, hcs⟩ := h
  have hal : SameOn (fun g => g < N) w (w.alloc (.cells #[kv, cv] 139)) := SameOn.of_below ((Below.refl _ _).alloc (Nat.le_refl _) _)
  replace hks := hks.mono hal (fun _ h => h) (fun _ _ _ => HEx.mono hal (fun _ h => h))
  replace hcs := hcs.mono hal (fun _ h => h) (fun _ _ _ => HEx.mono hal (fun _ h => h))
  have HW : Hid (wtCl (wtEx d) e = wtS (wtEx d) e.1 + wtS (wtEx d) e.2) := rfl
  generalize wtCl (wtEx d) e = W at *
  generalize hx0 : wtS (wtEx d) e.1 = x0 at *
  have HX0 : Hid (wtS (wtEx d) e.1 = x0) := hx0
  clear hx0
  generalize hx1 : wtS (wtEx d) e.2 = x1 at *
  have HX1 : Hid (wtS (wtEx d) e.2 = x1) := hx1
  clear hx1
  by_cases t0 : left < x0
  · have HR : Hid (leftOf left W = -1) := by
      have := HW.out
      show leftOf left W = _
      exact leftOf_lt (by omega)
    have hr0 : leftOf (left) x0 = -1 := leftOf_lt t0
    clear HW
    go_enter Tryz.func100, Tryz.ntmps100
    go_wp2_with (first | (go_at_call 116; (refine (h1.at (w := _) (v := _) e.1 _ (left) (by omega) hks (by omega)).mono ?_; rintro e w0 ⟨rfl, hb0⟩; rw [HX0.out, hr0]; have HB0 : Hid _ := hb0; have hk0 := (hb0.cell (p := ⟨w.heap.size, 1, none⟩) (by simp)).trans (cell_new _ _ _ 1 cv rfl); clear hb0)) )
    go_ret
    exact ⟨by rw [HR.out]; first | rfl | (congr 2; omega) | (simp; omega), (((Below.refl _ _).alloc (Nat.le_refl _) _).trans (HB0.out.mono ((Below.refl _ _).alloc (Nat.le_refl _) _).size))⟩
  by_cases t1 : left - x0 < x1
  · have HR : Hid (leftOf left W = -1) := by
      have := HW.out
      show leftOf left W = _
      exact leftOf_lt (by omega)
    have hr0 : leftOf (left) x0 = ((left - x0 : Nat) : Int) := by rw [leftOf_ge (by omega)]
    have hr1 : leftOf (left - x0) x1 = -1 := leftOf_lt t1
    clear HW
    go_enter Tryz.func100, Tryz.ntmps100
    go_wp2_with (first | (go_at_call 116; (refine (h2.at (w := _) (v := _) e.2 _ (left - x0) (by omega) (hcs.mono (SameOn.of_below HB0.out) (fun _ h => h) (fun _ _ _ => HEx.mono (SameOn.of_below HB0.out) (fun _ h => h))) (by omega)).mono ?_; rintro e w1 ⟨rfl, hb1⟩; rw [HX1.out, hr1]; have HB1 : Hid _ := hb1; clear hb1)) | (go_at_call 116; (refine (h1.at (w := _) (v := _) e.1 _ (left) (by omega) hks (by omega)).mono ?_; rintro e w0 ⟨rfl, hb0⟩; rw [HX0.out, hr0]; have HB0 : Hid _ := hb0; have hk0 := (hb0.cell (p := ⟨w.heap.size, 1, none⟩) (by simp)).trans (cell_new _ _ _ 1 cv rfl); clear hb0)) )
    go_ret
    exact ⟨by rw [HR.out]; first | rfl | (congr 2; omega) | (simp; omega), ((((Below.refl _ _).alloc (Nat.le_refl _) _).trans (HB0.out.mono ((Below.refl _ _).alloc (Nat.le_refl _) _).size)).trans (HB1.out.mono (((Below.refl _ _).alloc (Nat.le_refl _) _).trans (HB0.out.mono ((Below.refl _ _).alloc (Nat.le_refl _) _).size)).size))⟩
  have HR : Hid (leftOf left W = ((left - x0 - x1 : Nat) : Int)) := by
    have := HW.out
    show leftOf left W = _
    rw [leftOf_ge (by omega)]; omega
  have hr0 : leftOf (left) x0 = ((left - x0 : Nat) : Int) := by rw [leftOf_ge (by omega)]
  have hr1 : leftOf (left - x0) x1 = ((left - x0 - x1 : Nat) : Int) := by rw [leftOf_ge (by omega)]
  clear HW
  go_enter Tryz.func100, Tryz.ntmps100
  go_wp2_with (first | (go_at_call 116; (refine (h2.at (w := _) (v := _) e.2 _ (left - x0) (by omega) (hcs.mono (SameOn.of_below HB0.out) (fun _ h => h) (fun _ _ _ => HEx.mono (SameOn.of_below HB0.out) (fun _ h => h))) (by omega)).mono ?_; rintro e w1 ⟨rfl, hb1⟩; rw [HX1.out, hr1]; have HB1 : Hid _ := hb1; clear hb1)) | (go_at_call 116; (refine (h1.at (w := _) (v := _) e.1 _ (left) (by omega) hks (by omega)).mono ?_; rintro e w0 ⟨rfl, hb0⟩; rw [HX0.out, hr0]; have HB0 : Hid _ := hb0; have hk0 := (hb0.cell (p := ⟨w.heap.size, 1, none⟩) (by simp)).trans (cell_new _ _ _ 1 cv rfl); clear hb0)) )
  go_ret
  exact ⟨by rw [HR.out]; first | rfl | (congr 2; omega) | (simp; omega), ((((Below.refl _ _).alloc (Nat.le_refl _) _).trans (HB0.out.mono ((Below.refl _ _).alloc (Nat.le_refl _) _).size)).trans (HB1.out.mono (((Below.refl _ _).alloc (Nat.le_refl _) _).trans (HB0.out.mono ((Below.refl _ _).alloc (Nat.le_refl _) _).size)).size))⟩

set_option maxHeartbeats 2000000 in
theorem szFun_of {d : Nat} (h1 : SzC 74 (fun w v es => Rows w (fun g => g < N) 2 (HCl w (fun g => g < N) (HEx w (fun g => g < N) d)) v es) (wtS (wtCl (wtEx d)))) :
    SzC 47 (fun w v e => ∃ cs, v = .agg cs.toArray ∧ HFn w (fun g => g < N) d cs e) (wtFn d) := by
  intro w v e left h hl
  obtain ⟨cs, rfl, cv, rfl, ht, hn, hcs⟩ := h
  have hb0 : e.name.size ≤ 9223372036854775807 := by have := ht; unfold okS maxLen at this; omega
  have hal : SameOn (fun g => g < N) w (w.alloc (.cells #[.string e.name, .int .i64 e.arity, cv] 91)) := SameOn.of_below ((Below.refl _ _).alloc (Nat.le_refl _) _)
  replace hcs := hcs.mono hal (fun _ h => h) (fun _ _ _ h => h.mono hal (fun _ h => h) (fun _ _ => HEx.mono hal (fun _ h => h)))
  have HW : Hid (wtFn d e = e.name.size + wtS (wtCl (wtEx d)) e.clauses) := rfl
  generalize wtFn d e = W at *
  have hx0 : ∃ x0 : Nat, e.name.size = x0 := ⟨_, rfl⟩
  obtain ⟨x0, hx0⟩ := hx0
  rw [hx0] at hb0
  generalize hx1 : wtS (wtCl (wtEx d)) e.clauses = x1 at *
  have HX1 : Hid (wtS (wtCl (wtEx d)) e.clauses = x1) := hx1
  clear hx1
  by_cases t0 : left < x0
  · have HR : Hid (leftOf left W = -1) := by
      have := HW.out
      show leftOf left W = _
      exact leftOf_lt (by omega)
    clear HW
    go_enter Tryz.func47, Tryz.ntmps47
    go_wp2
    go_ret
    exact ⟨by rw [HR.out]; first | rfl | (congr 2; omega) | (simp; omega), ((Below.refl _ _).alloc (Nat.le_refl _) _)⟩
  by_cases t1 : left - x0 < x1
  · have HR : Hid (leftOf left W = -1) := by
      have := HW.out
      show leftOf left W = _
      exact leftOf_lt (by omega)
    have hr1 : leftOf (left - x0) x1 = -1 := leftOf_lt t1
    clear HW
    go_enter Tryz.func47, Tryz.ntmps47
    go_wp2_with (first | (go_at_call 74; go_must (refine (h1.at (w := _) (v := _) e.clauses _ (left - x0) (by omega) hcs (by omega)).mono ?_; rintro e w1 ⟨rfl, hb1⟩; rw [HX1.out, hr1]; have HB1 : Hid _ := hb1; clear hb1)) )
    go_ret
    exact ⟨by rw [HR.out]; first | rfl | (congr 2; omega) | (simp; omega), (((Below.refl _ _).alloc (Nat.le_refl _) _).trans (HB1.out.mono ((Below.refl _ _).alloc (Nat.le_refl _) _).size))⟩
  have HR : Hid (leftOf left W = ((left - x0 - x1 : Nat) : Int)) := by
    have := HW.out
    show leftOf left W = _
    rw [leftOf_ge (by omega)]; omega
  have hr1 : leftOf (left - x0) x1 = ((left - x0 - x1 : Nat) : Int) := by rw [leftOf_ge (by omega)]
  clear HW
  go_enter Tryz.func47, Tryz.ntmps47
  go_wp2_with (first | (go_at_call 74; go_must (refine (h1.at (w := _) (v := _) e.clauses _ (left - x0) (by omega) hcs (by omega)).mono ?_; rintro e w1 ⟨rfl, hb1⟩; rw [HX1.out, hr1]; have HB1 : Hid _ := hb1; clear hb1)) )
  go_ret
  exact ⟨by rw [HR.out]; first | rfl | (congr 2; omega) | (simp; omega), (((Below.refl _ _).alloc (Nat.le_refl _) _).trans (HB1.out.mono ((Below.refl _ _).alloc (Nat.le_refl _) _).size))⟩

set_option maxHeartbeats 2000000 in
theorem szRef_of {d : Nat}  :
    SzC 46 (fun w v e => ∃ cs, v = .agg cs.toArray ∧ HRf cs e) (wtRf) := by
  intro w v e left h hl
  obtain ⟨cs, rfl, rfl, ht, hn⟩ := h
  have hb0 : e.name.size ≤ 9223372036854775807 := by have := ht; unfold okS maxLen at this; omega
  have HW : Hid (wtRf e = e.name.size) := rfl
  generalize wtRf e = W at *
  have hx0 : ∃ x0 : Nat, e.name.size = x0 := ⟨_, rfl⟩
  obtain ⟨x0, hx0⟩ := hx0
  rw [hx0] at hb0
  by_cases t0 : left < x0
  · have HR : Hid (leftOf left W = -1) := by
      have := HW.out
      show leftOf left W = _
      exact leftOf_lt (by omega)
    clear HW
    go_enter Tryz.func46, Tryz.ntmps46
    go_wp2
    go_ret
    exact ⟨by rw [HR.out]; first | rfl | (congr 2; omega) | (simp; omega), ((Below.refl _ _).alloc (Nat.le_refl _) _)⟩
  have HR : Hid (leftOf left W = ((left - x0 : Nat) : Int)) := by
    have := HW.out
    show leftOf left W = _
    rw [leftOf_ge (by omega)]; omega
  clear HW
  go_enter Tryz.func46, Tryz.ntmps46
  go_wp2
  go_ret
  exact ⟨by rw [HR.out]; first | rfl | (congr 2; omega) | (simp; omega), ((Below.refl _ _).alloc (Nat.le_refl _) _)⟩

set_option maxHeartbeats 2000000 in
theorem szModule_of {d : Nat} (h1 : SzC 28 (fun w v es => Rows w (fun g => g < N) 2 (HRf) v es) (wtS (wtRf))) (h2 : SzC 29 (fun w v es => Rows w (fun g => g < N) 3 (HFn w (fun g => g < N) d) v es) (wtS (wtFn d))) :
    SzC 16 (fun w v e => ∃ cs, v = .agg cs.toArray ∧ HMd w (fun g => g < N) d cs e) (wtMd d) := by
  intro w v e left h hl
  obtain ⟨cs, rfl, kv, cv, rfl, ht, hks, hcs⟩ := h
  have hb0 : e.name.size ≤ 9223372036854775807 := by have := ht; unfold okS maxLen at this; omega
  have hal : SameOn (fun g => g < N) w (w.alloc (.cells #[.string e.name, kv, cv] 38)) := SameOn.of_below ((Below.refl _ _).alloc (Nat.le_refl _) _)
  replace hks := hks.mono hal (fun _ h => h) (fun _ _ _ h => h)
  replace hcs := hcs.mono hal (fun _ h => h) (fun _ _ _ h => h.mono hal (fun _ h => h))
  have HW : Hid (wtMd d e = e.name.size + wtS wtRf e.exports + wtS (wtFn d) e.funs) := rfl
  generalize wtMd d e = W at *
  have hx0 : ∃ x0 : Nat, e.name.size = x0 := ⟨_, rfl⟩
  obtain ⟨x0, hx0⟩ := hx0
  rw [hx0] at hb0
  generalize hx1 : wtS wtRf e.exports = x1 at *
  have HX1 : Hid (wtS wtRf e.exports = x1) := hx1
  clear hx1
  generalize hx2 : wtS (wtFn d) e.funs = x2 at *
  have HX2 : Hid (wtS (wtFn d) e.funs = x2) := hx2
  clear hx2
  by_cases t0 : left < x0
  · have HR : Hid (leftOf left W = -1) := by
      have := HW.out
      show leftOf left W = _
      exact leftOf_lt (by omega)
    clear HW
    go_enter Tryz.func16, Tryz.ntmps16
    go_wp2
    go_ret
    exact ⟨by rw [HR.out]; first | rfl | (congr 2; omega) | (simp; omega), ((Below.refl _ _).alloc (Nat.le_refl _) _)⟩
  by_cases t1 : left - x0 < x1
  · have HR : Hid (leftOf left W = -1) := by
      have := HW.out
      show leftOf left W = _
      exact leftOf_lt (by omega)
    have hr1 : leftOf (left - x0) x1 = -1 := leftOf_lt t1
    clear HW
    go_enter Tryz.func16, Tryz.ntmps16
    go_wp2_with (first | (go_at_call 28; go_must (refine (h1.at (w := _) (v := _) e.exports _ (left - x0) (by omega) hks (by omega)).mono ?_; rintro e w1 ⟨rfl, hb1⟩; rw [HX1.out, hr1]; have HB1 : Hid _ := hb1; have hk1 := (hb1.cell (p := ⟨w.heap.size, 2, none⟩) (by simp)).trans (cell_new _ _ _ 2 cv rfl); clear hb1)) )
    go_ret
    exact ⟨by rw [HR.out]; first | rfl | (congr 2; omega) | (simp; omega), (((Below.refl _ _).alloc (Nat.le_refl _) _).trans (HB1.out.mono ((Below.refl _ _).alloc (Nat.le_refl _) _).size))⟩
  by_cases t2 : left - x0 - x1 < x2
  · have HR : Hid (leftOf left W = -1) := by
      have := HW.out
      show leftOf left W = _
      exact leftOf_lt (by omega)
    have hr1 : leftOf (left - x0) x1 = ((left - x0 - x1 : Nat) : Int) := by rw [leftOf_ge (by omega)]
    have hr2 : leftOf (left - x0 - x1) x2 = -1 := leftOf_lt t2
    clear HW
    go_enter Tryz.func16, Tryz.ntmps16
    go_wp2_with (first | (go_at_call 29; go_must (refine (h2.at (w := _) (v := _) e.funs _ (left - x0 - x1) (by omega) (hcs.mono (SameOn.of_below HB1.out) (fun _ h => h) (fun _ _ _ h => h.mono (SameOn.of_below HB1.out) (fun _ h => h))) (by omega)).mono ?_; rintro e w2 ⟨rfl, hb2⟩; rw [HX2.out, hr2]; have HB2 : Hid _ := hb2; clear hb2)) | (go_at_call 28; go_must (refine (h1.at (w := _) (v := _) e.exports _ (left - x0) (by omega) hks (by omega)).mono ?_; rintro e w1 ⟨rfl, hb1⟩; rw [HX1.out, hr1]; have HB1 : Hid _ := hb1; have hk1 := (hb1.cell (p := ⟨w.heap.size, 2, none⟩) (by simp)).trans (cell_new _ _ _ 2 cv rfl); clear hb1)) )
    go_ret
    exact ⟨by rw [HR.out]; first | rfl | (congr 2; omega) | (simp; omega), ((((Below.refl _ _).alloc (Nat.le_refl _) _).trans (HB1.out.mono ((Below.refl _ _).alloc (Nat.le_refl _) _).size)).trans (HB2.out.mono (((Below.refl _ _).alloc (Nat.le_refl _) _).trans (HB1.out.mono ((Below.refl _ _).alloc (Nat.le_refl _) _).size)).size))⟩
  have HR : Hid (leftOf left W = ((left - x0 - x1 - x2 : Nat) : Int)) := by
    have := HW.out
    show leftOf left W = _
    rw [leftOf_ge (by omega)]; omega
  have hr1 : leftOf (left - x0) x1 = ((left - x0 - x1 : Nat) : Int) := by rw [leftOf_ge (by omega)]
  have hr2 : leftOf (left - x0 - x1) x2 = ((left - x0 - x1 - x2 : Nat) : Int) := by rw [leftOf_ge (by omega)]
  clear HW
  go_enter Tryz.func16, Tryz.ntmps16
  go_wp2_with (first | (go_at_call 29; go_must (refine (h2.at (w := _) (v := _) e.funs _ (left - x0 - x1) (by omega) (hcs.mono (SameOn.of_below HB1.out) (fun _ h => h) (fun _ _ _ h => h.mono (SameOn.of_below HB1.out) (fun _ h => h))) (by omega)).mono ?_; rintro e w2 ⟨rfl, hb2⟩; rw [HX2.out, hr2]; have HB2 : Hid _ := hb2; clear hb2)) | (go_at_call 28; go_must (refine (h1.at (w := _) (v := _) e.exports _ (left - x0) (by omega) hks (by omega)).mono ?_; rintro e w1 ⟨rfl, hb1⟩; rw [HX1.out, hr1]; have HB1 : Hid _ := hb1; have hk1 := (hb1.cell (p := ⟨w.heap.size, 2, none⟩) (by simp)).trans (cell_new _ _ _ 2 cv rfl); clear hb1)) )
  go_ret
  exact ⟨by rw [HR.out]; first | rfl | (congr 2; omega) | (simp; omega), ((((Below.refl _ _).alloc (Nat.le_refl _) _).trans (HB1.out.mono ((Below.refl _ _).alloc (Nat.le_refl _) _).size)).trans (HB2.out.mono (((Below.refl _ _).alloc (Nat.le_refl _) _).trans (HB1.out.mono ((Below.refl _ _).alloc (Nat.le_refl _) _).size)).size))⟩

theorem szExp_all : ∀ d, SzC 130 (fun w v e => ∃ cs, v = .agg cs.toArray ∧ HEx w (fun g => g < N) d cs e) (wtEx d)
  | 0 => fun w v x left ⟨_, _, h⟩ _ => h.elim
  | d + 1 => szExp_of (szExpS_of (szExp_all d)) (szClauseS_of (szClause_of (szExpS_of (szExp_all d)) (szExpS_of (szExp_all d))))
theorem szClauseS_all (d : Nat) : SzC 74 (fun w v es => Rows w (fun g => g < N) 2 (HCl w (fun g => g < N) (HEx w (fun g => g < N) d)) v es) (wtS (wtCl (wtEx d))) :=
  szClauseS_of (szClause_of (szExpS_of (szExp_all d)) (szExpS_of (szExp_all d)))

/-- THE LAWS' szModule. -/
theorem szModule_all (d : Nat) : SzC 16 (fun w v m => ∃ cs, v = .agg cs.toArray ∧ HMd w (fun g => g < N) d cs m) (wtMd d) :=
  szModule_of (szRefS_of (d := 0) (szRef_of (d := 0))) (szFunS_of (szFun_of (szClauseS_all d)))
end Go.Proofs.YtigfmdfgioccjaaGreatDoor
/-
  The laws' szModuleS: the weight of a row of modules.
-/
namespace Go.Proofs.YtigfmdfgioccjaaGreatDoor
open Go.ChangeShapes Go.WideShapes Go.ChangeAt Go.RowKit
set_option linter.unusedVariables false

section
variable {N : Nat}

set_option maxHeartbeats 2000000 in
theorem szModuleS_of {d : Nat} (hE : SzC 16 (fun w v e => ∃ cs, v = .agg cs.toArray ∧ HMd w (fun g => g < N) d cs e) (wtMd d)) :
    SzC 5 (fun w v es => Rows w (fun g => g < N) 3 (HMd w (fun g => g < N) d) v es) (wtS (wtMd d)) := by
  intro w v es left h hl
  obtain ⟨p, cap, rfl, hcl, hcm, hx⟩ := h
  generalize hn : es.length = n at *
  have HN : Hid (es.length = n) := hn
  have HX : Hid _ := hx
  have hnb : n ≤ 9223372036854775807 := by unfold maxLen at hcm; omega
  clear hx hn
  by_cases h0 : left < n
  · have hr : leftOf left (wtS (wtMd d) es) = -1 := leftOf_lt (by unfold wtS; rw [HN.out]; omega)
    have HR : Hid (leftOf left (wtS (wtMd d) es) = -1) := hr
    clear hr
    go_enter Tryz.func5, Tryz.ntmps5
    go_wp2
    go_ret
    exact ⟨by rw [HR.out]; rfl, Below.refl _ _⟩
  · go_enter Tryz.func5, Tryz.ntmps5
    go_wp2
    go_loopw [1, 5] (fun lv iv wr => ∃ k r : Nat, k ≤ n ∧ iv = .int .i64 k ∧ lv = .int .i64 r ∧ Hid (r + n + ((es.take k).map (wtMd d)).sum = left) ∧ Below w.heap.size w wr) (fun _ iv _ => n - (intOf iv).toNat)
    case atStart => exact ⟨0, left - n, Nat.zero_le _, rfl, by go_num, (by show left - n + n + _ = left; simp; omega), Below.refl _ _⟩
    case round =>
      obtain ⟨k, r, hk, rfl, rfl, hrs, hb⟩ := hrel
      have HB : Hid (Below w.heap.size w wr) := hb
      by_cases hlt : k < n
      · obtain ⟨x, hxk⟩ : ∃ x, es[k]? = some x := ⟨es[k]'(by rw [HN.out]; exact hlt), List.getElem?_eq_getElem _⟩
        obtain ⟨g, off, rfl, hg, hgl, hat⟩ := HX.out (by intro h; rw [h] at hxk; simp at hxk)
        obtain ⟨cs, hcl6, hcs, hex⟩ := hat k x hxk
        have hex' : HMd wr (fun g => g < N) d cs x := hex.mono (SameOn.of_below hb) (fun _ h => h)
        obtain ⟨c0, c1, c2, rfl⟩ := len3 hcl6
        have a0 := hcs 0 (by omega)
        have a1 := hcs 1 (by omega)
        have a2 := hcs 2 (by omega)
        rw [← hb.cell (p := ⟨g, _, none⟩) hgl] at a0 a1 a2
        simp at a0 a1 a2
        clear hb hcs hat hex hcl6
        have hrb : r ≤ 1048576 := by have := hrs.out; omega
        have hst := sum_take_succ (wtMd d) es k x hxk
        have HST : Hid (((es.take (k + 1)).map (wtMd d)).sum = ((es.take k).map (wtMd d)).sum + wtMd d x) := hst
        have hle := sum_take_le (wtMd d) es (k + 1)
        have HLE : Hid (((es.take (k + 1)).map (wtMd d)).sum ≤ (es.map (wtMd d)).sum) := hle
        clear hst hle
        generalize hwx : wtMd d x = y at *
        have HY : Hid (wtMd d x = y) := hwx
        by_cases hy : r < y
        · have hr : leftOf left (wtS (wtMd d) es) = -1 := leftOf_lt (by unfold wtS; have := hrs.out; have := HLE.out; have := HST.out; rw [HN.out]; omega)
          have HR : Hid (leftOf left (wtS (wtMd d) es) = -1) := hr
          have hr2 : leftOf r y = -1 := leftOf_lt hy
          clear hr hwx
          go_wp2_with (go_at_call 16; go_must (refine (hE _ _ x r ⟨_, rfl, hex'⟩ hrb).mono ?_; rintro e w1 ⟨rfl, hb1⟩; rw [HY.out, hr2]; have HB1 : Hid _ := hb1; clear hb1))
          go_ret
          exact ⟨by rw [HR.out]; rfl, HB.out.trans (HB1.out.mono HB.out.size)⟩
        · have hr2 : leftOf r y = ((r - y : Nat) : Int) := leftOf_ge (by omega)
          clear hwx
          go_wp2_with (go_at_call 16; go_must (refine (hE _ _ x r ⟨_, rfl, hex'⟩ hrb).mono ?_; rintro e w1 ⟨rfl, hb1⟩; rw [HY.out, hr2]; have HB1 : Hid _ := hb1; clear hb1))
          exact ⟨⟨k + 1, r - y, by omega, by go_num, rfl, (by have := hrs.out; have := HST.out; show r - y + n + _ = left; omega), HB.out.trans (HB1.out.mono HB.out.size)⟩, by simp [intOf]; omega⟩
      · have hr : leftOf left (wtS (wtMd d) es) = (r : Int) := by
          have h1 := hrs.out
          rw [List.take_of_length_le (by rw [HN.out]; omega)] at h1
          rw [leftOf_ge (by unfold wtS; rw [HN.out]; omega)]
          unfold wtS; rw [HN.out]; omega
        have HR : Hid (leftOf left (wtS (wtMd d) es) = (r : Int)) := hr
        clear hr
        go_wp2
        go_ret
        exact ⟨by rw [HR.out]; rfl, HB.out⟩

theorem szModuleS_all (d : Nat) : SzC 5 (fun w v es => Rows w (fun g => g < N) 3 (HMd w (fun g => g < N) d) v es) (wtS (wtMd d)) := szModuleS_of (szModule_all d)
end
end Go.Proofs.YtigfmdfgioccjaaGreatDoor
/-
  The laws' eqModule and what it calls: of two modules in memory that are the same tree it tells that they are.
-/
namespace Go.Proofs.YtigfmdfgioccjaaGreatDoor
open Go.ChangeShapes Go.WideShapes Go.ChangeAt Go.RowKit
set_option linter.unusedVariables false

set_option maxHeartbeats 2000000 in
theorem eqExpS_of {d : Nat} (hE : EqC 140 (fun w v e => ∃ cs, v = .agg cs.toArray ∧ HEx w All d cs e)) :
    EqC 129 (fun w v es => Rows w All 6 (HEx w All d) v es) := by
  intro w v1 v2 es h1 h2
  obtain ⟨p, cap, rfl, hcl, hcm, hx⟩ := h1
  obtain ⟨q, cap', rfl, hcl', hcm', hy⟩ := h2
  generalize hn : es.length = n at *
  have HN : Hid (es.length = n) := hn
  have HX : Hid _ := hx
  have HY : Hid _ := hy
  have hnb : n ≤ 9223372036854775807 := by unfold maxLen at hcm; omega
  clear hx hy hn
  go_enter Tryz.func129, Tryz.ntmps129
  go_wp2
  go_loopw [5] (fun iv wr => ∃ k : Nat, k ≤ n ∧ iv = .int .i64 k ∧ Below w.heap.size w wr) (fun iv _ => n - (intOf iv).toNat)
  case atStart => exact ⟨0, Nat.zero_le _, rfl, Below.refl _ _⟩
  case round =>
    obtain ⟨k, hk, rfl, hb⟩ := hrel
    have HB : Hid (Below w.heap.size w wr) := hb
    by_cases hlt : k < n
    · obtain ⟨x, hxk⟩ : ∃ x, es[k]? = some x := ⟨es[k]'(by rw [HN.out]; exact hlt), List.getElem?_eq_getElem _⟩
      have hne : es ≠ [] := by intro h; rw [h] at hxk; simp at hxk
      obtain ⟨g, off, rfl, _, hgl, hat⟩ := HX.out hne
      obtain ⟨g', off', rfl, _, hgl', hat'⟩ := HY.out hne
      obtain ⟨cs, hcl6, hcs, hex⟩ := hat k x hxk
      obtain ⟨cs', hcl6', hcs', hex'⟩ := hat' k x hxk
      have E1 : ∀ w', SameOn All wr w' → HEx w' All d cs x := fun w' hw => hex.mono (SameOn.trans (SameOn.of_below hb) hw) (fun _ h => h)
      have E2 : ∀ w', SameOn All wr w' → HEx w' All d cs' x := fun w' hw => hex'.mono (SameOn.trans (SameOn.of_below hb) hw) (fun _ h => h)
      obtain ⟨c0, c1, c2, c3, c4, c5, rfl⟩ := len6 hcl6
      obtain ⟨d0, d1, d2, d3, d4, d5, rfl⟩ := len6 hcl6'
      have a0 := hcs 0 (by omega)
      have b0 := hcs' 0 (by omega)
      have a1 := hcs 1 (by omega)
      have b1 := hcs' 1 (by omega)
      have a2 := hcs 2 (by omega)
      have b2 := hcs' 2 (by omega)
      have a3 := hcs 3 (by omega)
      have b3 := hcs' 3 (by omega)
      have a4 := hcs 4 (by omega)
      have b4 := hcs' 4 (by omega)
      have a5 := hcs 5 (by omega)
      have b5 := hcs' 5 (by omega)
      rw [← hb.cell (p := ⟨g, _, none⟩) hgl] at a0 a1 a2 a3 a4 a5
      rw [← hb.cell (p := ⟨g', _, none⟩) hgl'] at b0 b1 b2 b3 b4 b5
      simp at a0 a1 a2 a3 a4 a5 b0 b1 b2 b3 b4 b5
      clear hb hcs hat hex hcl6 hcs' hat' hex' hcl6' hne
      go_wp2
      go_region_with ((go_at_call 140; refine (hE _ _ _ x ⟨_, rfl, E1 _ (by exact ⟨Nat.le_refl _, fun _ _ _ => rfl⟩)⟩ ⟨_, rfl, E2 _ (by exact ⟨Nat.le_refl _, fun _ _ _ => rfl⟩)⟩).mono ?_; rintro e w1 ⟨rfl, hb1⟩; have HB1 : Hid _ := hb1; clear hb1))
      all_goals go_wp2
      all_goals
        have hbe : Below w.heap.size w w1 := by
          refine Below.trans ?_ (HB1.out.mono (by exact HB.out.size))
          repeat (first | exact HB.out | apply Below.drew)
        exact ⟨⟨k + 1, by omega, by go_num, hbe⟩, by simp [intOf]; omega⟩
    · go_wp2
      go_ret
      exact ⟨rfl, HB.out⟩

set_option maxHeartbeats 2000000 in
theorem eqClauseS_of {d : Nat} (hE : EqC 115 (fun w v e => ∃ cs, v = .agg cs.toArray ∧ HCl w All (HEx w All d) cs e)) :
    EqC 99 (fun w v es => Rows w All 2 (HCl w All (HEx w All d)) v es) := by
  intro w v1 v2 es h1 h2
  obtain ⟨p, cap, rfl, hcl, hcm, hx⟩ := h1
  obtain ⟨q, cap', rfl, hcl', hcm', hy⟩ := h2
  generalize hn : es.length = n at *
  have HN : Hid (es.length = n) := hn
  have HX : Hid _ := hx
  have HY : Hid _ := hy
  have hnb : n ≤ 9223372036854775807 := by unfold maxLen at hcm; omega
  clear hx hy hn
  go_enter Tryz.func99, Tryz.ntmps99
  go_wp2
  go_loopw [5] (fun iv wr => ∃ k : Nat, k ≤ n ∧ iv = .int .i64 k ∧ Below w.heap.size w wr) (fun iv _ => n - (intOf iv).toNat)
  case atStart => exact ⟨0, Nat.zero_le _, rfl, Below.refl _ _⟩
  case round =>
    obtain ⟨k, hk, rfl, hb⟩ := hrel
    have HB : Hid (Below w.heap.size w wr) := hb
    by_cases hlt : k < n
    · obtain ⟨x, hxk⟩ : ∃ x, es[k]? = some x := ⟨es[k]'(by rw [HN.out]; exact hlt), List.getElem?_eq_getElem _⟩
      have hne : es ≠ [] := by intro h; rw [h] at hxk; simp at hxk
      obtain ⟨g, off, rfl, _, hgl, hat⟩ := HX.out hne
      obtain ⟨g', off', rfl, _, hgl', hat'⟩ := HY.out hne
      obtain ⟨cs, hcl6, hcs, hex⟩ := hat k x hxk
      obtain ⟨cs', hcl6', hcs', hex'⟩ := hat' k x hxk
      have E1 : ∀ w', SameOn All wr w' → HCl w' All (HEx w' All d) cs x := fun w' hw => hex.mono (SameOn.trans (SameOn.of_below hb) hw) (fun _ h => h) (fun _ _ => HEx.mono (SameOn.trans (SameOn.of_below hb) hw) (fun _ h => h))
      have E2 : ∀ w', SameOn All wr w' → HCl w' All (HEx w' All d) cs' x := fun w' hw => hex'.mono (SameOn.trans (SameOn.of_below hb) hw) (fun _ h => h) (fun _ _ => HEx.mono (SameOn.trans (SameOn.of_below hb) hw) (fun _ h => h))
      obtain ⟨c0, c1, rfl⟩ := len2 hcl6
      obtain ⟨d0, d1, rfl⟩ := len2 hcl6'
      have a0 := hcs 0 (by omega)
      have b0 := hcs' 0 (by omega)
      have a1 := hcs 1 (by omega)
      have b1 := hcs' 1 (by omega)
      rw [← hb.cell (p := ⟨g, _, none⟩) hgl] at a0 a1
      rw [← hb.cell (p := ⟨g', _, none⟩) hgl'] at b0 b1
      simp at a0 a1 b0 b1
      clear hb hcs hat hex hcl6 hcs' hat' hex' hcl6' hne
      go_wp2
      go_region_with ((go_at_call 115; refine (hE _ _ _ x ⟨_, rfl, E1 _ (by exact ⟨Nat.le_refl _, fun _ _ _ => rfl⟩)⟩ ⟨_, rfl, E2 _ (by exact ⟨Nat.le_refl _, fun _ _ _ => rfl⟩)⟩).mono ?_; rintro e w1 ⟨rfl, hb1⟩; have HB1 : Hid _ := hb1; clear hb1))
      all_goals go_wp2
      all_goals
        have hbe : Below w.heap.size w w1 := by
          refine Below.trans ?_ (HB1.out.mono (by exact HB.out.size))
          repeat (first | exact HB.out | apply Below.drew)
        exact ⟨⟨k + 1, by omega, by go_num, hbe⟩, by simp [intOf]; omega⟩
    · go_wp2
      go_ret
      exact ⟨rfl, HB.out⟩

set_option maxHeartbeats 2000000 in
theorem eqFunS_of {d : Nat} (hE : EqC 72 (fun w v e => ∃ cs, v = .agg cs.toArray ∧ HFn w All d cs e)) :
    EqC 44 (fun w v es => Rows w All 3 (HFn w All d) v es) := by
  intro w v1 v2 es h1 h2
  obtain ⟨p, cap, rfl, hcl, hcm, hx⟩ := h1
  obtain ⟨q, cap', rfl, hcl', hcm', hy⟩ := h2
  generalize hn : es.length = n at *
  have HN : Hid (es.length = n) := hn
  have HX : Hid _ := hx
  have HY : Hid _ := hy
  have hnb : n ≤ 9223372036854775807 := by unfold maxLen at hcm; omega
  clear hx hy hn
  go_enter Tryz.func44, Tryz.ntmps44
  go_wp2
  go_loopw [5] (fun iv wr => ∃ k : Nat, k ≤ n ∧ iv = .int .i64 k ∧ Below w.heap.size w wr) (fun iv _ => n - (intOf iv).toNat)
  case atStart => exact ⟨0, Nat.zero_le _, rfl, Below.refl _ _⟩
  case round =>
    obtain ⟨k, hk, rfl, hb⟩ := hrel
    have HB : Hid (Below w.heap.size w wr) := hb
    by_cases hlt : k < n
    · obtain ⟨x, hxk⟩ : ∃ x, es[k]? = some x := ⟨es[k]'(by rw [HN.out]; exact hlt), List.getElem?_eq_getElem _⟩
      have hne : es ≠ [] := by intro h; rw [h] at hxk; simp at hxk
      obtain ⟨g, off, rfl, _, hgl, hat⟩ := HX.out hne
      obtain ⟨g', off', rfl, _, hgl', hat'⟩ := HY.out hne
      obtain ⟨cs, hcl6, hcs, hex⟩ := hat k x hxk
      obtain ⟨cs', hcl6', hcs', hex'⟩ := hat' k x hxk
      have E1 : ∀ w', SameOn All wr w' → HFn w' All d cs x := fun w' hw => hex.mono (SameOn.trans (SameOn.of_below hb) hw) (fun _ h => h)
      have E2 : ∀ w', SameOn All wr w' → HFn w' All d cs' x := fun w' hw => hex'.mono (SameOn.trans (SameOn.of_below hb) hw) (fun _ h => h)
      obtain ⟨c0, c1, c2, rfl⟩ := len3 hcl6
      obtain ⟨d0, d1, d2, rfl⟩ := len3 hcl6'
      have a0 := hcs 0 (by omega)
      have b0 := hcs' 0 (by omega)
      have a1 := hcs 1 (by omega)
      have b1 := hcs' 1 (by omega)
      have a2 := hcs 2 (by omega)
      have b2 := hcs' 2 (by omega)
      rw [← hb.cell (p := ⟨g, _, none⟩) hgl] at a0 a1 a2
      rw [← hb.cell (p := ⟨g', _, none⟩) hgl'] at b0 b1 b2
      simp at a0 a1 a2 b0 b1 b2
      clear hb hcs hat hex hcl6 hcs' hat' hex' hcl6' hne
      go_wp2
      go_region_with ((go_at_call 72; refine (hE _ _ _ x ⟨_, rfl, E1 _ (by exact ⟨Nat.le_refl _, fun _ _ _ => rfl⟩)⟩ ⟨_, rfl, E2 _ (by exact ⟨Nat.le_refl _, fun _ _ _ => rfl⟩)⟩).mono ?_; rintro e w1 ⟨rfl, hb1⟩; have HB1 : Hid _ := hb1; clear hb1))
      all_goals go_wp2
      all_goals
        have hbe : Below w.heap.size w w1 := by
          refine Below.trans ?_ (HB1.out.mono (by exact HB.out.size))
          repeat (first | exact HB.out | apply Below.drew)
        exact ⟨⟨k + 1, by omega, by go_num, hbe⟩, by simp [intOf]; omega⟩
    · go_wp2
      go_ret
      exact ⟨rfl, HB.out⟩

set_option maxHeartbeats 2000000 in
theorem eqRefS_of {d : Nat} (hE : EqC 71 (fun w v e => ∃ cs, v = .agg cs.toArray ∧ HRf cs e)) :
    EqC 43 (fun w v es => Rows w All 2 (HRf) v es) := by
  intro w v1 v2 es h1 h2
  obtain ⟨p, cap, rfl, hcl, hcm, hx⟩ := h1
  obtain ⟨q, cap', rfl, hcl', hcm', hy⟩ := h2
  generalize hn : es.length = n at *
  have HN : Hid (es.length = n) := hn
  have HX : Hid _ := hx
  have HY : Hid _ := hy
  have hnb : n ≤ 9223372036854775807 := by unfold maxLen at hcm; omega
  clear hx hy hn
  go_enter Tryz.func43, Tryz.ntmps43
  go_wp2
  go_loopw [5] (fun iv wr => ∃ k : Nat, k ≤ n ∧ iv = .int .i64 k ∧ Below w.heap.size w wr) (fun iv _ => n - (intOf iv).toNat)
  case atStart => exact ⟨0, Nat.zero_le _, rfl, Below.refl _ _⟩
  case round =>
    obtain ⟨k, hk, rfl, hb⟩ := hrel
    have HB : Hid (Below w.heap.size w wr) := hb
    by_cases hlt : k < n
    · obtain ⟨x, hxk⟩ : ∃ x, es[k]? = some x := ⟨es[k]'(by rw [HN.out]; exact hlt), List.getElem?_eq_getElem _⟩
      have hne : es ≠ [] := by intro h; rw [h] at hxk; simp at hxk
      obtain ⟨g, off, rfl, _, hgl, hat⟩ := HX.out hne
      obtain ⟨g', off', rfl, _, hgl', hat'⟩ := HY.out hne
      obtain ⟨cs, hcl6, hcs, hex⟩ := hat k x hxk
      obtain ⟨cs', hcl6', hcs', hex'⟩ := hat' k x hxk
      have E1 : ∀ w', SameOn All wr w' → HRf cs x := fun w' hw => hex
      have E2 : ∀ w', SameOn All wr w' → HRf cs' x := fun w' hw => hex'
      obtain ⟨c0, c1, rfl⟩ := len2 hcl6
      obtain ⟨d0, d1, rfl⟩ := len2 hcl6'
      have a0 := hcs 0 (by omega)
      have b0 := hcs' 0 (by omega)
      have a1 := hcs 1 (by omega)
      have b1 := hcs' 1 (by omega)
      rw [← hb.cell (p := ⟨g, _, none⟩) hgl] at a0 a1
      rw [← hb.cell (p := ⟨g', _, none⟩) hgl'] at b0 b1
      simp at a0 a1 b0 b1
      clear hb hcs hat hex hcl6 hcs' hat' hex' hcl6' hne
      go_wp2
      go_region_with ((go_at_call 71; refine (hE _ _ _ x ⟨_, rfl, E1 _ (by exact ⟨Nat.le_refl _, fun _ _ _ => rfl⟩)⟩ ⟨_, rfl, E2 _ (by exact ⟨Nat.le_refl _, fun _ _ _ => rfl⟩)⟩).mono ?_; rintro e w1 ⟨rfl, hb1⟩; have HB1 : Hid _ := hb1; clear hb1))
      all_goals go_wp2
      all_goals
        have hbe : Below w.heap.size w w1 := by
          refine Below.trans ?_ (HB1.out.mono (by exact HB.out.size))
          repeat (first | exact HB.out | apply Below.drew)
        exact ⟨⟨k + 1, by omega, by go_num, hbe⟩, by simp [intOf]; omega⟩
    · go_wp2
      go_ret
      exact ⟨rfl, HB.out⟩

set_option maxHeartbeats 2000000 in
theorem eqExp_of {d : Nat} (h0 : EqC 129 (fun w v es => Rows w All 6 (HEx w All d) v es)) (h1 : EqC 99 (fun w v es => Rows w All 2 (HCl w All (HEx w All d)) v es)) :
    EqC 140 (fun w v e => ∃ cs, v = .agg cs.toArray ∧ HEx w All (d + 1) cs e) := by
  intro w v1 v2 e i1 i2
  obtain ⟨cs, rfl, kv, cv, rfl, p1, p2, p3, p4, f0, f1⟩ := i1
  obtain ⟨cs, rfl, kv', cv', rfl, p1', p2', p3', p4', f0', f1'⟩ := i2
  have hal : Below w.heap.size w ((w.alloc (.cells #[.int .i64 e.kind, .int .i64 e.n, .string e.text, .string e.mod, kv, cv] 73)).alloc (.cells #[.int .i64 e.kind, .int .i64 e.n, .string e.text, .string e.mod, kv', cv'] 73)) := ((Below.refl _ _).alloc (Nat.le_refl _) _).alloc (by simp) _
  have HA : Hid (Below w.heap.size w ((w.alloc (.cells #[.int .i64 e.kind, .int .i64 e.n, .string e.text, .string e.mod, kv, cv] 73)).alloc (.cells #[.int .i64 e.kind, .int .i64 e.n, .string e.text, .string e.mod, kv', cv'] 73))) := hal
  have g0 : ∀ w', SameOn All w w' → Rows w' All 6 (HEx w' All d) kv e.kids := fun w' hw => f0.mono (hw) (fun _ h => h) (fun _ _ _ => HEx.mono (hw) (fun _ h => h))
  have g0' : ∀ w', SameOn All w w' → Rows w' All 6 (HEx w' All d) kv' e.kids := fun w' hw => f0'.mono (hw) (fun _ h => h) (fun _ _ _ => HEx.mono (hw) (fun _ h => h))
  have g1 : ∀ w', SameOn All w w' → Rows w' All 2 (HCl w' All (HEx w' All d)) cv e.clauses := fun w' hw => f1.mono (hw) (fun _ h => h) (fun _ _ _ h => h.mono (hw) (fun _ h => h) (fun _ _ => HEx.mono (hw) (fun _ h => h)))
  have g1' : ∀ w', SameOn All w w' → Rows w' All 2 (HCl w' All (HEx w' All d)) cv' e.clauses := fun w' hw => f1'.mono (hw) (fun _ h => h) (fun _ _ _ h => h.mono (hw) (fun _ h => h) (fun _ _ => HEx.mono (hw) (fun _ h => h)))
  clear hal f0 f0' f1 f1'
  go_enter Tryz.func140, Tryz.ntmps140
  go_wp2_with (first | (go_at_call 99; (refine (h1 _ _ _ e.clauses (g1 _ (SameOn.of_below (HA.out.trans (HB0.out.mono HA.out.size)))) (g1' _ (SameOn.of_below (HA.out.trans (HB0.out.mono HA.out.size))))).mono ?_; rintro e w1 ⟨rfl, hb1⟩; have HB1 : Hid _ := hb1; clear hb1)) | (go_at_call 129; (refine (h0 _ _ _ e.kids (g0 _ (SameOn.of_below HA.out)) (g0' _ (SameOn.of_below HA.out))).mono ?_; rintro e w0 ⟨rfl, hb0⟩; have HB0 : Hid _ := hb0; have k0 := (hb0.cell (p := ⟨w.heap.size, 5, none⟩) (by simp only [alloc_hs]; omega)).trans ((World.cell?_of_block (a := ⟨w.heap.size, 5, none⟩) (Below.heap_alloc _ _ _ (by simp))).trans (cell_new _ _ _ 5 cv rfl)); have m0 := (hb0.cell (p := ⟨(w.alloc (.cells #[.int .i64 e.kind, .int .i64 e.n, .string e.text, .string e.mod, kv, cv] 73)).heap.size, 5, none⟩) (by simp)).trans (cell_new _ _ _ 5 cv' rfl); simp only [alloc_hs] at m0; clear hb0)))
  go_ret
  exact ⟨rfl, ((HA.out.trans (HB0.out.mono HA.out.size)).trans (HB1.out.mono (HA.out.trans (HB0.out.mono HA.out.size)).size))⟩

set_option maxHeartbeats 2000000 in
theorem eqClause_of {d : Nat} (h0 : EqC 129 (fun w v es => Rows w All 6 (HEx w All d) v es)) (h1 : EqC 129 (fun w v es => Rows w All 6 (HEx w All d) v es)) :
    EqC 115 (fun w v e => ∃ cs, v = .agg cs.toArray ∧ HCl w All (HEx w All d) cs e) := by
  intro w v1 v2 e i1 i2
  obtain ⟨cs, rfl, kv, cv, rfl, f0, f1⟩ := i1
  obtain ⟨cs, rfl, kv', cv', rfl, f0', f1'⟩ := i2
  have hal : Below w.heap.size w ((w.alloc (.cells #[kv, cv] 69)).alloc (.cells #[kv', cv'] 69)) := ((Below.refl _ _).alloc (Nat.le_refl _) _).alloc (by simp) _
  have HA : Hid (Below w.heap.size w ((w.alloc (.cells #[kv, cv] 69)).alloc (.cells #[kv', cv'] 69))) := hal
  have g0 : ∀ w', SameOn All w w' → Rows w' All 6 (HEx w' All d) kv e.1 := fun w' hw => f0.mono (hw) (fun _ h => h) (fun _ _ _ => HEx.mono (hw) (fun _ h => h))
  have g0' : ∀ w', SameOn All w w' → Rows w' All 6 (HEx w' All d) kv' e.1 := fun w' hw => f0'.mono (hw) (fun _ h => h) (fun _ _ _ => HEx.mono (hw) (fun _ h => h))
  have g1 : ∀ w', SameOn All w w' → Rows w' All 6 (HEx w' All d) cv e.2 := fun w' hw => f1.mono (hw) (fun _ h => h) (fun _ _ _ => HEx.mono (hw) (fun _ h => h))
  have g1' : ∀ w', SameOn All w w' → Rows w' All 6 (HEx w' All d) cv' e.2 := fun w' hw => f1'.mono (hw) (fun _ h => h) (fun _ _ _ => HEx.mono (hw) (fun _ h => h))
  clear hal f0 f0' f1 f1'
  go_enter Tryz.func115, Tryz.ntmps115
  go_wp2_with (first | (go_at_call 129; (refine (h1 _ _ _ e.2 (g1 _ (SameOn.of_below (HA.out.trans (HB0.out.mono HA.out.size)))) (g1' _ (SameOn.of_below (HA.out.trans (HB0.out.mono HA.out.size))))).mono ?_; rintro e w1 ⟨rfl, hb1⟩; have HB1 : Hid _ := hb1; clear hb1)) | (go_at_call 129; (refine (h0 _ _ _ e.1 (g0 _ (SameOn.of_below HA.out)) (g0' _ (SameOn.of_below HA.out))).mono ?_; rintro e w0 ⟨rfl, hb0⟩; have HB0 : Hid _ := hb0; have k0 := (hb0.cell (p := ⟨w.heap.size, 1, none⟩) (by simp only [alloc_hs]; omega)).trans ((World.cell?_of_block (a := ⟨w.heap.size, 1, none⟩) (Below.heap_alloc _ _ _ (by simp))).trans (cell_new _ _ _ 1 cv rfl)); have m0 := (hb0.cell (p := ⟨(w.alloc (.cells #[kv, cv] 69)).heap.size, 1, none⟩) (by simp)).trans (cell_new _ _ _ 1 cv' rfl); simp only [alloc_hs] at m0; clear hb0)))
  go_ret
  exact ⟨rfl, ((HA.out.trans (HB0.out.mono HA.out.size)).trans (HB1.out.mono (HA.out.trans (HB0.out.mono HA.out.size)).size))⟩

set_option maxHeartbeats 2000000 in
theorem eqFun_of {d : Nat} (h0 : EqC 99 (fun w v es => Rows w All 2 (HCl w All (HEx w All d)) v es)) :
    EqC 72 (fun w v e => ∃ cs, v = .agg cs.toArray ∧ HFn w All d cs e) := by
  intro w v1 v2 e i1 i2
  obtain ⟨cs, rfl, cv, rfl, p1, p2, f0⟩ := i1
  obtain ⟨cs, rfl, cv', rfl, p1', p2', f0'⟩ := i2
  have hal : Below w.heap.size w ((w.alloc (.cells #[.string e.name, .int .i64 e.arity, cv] 52)).alloc (.cells #[.string e.name, .int .i64 e.arity, cv'] 52)) := ((Below.refl _ _).alloc (Nat.le_refl _) _).alloc (by simp) _
  have HA : Hid (Below w.heap.size w ((w.alloc (.cells #[.string e.name, .int .i64 e.arity, cv] 52)).alloc (.cells #[.string e.name, .int .i64 e.arity, cv'] 52))) := hal
  have g0 : ∀ w', SameOn All w w' → Rows w' All 2 (HCl w' All (HEx w' All d)) cv e.clauses := fun w' hw => f0.mono (hw) (fun _ h => h) (fun _ _ _ h => h.mono (hw) (fun _ h => h) (fun _ _ => HEx.mono (hw) (fun _ h => h)))
  have g0' : ∀ w', SameOn All w w' → Rows w' All 2 (HCl w' All (HEx w' All d)) cv' e.clauses := fun w' hw => f0'.mono (hw) (fun _ h => h) (fun _ _ _ h => h.mono (hw) (fun _ h => h) (fun _ _ => HEx.mono (hw) (fun _ h => h)))
  clear hal f0 f0'
  go_enter Tryz.func72, Tryz.ntmps72
  go_wp2_with (first | (go_at_call 99; (refine (h0 _ _ _ e.clauses (g0 _ (SameOn.of_below HA.out)) (g0' _ (SameOn.of_below HA.out))).mono ?_; rintro e w0 ⟨rfl, hb0⟩; have HB0 : Hid _ := hb0; clear hb0)))
  go_ret
  exact ⟨rfl, (HA.out.trans (HB0.out.mono HA.out.size))⟩

set_option maxHeartbeats 2000000 in
theorem eqRef_of {d : Nat}  :
    EqC 71 (fun w v e => ∃ cs, v = .agg cs.toArray ∧ HRf cs e) := by
  intro w v1 v2 e i1 i2
  obtain ⟨cs, rfl, rfl, p1, p2⟩ := i1
  obtain ⟨cs, rfl, rfl, p1', p2'⟩ := i2
  go_enter Tryz.func71, Tryz.ntmps71
  go_wp2
  go_ret
  exact ⟨rfl, ((Below.refl _ _).alloc (Nat.le_refl _) _).alloc (by simp) _⟩

set_option maxHeartbeats 2000000 in
theorem eqModule_of {d : Nat} (h0 : EqC 43 (fun w v es => Rows w All 2 (HRf) v es)) (h1 : EqC 44 (fun w v es => Rows w All 3 (HFn w All d) v es)) :
    EqC 24 (fun w v e => ∃ cs, v = .agg cs.toArray ∧ HMd w All d cs e) := by
  intro w v1 v2 e i1 i2
  obtain ⟨cs, rfl, kv, cv, rfl, p1, f0, f1⟩ := i1
  obtain ⟨cs, rfl, kv', cv', rfl, p1', f0', f1'⟩ := i2
  have hal : Below w.heap.size w ((w.alloc (.cells #[.string e.name, kv, cv] 42)).alloc (.cells #[.string e.name, kv', cv'] 42)) := ((Below.refl _ _).alloc (Nat.le_refl _) _).alloc (by simp) _
  have HA : Hid (Below w.heap.size w ((w.alloc (.cells #[.string e.name, kv, cv] 42)).alloc (.cells #[.string e.name, kv', cv'] 42))) := hal
  have g0 : ∀ w', SameOn All w w' → Rows w' All 2 HRf kv e.exports := fun w' hw => f0.mono (hw) (fun _ h => h) (fun _ _ _ h => h)
  have g0' : ∀ w', SameOn All w w' → Rows w' All 2 HRf kv' e.exports := fun w' hw => f0'.mono (hw) (fun _ h => h) (fun _ _ _ h => h)
  have g1 : ∀ w', SameOn All w w' → Rows w' All 3 (HFn w' All d) cv e.funs := fun w' hw => f1.mono (hw) (fun _ h => h) (fun _ _ _ h => h.mono (hw) (fun _ h => h))
  have g1' : ∀ w', SameOn All w w' → Rows w' All 3 (HFn w' All d) cv' e.funs := fun w' hw => f1'.mono (hw) (fun _ h => h) (fun _ _ _ h => h.mono (hw) (fun _ h => h))
  clear hal f0 f0' f1 f1'
  go_enter Tryz.func24, Tryz.ntmps24
  go_wp2_with (first | (go_at_call 44; (refine (h1 _ _ _ e.funs (g1 _ (SameOn.of_below (HA.out.trans (HB0.out.mono HA.out.size)))) (g1' _ (SameOn.of_below (HA.out.trans (HB0.out.mono HA.out.size))))).mono ?_; rintro e w1 ⟨rfl, hb1⟩; have HB1 : Hid _ := hb1; clear hb1)) | (go_at_call 43; (refine (h0 _ _ _ e.exports (g0 _ (SameOn.of_below HA.out)) (g0' _ (SameOn.of_below HA.out))).mono ?_; rintro e w0 ⟨rfl, hb0⟩; have HB0 : Hid _ := hb0; have k0 := (hb0.cell (p := ⟨w.heap.size, 2, none⟩) (by simp only [alloc_hs]; omega)).trans ((World.cell?_of_block (a := ⟨w.heap.size, 2, none⟩) (Below.heap_alloc _ _ _ (by simp))).trans (cell_new _ _ _ 2 cv rfl)); have m0 := (hb0.cell (p := ⟨(w.alloc (.cells #[.string e.name, kv, cv] 42)).heap.size, 2, none⟩) (by simp)).trans (cell_new _ _ _ 2 cv' rfl); simp only [alloc_hs] at m0; clear hb0)))
  go_ret
  exact ⟨rfl, ((HA.out.trans (HB0.out.mono HA.out.size)).trans (HB1.out.mono (HA.out.trans (HB0.out.mono HA.out.size)).size))⟩

theorem eqExp_all : ∀ d, EqC 140 (fun w v e => ∃ cs, v = .agg cs.toArray ∧ HEx w All d cs e)
  | 0 => fun w v v' x ⟨_, _, h⟩ _ => h.elim
  | d + 1 => eqExp_of (eqExpS_of (eqExp_all d)) (eqClauseS_of (eqClause_of (eqExpS_of (eqExp_all d)) (eqExpS_of (eqExp_all d))))
theorem eqClauseS_all (d : Nat) : EqC 99 (fun w v es => Rows w All 2 (HCl w All (HEx w All d)) v es) :=
  eqClauseS_of (eqClause_of (eqExpS_of (eqExp_all d)) (eqExpS_of (eqExp_all d)))

/-- THE LAWS' eqModule. -/
theorem eqModule_all (d : Nat) : EqC 24 (fun w v m => ∃ cs, v = .agg cs.toArray ∧ HMd w All d cs m) :=
  eqModule_of (eqRefS_of (d := 0) (eqRef_of (d := 0))) (eqFunS_of (eqFun_of (eqClauseS_all d)))
end Go.Proofs.YtigfmdfgioccjaaGreatDoor
/-
  The laws' eqModuleS: two rows of modules that are alike.
-/
namespace Go.Proofs.YtigfmdfgioccjaaGreatDoor
open Go.ChangeShapes Go.WideShapes Go.ChangeAt Go.RowKit
set_option linter.unusedVariables false

set_option maxHeartbeats 2000000 in
theorem eqModuleS_of {d : Nat} (hE : EqC 24 (fun w v e => ∃ cs, v = .agg cs.toArray ∧ HMd w All d cs e)) :
    EqC 10 (fun w v es => Rows w All 3 (HMd w All d) v es) := by
  intro w v1 v2 es h1 h2
  obtain ⟨p, cap, rfl, hcl, hcm, hx⟩ := h1
  obtain ⟨q, cap', rfl, hcl', hcm', hy⟩ := h2
  generalize hn : es.length = n at *
  have HN : Hid (es.length = n) := hn
  have HX : Hid _ := hx
  have HY : Hid _ := hy
  have hnb : n ≤ 9223372036854775807 := by unfold maxLen at hcm; omega
  clear hx hy hn
  go_enter Tryz.func10, Tryz.ntmps10
  go_wp2
  go_loopw [5] (fun iv wr => ∃ k : Nat, k ≤ n ∧ iv = .int .i64 k ∧ Below w.heap.size w wr) (fun iv _ => n - (intOf iv).toNat)
  case atStart => exact ⟨0, Nat.zero_le _, rfl, Below.refl _ _⟩
  case round =>
    obtain ⟨k, hk, rfl, hb⟩ := hrel
    have HB : Hid (Below w.heap.size w wr) := hb
    by_cases hlt : k < n
    · obtain ⟨x, hxk⟩ : ∃ x, es[k]? = some x := ⟨es[k]'(by rw [HN.out]; exact hlt), List.getElem?_eq_getElem _⟩
      have hne : es ≠ [] := by intro h; rw [h] at hxk; simp at hxk
      obtain ⟨g, off, rfl, _, hgl, hat⟩ := HX.out hne
      obtain ⟨g', off', rfl, _, hgl', hat'⟩ := HY.out hne
      obtain ⟨cs, hcl6, hcs, hex⟩ := hat k x hxk
      obtain ⟨cs', hcl6', hcs', hex'⟩ := hat' k x hxk
      have E1 : ∀ w', SameOn All wr w' → HMd w' All d cs x := fun w' hw => hex.mono (SameOn.trans (SameOn.of_below hb) hw) (fun _ h => h)
      have E2 : ∀ w', SameOn All wr w' → HMd w' All d cs' x := fun w' hw => hex'.mono (SameOn.trans (SameOn.of_below hb) hw) (fun _ h => h)
      obtain ⟨c0, c1, c2, rfl⟩ := len3 hcl6
      obtain ⟨d0, d1, d2, rfl⟩ := len3 hcl6'
      have a0 := hcs 0 (by omega)
      have b0 := hcs' 0 (by omega)
      have a1 := hcs 1 (by omega)
      have b1 := hcs' 1 (by omega)
      have a2 := hcs 2 (by omega)
      have b2 := hcs' 2 (by omega)
      rw [← hb.cell (p := ⟨g, _, none⟩) hgl] at a0 a1 a2
      rw [← hb.cell (p := ⟨g', _, none⟩) hgl'] at b0 b1 b2
      simp at a0 a1 a2 b0 b1 b2
      clear hb hcs hat hex hcl6 hcs' hat' hex' hcl6' hne
      go_wp2
      go_region_with ((go_at_call 24; refine (hE _ _ _ x ⟨_, rfl, E1 _ (by exact ⟨Nat.le_refl _, fun _ _ _ => rfl⟩)⟩ ⟨_, rfl, E2 _ (by exact ⟨Nat.le_refl _, fun _ _ _ => rfl⟩)⟩).mono ?_; rintro e w1 ⟨rfl, hb1⟩; have HB1 : Hid _ := hb1; clear hb1))
      all_goals go_wp2
      all_goals
        have hbe : Below w.heap.size w w1 := by
          refine Below.trans ?_ (HB1.out.mono (by exact HB.out.size))
          repeat (first | exact HB.out | apply Below.drew)
        exact ⟨⟨k + 1, by omega, by go_num, hbe⟩, by simp [intOf]; omega⟩
    · go_wp2
      go_ret
      exact ⟨rfl, HB.out⟩

theorem eqModuleS_all (d : Nat) : EqC 10 (fun w v es => Rows w All 3 (HMd w All d) v es) := eqModuleS_of (eqModule_all d)
end Go.Proofs.YtigfmdfgioccjaaGreatDoor
/-
  The laws' toExp and toClause: a copy of an expression or a clause in memory that the copy owns.
-/
namespace Go.Proofs.YtigfmdfgioccjaaGreatDoor
open Go.ChangeShapes Go.WideShapes Go.ChangeAt Go.RowKit
set_option linter.unusedVariables false


set_option maxHeartbeats 4000000 in
theorem toExpS_ofO {d : Nat} (hE : ToO 131 (fun w v e => ∃ cs, v = .agg cs.toArray ∧ HEx w All d cs e) (fun w v e fp => ∃ cs, v = .agg cs.toArray ∧ OEx w d cs e fp) (wtEx d)) :
    ToO 120 (fun w v es => Rows w All 6 (HEx w All d) v es) (fun w v es fp => ORows w 73 6 (OEx w d) v es fp) (wtS (wtEx d)) := by
  intro w v es h hwt
  obtain ⟨p, cap, rfl, hcl, hcm, hx⟩ := h
  generalize hn : es.length = n at *
  have HN : Hid (es.length = n) := hn
  have HX : Hid _ := hx
  have hnb : n ≤ 1048576 := by unfold wtS at hwt; omega
  have HWT : Hid (wtS (wtEx d) es ≤ 1048576) := hwt
  clear hx hn hwt
  obtain ⟨M, hM, hmk⟩ := make_row (t := 67) (e := 73) (c := 6) Tryz.underlying67 (by kernel_rfl) w n hnb
  have HO : Hid (Made w (w.alloc (.cells M 73)) w.heap.size n 73 6 (fun w => OEx w d) es 0 M.toList []) := Made.start hM (by unfold maxLen; omega)
  generalize hG : w.heap.size = G at *
  have HG : Hid (w.heap.size = G) := hG
  go_enter Tryz.func120, Tryz.ntmps120
  go_wp2
  go_loopw [4] (fun iv wr => ∃ (k : Nat) (xs : List Value) (fps : List (List Nat)), k ≤ n ∧ iv = .int .i64 k ∧ Hid (Made w wr G n 73 6 (fun w => OEx w d) es k xs fps)) (fun iv _ => n - (intOf iv).toNat)
  case atStart => exact ⟨0, M.toList, [], Nat.zero_le _, rfl, HO⟩
  case round =>
    obtain ⟨k, xs, fps, hk, rfl, HM⟩ := hrel
    by_cases hlt : k < n
    · obtain ⟨x, hxk⟩ : ∃ x, es[k]? = some x := ⟨es[k]'(by rw [HN.out]; exact hlt), List.getElem?_eq_getElem _⟩
      obtain ⟨g, off, rfl, hg, hgl, hat⟩ := HX.out (by intro h; rw [h] at hxk; simp at hxk)
      obtain ⟨cs, hcl6, hcs, hex⟩ := hat k x hxk
      have hbw : Below w.heap.size w wr := by rw [HG.out]; exact HM.out.below
      have hex' : ∀ w', SameOn All wr w' → HEx w' All d cs x := fun w' hw => hex.mono (SameOn.trans (SameOn.of_below hbw) hw) (fun _ h => h)
      obtain ⟨z0, z1, z2, z3, z4, z5, rfl⟩ := len6 hcl6
      have a0 := hcs 0 (by omega)
      have a1 := hcs 1 (by omega)
      have a2 := hcs 2 (by omega)
      have a3 := hcs 3 (by omega)
      have a4 := hcs 4 (by omega)
      have a5 := hcs 5 (by omega)
      rw [← hbw.cell (p := ⟨g, _, none⟩) (by show g < w.heap.size; rw [HG.out]; exact hgl)] at a0 a1 a2 a3 a4 a5
      simp at a0 a1 a2 a3 a4 a5
      have hwx : wtEx d x ≤ 1048576 := by
        have h1 := HWT.out
        have h2 := sum_take_succ (wtEx d) es k x hxk
        have h3 := sum_take_le (wtEx d) es (k + 1)
        unfold wtS at h1
        omega
      clear hbw hcs hat hex hcl6
      go_wp2_with (go_at_call 131; go_must (refine (hE _ _ x ⟨_, rfl, hex' _ (by exact ⟨Nat.le_refl _, fun _ _ _ => rfl⟩)⟩ hwx).mono ?_; rintro e w1 ⟨u, fp, rfl, ⟨cs', rfl, hx1⟩, hnd, hrg, hb1⟩; obtain ⟨sk, sn, st, se, p1, n1, q1, p2, n2, q2, hsh⟩ := hx1.shape; subst hsh; have HB1 : Hid (Below wr.heap.size wr w1) := hb1; have HX1 : Hid (OEx w1 d [.int .i64 sk, .int .i64 sn, .string st, .string se, .slice p1 n1 q1, .slice p2 n2 q2] x fp) := hx1; have HND : Hid fp.Nodup := hnd; have HRG : Hid (∀ a ∈ fp, wr.heap.size ≤ a ∧ a < w1.heap.size) := hrg; have o1 := HM.out.own.kept (grownBy_belowR (r := none) hb1) (Or.inr (by simp [Value.ownBlock])); have HO1 : Hid (w1.ownsRow G 73 6 (.slice (some ⟨G, 0, none⟩) n n) n xs) := o1; have f0 := o1.frozenAt (k * 6); obtain ⟨y0, g0⟩ := own_someR o1 (k * 6) (by omega); have f1 := o1.frozenAt (k * 6 + 1); obtain ⟨y1, g1⟩ := own_someR o1 (k * 6 + 1) (by omega); have f2 := o1.frozenAt (k * 6 + 2); obtain ⟨y2, g2⟩ := own_someR o1 (k * 6 + 2) (by omega); have f3 := o1.frozenAt (k * 6 + 3); obtain ⟨y3, g3⟩ := own_someR o1 (k * 6 + 3) (by omega); have f4 := o1.frozenAt (k * 6 + 4); obtain ⟨y4, g4⟩ := own_someR o1 (k * 6 + 4) (by omega); have f5 := o1.frozenAt (k * 6 + 5); obtain ⟨y5, g5⟩ := own_someR o1 (k * 6 + 5) (by omega); clear o1 hb1 hx1 hnd hrg))
      have sd := stored6 HO1.out (k * 6) (.int .i64 sk) (.int .i64 sn) (.string st) (.string se) (.slice p1 n1 q1) (.slice p2 n2 q2)
      have hlen : xs.length = n * 6 := HO1.out.1
      exact ⟨⟨k + 1, _, _, by omega, by go_num, HM.out.step (fun w w' cs x f h hk => h.keep hk) hxk HB1.out HX1.out HND.out HRG.out rfl sd.1 sd.2 (fun m hm => set6_other hm) (fun j hj => set6_self (by omega) j hj)⟩, by simp [intOf]; omega⟩
    · obtain rfl : k = n := by omega
      obtain ⟨fp, r1, r2, r3⟩ := HM.out.done HN.out (by unfold maxLen; omega)
      have R1 : Hid (ORows wr 73 6 (OEx wr d) (.slice (some ⟨G, 0, none⟩) k k) es fp) := r1
      have R2 : Hid (fp.Nodup ∧ ∀ a ∈ fp, G ≤ a ∧ a < wr.heap.size) := ⟨r2, r3⟩
      clear r1 r2 r3
      go_wp2
      go_ret
      exact ⟨_, fp, rfl, R1.out, R2.out.1, R2.out.2, HM.out.below⟩

set_option maxHeartbeats 4000000 in
theorem toClauseS_ofO {d : Nat} (hE : ToO 103 (fun w v e => ∃ cs, v = .agg cs.toArray ∧ HCl w All (HEx w All d) cs e) (fun w v e fp => ∃ cs, v = .agg cs.toArray ∧ OCls w d cs e fp) (wtCl (wtEx d))) :
    ToO 83 (fun w v es => Rows w All 2 (HCl w All (HEx w All d)) v es) (fun w v es fp => ORows w 69 2 (OCls w d) v es fp) (wtS (wtCl (wtEx d))) := by
  intro w v es h hwt
  obtain ⟨p, cap, rfl, hcl, hcm, hx⟩ := h
  generalize hn : es.length = n at *
  have HN : Hid (es.length = n) := hn
  have HX : Hid _ := hx
  have hnb : n ≤ 1048576 := by unfold wtS at hwt; omega
  have HWT : Hid (wtS (wtCl (wtEx d)) es ≤ 1048576) := hwt
  clear hx hn hwt
  obtain ⟨M, hM, hmk⟩ := make_row (t := 50) (e := 69) (c := 2) Tryz.underlying50 (by kernel_rfl) w n hnb
  have HO : Hid (Made w (w.alloc (.cells M 69)) w.heap.size n 69 2 (fun w => OCls w d) es 0 M.toList []) := Made.start hM (by unfold maxLen; omega)
  generalize hG : w.heap.size = G at *
  have HG : Hid (w.heap.size = G) := hG
  go_enter Tryz.func83, Tryz.ntmps83
  go_wp2
  go_loopw [4] (fun iv wr => ∃ (k : Nat) (xs : List Value) (fps : List (List Nat)), k ≤ n ∧ iv = .int .i64 k ∧ Hid (Made w wr G n 69 2 (fun w => OCls w d) es k xs fps)) (fun iv _ => n - (intOf iv).toNat)
  case atStart => exact ⟨0, M.toList, [], Nat.zero_le _, rfl, HO⟩
  case round =>
    obtain ⟨k, xs, fps, hk, rfl, HM⟩ := hrel
    by_cases hlt : k < n
    · obtain ⟨x, hxk⟩ : ∃ x, es[k]? = some x := ⟨es[k]'(by rw [HN.out]; exact hlt), List.getElem?_eq_getElem _⟩
      obtain ⟨g, off, rfl, hg, hgl, hat⟩ := HX.out (by intro h; rw [h] at hxk; simp at hxk)
      obtain ⟨cs, hcl6, hcs, hex⟩ := hat k x hxk
      have hbw : Below w.heap.size w wr := by rw [HG.out]; exact HM.out.below
      have hex' : ∀ w', SameOn All wr w' → HCl w' All (HEx w' All d) cs x := fun w' hw => hex.mono (SameOn.trans (SameOn.of_below hbw) hw) (fun _ h => h) (fun _ _ => HEx.mono (SameOn.trans (SameOn.of_below hbw) hw) (fun _ h => h))
      obtain ⟨z0, z1, rfl⟩ := len2 hcl6
      have a0 := hcs 0 (by omega)
      have a1 := hcs 1 (by omega)
      rw [← hbw.cell (p := ⟨g, _, none⟩) (by show g < w.heap.size; rw [HG.out]; exact hgl)] at a0 a1
      simp at a0 a1
      have hwx : wtCl (wtEx d) x ≤ 1048576 := by
        have h1 := HWT.out
        have h2 := sum_take_succ (wtCl (wtEx d)) es k x hxk
        have h3 := sum_take_le (wtCl (wtEx d)) es (k + 1)
        unfold wtS at h1
        omega
      clear hbw hcs hat hex hcl6
      go_wp2_with (go_at_call 103; go_must (refine (hE _ _ x ⟨_, rfl, hex' _ (by exact ⟨Nat.le_refl _, fun _ _ _ => rfl⟩)⟩ hwx).mono ?_; rintro e w1 ⟨u, fp, rfl, ⟨cs', rfl, hx1⟩, hnd, hrg, hb1⟩; obtain ⟨p1, n1, q1, p2, n2, q2, hsh⟩ := hx1.shape; subst hsh; have HB1 : Hid (Below wr.heap.size wr w1) := hb1; have HX1 : Hid (OCls w1 d [.slice p1 n1 q1, .slice p2 n2 q2] x fp) := hx1; have HND : Hid fp.Nodup := hnd; have HRG : Hid (∀ a ∈ fp, wr.heap.size ≤ a ∧ a < w1.heap.size) := hrg; have o1 := HM.out.own.kept (grownBy_belowR (r := none) hb1) (Or.inr (by simp [Value.ownBlock])); have HO1 : Hid (w1.ownsRow G 69 2 (.slice (some ⟨G, 0, none⟩) n n) n xs) := o1; have f0 := o1.frozenAt (k * 2); obtain ⟨y0, g0⟩ := own_someR o1 (k * 2) (by omega); have f1 := o1.frozenAt (k * 2 + 1); obtain ⟨y1, g1⟩ := own_someR o1 (k * 2 + 1) (by omega); clear o1 hb1 hx1 hnd hrg))
      have sd := stored2 HO1.out (k * 2) (.slice p1 n1 q1) (.slice p2 n2 q2)
      have hlen : xs.length = n * 2 := HO1.out.1
      exact ⟨⟨k + 1, _, _, by omega, by go_num, Made.step (O := fun w => OCls w d) (c := 2) (fun w w' cs x f h hk => OCls.keep h hk) HM.out hxk HB1.out HX1.out HND.out HRG.out rfl sd.1 sd.2 (fun m hm => set2_other hm) (fun j hj => set2_self (by omega) j hj)⟩, by simp [intOf]; omega⟩
    · obtain rfl : k = n := by omega
      obtain ⟨fp, r1, r2, r3⟩ := HM.out.done HN.out (by unfold maxLen; omega)
      have R1 : Hid (ORows wr 69 2 (OCls wr d) (.slice (some ⟨G, 0, none⟩) k k) es fp) := r1
      have R2 : Hid (fp.Nodup ∧ ∀ a ∈ fp, G ≤ a ∧ a < wr.heap.size) := ⟨r2, r3⟩
      clear r1 r2 r3
      go_wp2
      go_ret
      exact ⟨_, fp, rfl, R1.out, R2.out.1, R2.out.2, HM.out.below⟩

set_option maxHeartbeats 4000000 in
theorem toClause_ofO {d : Nat} (h0 : ToO 120 (fun w v es => Rows w All 6 (HEx w All d) v es) (fun w v es fp => ORows w 73 6 (OEx w d) v es fp) (wtS (wtEx d))) (h1 : ToO 120 (fun w v es => Rows w All 6 (HEx w All d) v es) (fun w v es fp => ORows w 73 6 (OEx w d) v es fp) (wtS (wtEx d))) :
    ToO 103 (fun w v e => ∃ cs, v = .agg cs.toArray ∧ HCl w All (HEx w All d) cs e) (fun w v e fp => ∃ cs, v = .agg cs.toArray ∧ OCl w (OEx w d) cs e fp) (wtCl (wtEx d)) := by
  intro w v e i1 hwt
  obtain ⟨cs, rfl, v0, v1, rfl, f0, f1⟩ := i1
  have hw0 : wtS (wtEx d) e.1 ≤ 1048576 := by unfold wtCl at hwt; omega
  have E0 : ∀ w', SameOn All w w' → Rows w' All 6 (HEx w' All d) v0 e.1 := fun w' hw => f0.mono hw (fun _ h => h) (fun _ _ _ => HEx.mono hw (fun _ h => h))
  have hw1 : wtS (wtEx d) e.2 ≤ 1048576 := by unfold wtCl at hwt; omega
  have E1 : ∀ w', SameOn All w w' → Rows w' All 6 (HEx w' All d) v1 e.2 := fun w' hw => f1.mono hw (fun _ h => h) (fun _ _ _ => HEx.mono hw (fun _ h => h))
  obtain ⟨p0, c0, rfl, _⟩ := id f0
  obtain ⟨p1, c1, rfl, _⟩ := id f1
  clear f0 f1
  go_enter Tryz.func103, Tryz.ntmps103
  go_wp2_with fail
  have hal : Below w.heap.size w (((w.alloc (.cells #[.slice p0 e.1.length c0, .slice p1 e.2.length c1] 139)).alloc (.cells #[.slice none 0 0, .slice none 0 0] 69)).alloc (.cells #[.slice none 0 0, .slice none 0 0] 69)) := (((Below.refl _ _).alloc (Nat.le_refl _) _).alloc (by simp only [alloc_hs]; omega) _).alloc (by simp only [alloc_hs]; omega) _
  refine (h0 _ _ e.1 (E0 _ (SameOn.of_below hal)) hw0).mono ?_
  rintro ex w1 ⟨u, fA, rfl, r0, ndA, rgA, hb⟩
  have bA := ((Blk.new (w := w) (cs := #[.slice p0 e.1.length c0, .slice p1 e.2.length c1]) (t := 139)).alloc (o := .cells #[.slice none 0 0, .slice none 0 0] 69)).alloc (o := .cells #[.slice none 0 0, .slice none 0 0] 69)
  have bR := (Blk.new (w := (w.alloc (.cells #[.slice p0 e.1.length c0, .slice p1 e.2.length c1] 139))) (cs := #[.slice none 0 0, .slice none 0 0]) (t := 69)).alloc (o := .cells #[.slice none 0 0, .slice none 0 0] 69)
  have bO := (Blk.new (w := ((w.alloc (.cells #[.slice p0 e.1.length c0, .slice p1 e.2.length c1] 139)).alloc (.cells #[.slice none 0 0, .slice none 0 0] 69))) (cs := #[.slice none 0 0, .slice none 0 0]) (t := 69))
  simp only [alloc_hs] at bA bR bO rgA
  replace bA := bA.below hb (by simp only [alloc_hs]; omega)
  replace bR := bR.below hb (by simp only [alloc_hs]; omega)
  replace bO := bO.below hb (by simp only [alloc_hs]; omega)
  have B1 : Below w.heap.size w w1 := hal.trans (hb.mono hal.size)
  have z1 : w.heap.size + 3 ≤ w1.heap.size := by have := hb.size; simp only [alloc_hs] at this; omega
  have Z1 : Hid (w.heap.size + 3 ≤ w1.heap.size) := z1
  have T0 : Hid (ORows w1 73 6 (OEx w1 d) u e.1 fA) := r0
  have NA : Hid (fA.Nodup) := ndA
  have GA : Hid (∀ a ∈ fA, w.heap.size + 1 + 1 + 1 ≤ a ∧ a < w1.heap.size) := rgA
  clear hal hb z1 ndA rgA
  obtain ⟨p0', c0', hu, _⟩ := r0.shape
  subst hu
  clear r0
  have a1 := bA.cell 1 _ rfl
  have o0 := bO.cell 0 _ rfl
  have g0 := bO.frozen 0
  have HA : Hid (Blk w1 w.heap.size #[.slice p0 e.1.length c0, .slice p1 e.2.length c1] 139) := bA
  have HR : Hid (Blk w1 (w.heap.size + 1) #[.slice none 0 0, .slice none 0 0] 69) := bR
  have HO : Hid (Blk w1 (w.heap.size + 1 + 1) #[.slice none 0 0, .slice none 0 0] 69) := bO
  have HB1 : Hid (Below w.heap.size w w1) := B1
  clear bA bR bO B1
  go_wp2_with fail
  have hp : Below w.heap.size w (w1.setCell ⟨w.heap.size + 1 + 1, 0, none⟩ (.slice p0' e.1.length c0')) := HB1.out.setCell (by show _ ≤ w.heap.size + 1 + 1; omega) _
  refine (h1 _ _ e.2 (E1 _ (SameOn.of_below hp)) hw1).mono ?_
  rintro ex w2 ⟨u, fB, rfl, r1, ndB, rgB, hb⟩
  have bA := ((HA.out.other (p := ⟨w.heap.size + 1 + 1, 0, none⟩) (v := (.slice p0' e.1.length c0')) (by show w.heap.size ≠ w.heap.size + 1 + 1; omega)).below hb (by have := Z1.out; simp only [setCell_hs]; omega))
  have bR := ((HR.out.other (p := ⟨w.heap.size + 1 + 1, 0, none⟩) (v := (.slice p0' e.1.length c0')) (by show w.heap.size + 1 ≠ w.heap.size + 1 + 1; omega)).below hb (by have := Z1.out; simp only [setCell_hs]; omega))
  have bO := ((HO.out.same (j := 0) (v := (.slice p0' e.1.length c0')) (cs' := #[.slice p0' e.1.length c0', .slice none 0 0]) rfl).below hb (by have := Z1.out; simp only [setCell_hs]; omega))
  have B2 : Below w.heap.size w w2 := hp.trans (hb.mono hp.size)
  simp only [setCell_hs] at rgB
  have k01 : KeepOn fA w1 w2 := fun a ha => by
    have h := GA.out a ha
    exact (hb.block a (by simp only [setCell_hs]; exact h.2)).trans (Below.heap_setCell _ _ _ _ (by show a ≠ w.heap.size + 1 + 1; omega))
  have T0 : Hid (ORows w2 73 6 (OEx w2 d) (.slice p0' e.1.length c0') e.1 fA) := by have h := T0.out; exact h.keep k01 (fun cs x f _ hs h => h.keep (k01.sub hs))
  have T1 : Hid (ORows w2 73 6 (OEx w2 d) u e.2 fB) := r1
  have sz2 : w1.heap.size ≤ w2.heap.size := by have := hb.size; simp only [setCell_hs] at this; exact this
  have HND : Hid ((fA ++ fB).Nodup) := by
    show List.Nodup _
    rw [List.nodup_append]
    exact ⟨NA.out, ndB, fun a ha b hb => by have := GA.out a ha; have := rgB b hb; omega⟩
  have HRG : Hid (∀ a ∈ fA ++ fB, w.heap.size + 1 + 1 + 1 ≤ a ∧ a < w2.heap.size) := fun a ha => by
    rcases List.mem_append.1 ha with ha | ha
    · have := GA.out a ha; omega
    · have := rgB a ha; have := Z1.out; omega
  have HB2 : Hid (Below w.heap.size w w2) := B2
  obtain ⟨p1', c1', hu, _⟩ := r1.shape
  subst hu
  clear hp hb r1 HA HR HO HB1 k01 ndB rgB NA GA sz2 B2
  have o0 := bO.cell 0 _ rfl
  have q0 := bR.cell 0 _ rfl
  have k0 := bR.frozen 0
  have o1 := bO.cell 1 _ rfl
  have q1 := bR.cell 1 _ rfl
  have k1 := bR.frozen 1
  have g1 := bO.frozen 1
  clear bA bR bO
  go_wp2_with fail
  have sf : SameOn (fun g => w.heap.size + 1 + 1 + 1 ≤ g) w2 (((w2.setCell ⟨w.heap.size + 1 + 1, 1, none⟩ (.slice p1' e.2.length c1')).setCell ⟨w.heap.size + 1, 0, none⟩ (.slice p0' e.1.length c0')).setCell ⟨w.heap.size + 1, 1, none⟩ (.slice p1' e.2.length c1')) := SameOn.setCell (SameOn.setCell (SameOn.setCell (SameOn.of_below (Below.refl _ _)) (by show ¬ (_ ≤ w.heap.size + 1 + 1); omega) _) (by show ¬ (_ ≤ w.heap.size + 1); omega) _) (by show ¬ (_ ≤ w.heap.size + 1); omega) _
  have bf : Below w.heap.size w (((w2.setCell ⟨w.heap.size + 1 + 1, 1, none⟩ (.slice p1' e.2.length c1')).setCell ⟨w.heap.size + 1, 0, none⟩ (.slice p0' e.1.length c0')).setCell ⟨w.heap.size + 1, 1, none⟩ (.slice p1' e.2.length c1')) := Below.setCell (Below.setCell (Below.setCell (HB2.out) (by show _ ≤ w.heap.size + 1 + 1; omega) _) (by show _ ≤ w.heap.size + 1; omega) _) (by show _ ≤ w.heap.size + 1; omega) _
  have kf : KeepOn (fA ++ fB) w2 (((w2.setCell ⟨w.heap.size + 1 + 1, 1, none⟩ (.slice p1' e.2.length c1')).setCell ⟨w.heap.size + 1, 0, none⟩ (.slice p0' e.1.length c0')).setCell ⟨w.heap.size + 1, 1, none⟩ (.slice p1' e.2.length c1')) := fun a ha => sf.2 a (HRG.out a ha).1 (HRG.out a ha).2
  have kA := kf.sub (fp' := fA) (fun a ha => by simp [ha])
  have kB := kf.sub (fp' := fB) (fun a ha => by simp [ha])
  have U0 := T0.out.keep kA (fun cs x f _ hs h => h.keep (kA.sub hs))
  have U1 := T1.out.keep kB (fun cs x f _ hs h => h.keep (kB.sub hs))
  exact bodyPost_ret (v := .agg #[.slice p0' e.1.length c0', .slice p1' e.2.length c1']) (by simp [results, Tryz.results103, go_sem, q0, q1]) rfl
    ⟨_, fA ++ fB, rfl, ⟨_, rfl, _, _, fA, fB, rfl, rfl, U0, U1⟩, HND.out, fun a ha => ⟨by have := (HRG.out a ha).1; omega, Nat.lt_of_lt_of_le (HRG.out a ha).2 sf.1⟩, bf⟩

set_option maxHeartbeats 4000000 in
theorem toExp_ofO {d : Nat} (h0 : ToO 120 (fun w v es => Rows w All 6 (HEx w All d) v es) (fun w v es fp => ORows w 73 6 (OEx w d) v es fp) (wtS (wtEx d))) (h1 : ToO 83 (fun w v es => Rows w All 2 (HCl w All (HEx w All d)) v es) (fun w v es fp => ORows w 69 2 (OCls w d) v es fp) (wtS (wtCl (wtEx d)))) :
    ToO 131 (fun w v e => ∃ cs, v = .agg cs.toArray ∧ HEx w All (d + 1) cs e) (fun w v e fp => ∃ cs, v = .agg cs.toArray ∧ OEx w (d + 1) cs e fp) (wtEx (d + 1)) := by
  intro w v e i1 hwt
  obtain ⟨cs, rfl, v0, v1, rfl, s0, s1, s2, s3, f0, f1⟩ := i1
  have hw0 : wtS (wtEx d) e.kids ≤ 1048576 := by unfold wtEx at hwt; omega
  have E0 : ∀ w', SameOn All w w' → Rows w' All 6 (HEx w' All d) v0 e.kids := fun w' hw => f0.mono hw (fun _ h => h) (fun _ _ _ => HEx.mono hw (fun _ h => h))
  have hw1 : wtS (wtCl (wtEx d)) e.clauses ≤ 1048576 := by unfold wtEx at hwt; omega
  have E1 : ∀ w', SameOn All w w' → Rows w' All 2 (HCl w' All (HEx w' All d)) v1 e.clauses := fun w' hw => f1.mono hw (fun _ h => h) (fun _ _ _ h => h.mono hw (fun _ h => h) (fun _ _ => HEx.mono hw (fun _ h => h)))
  obtain ⟨p0, c0, rfl, _⟩ := id f0
  obtain ⟨p1, c1, rfl, _⟩ := id f1
  clear f0 f1
  go_enter Tryz.func131, Tryz.ntmps131
  go_wp2_with fail
  have hal : Below w.heap.size w (((w.alloc (.cells #[.int .i64 e.kind, .int .i64 e.n, .string e.text, .string e.mod, .slice p0 e.kids.length c0, .slice p1 e.clauses.length c1] 165)).alloc (.cells #[.int .i64 0, .int .i64 0, .string ⟨#[]⟩, .string ⟨#[]⟩, .slice none 0 0, .slice none 0 0] 73)).alloc (.cells #[.int .i64 e.kind, .int .i64 e.n, .string e.text, .string e.mod, .slice none 0 0, .slice none 0 0] 73)) := (((Below.refl _ _).alloc (Nat.le_refl _) _).alloc (by simp only [alloc_hs]; omega) _).alloc (by simp only [alloc_hs]; omega) _
  refine (h0 _ _ e.kids (E0 _ (SameOn.of_below hal)) hw0).mono ?_
  rintro ex w1 ⟨u, fA, rfl, r0, ndA, rgA, hb⟩
  have bA := ((Blk.new (w := w) (cs := #[.int .i64 e.kind, .int .i64 e.n, .string e.text, .string e.mod, .slice p0 e.kids.length c0, .slice p1 e.clauses.length c1]) (t := 165)).alloc (o := .cells #[.int .i64 0, .int .i64 0, .string ⟨#[]⟩, .string ⟨#[]⟩, .slice none 0 0, .slice none 0 0] 73)).alloc (o := .cells #[.int .i64 e.kind, .int .i64 e.n, .string e.text, .string e.mod, .slice none 0 0, .slice none 0 0] 73)
  have bR := (Blk.new (w := (w.alloc (.cells #[.int .i64 e.kind, .int .i64 e.n, .string e.text, .string e.mod, .slice p0 e.kids.length c0, .slice p1 e.clauses.length c1] 165))) (cs := #[.int .i64 0, .int .i64 0, .string ⟨#[]⟩, .string ⟨#[]⟩, .slice none 0 0, .slice none 0 0]) (t := 73)).alloc (o := .cells #[.int .i64 e.kind, .int .i64 e.n, .string e.text, .string e.mod, .slice none 0 0, .slice none 0 0] 73)
  have bO := (Blk.new (w := ((w.alloc (.cells #[.int .i64 e.kind, .int .i64 e.n, .string e.text, .string e.mod, .slice p0 e.kids.length c0, .slice p1 e.clauses.length c1] 165)).alloc (.cells #[.int .i64 0, .int .i64 0, .string ⟨#[]⟩, .string ⟨#[]⟩, .slice none 0 0, .slice none 0 0] 73))) (cs := #[.int .i64 e.kind, .int .i64 e.n, .string e.text, .string e.mod, .slice none 0 0, .slice none 0 0]) (t := 73))
  simp only [alloc_hs] at bA bR bO rgA
  replace bA := bA.below hb (by simp only [alloc_hs]; omega)
  replace bR := bR.below hb (by simp only [alloc_hs]; omega)
  replace bO := bO.below hb (by simp only [alloc_hs]; omega)
  have B1 : Below w.heap.size w w1 := hal.trans (hb.mono hal.size)
  have z1 : w.heap.size + 3 ≤ w1.heap.size := by have := hb.size; simp only [alloc_hs] at this; omega
  have Z1 : Hid (w.heap.size + 3 ≤ w1.heap.size) := z1
  have T0 : Hid (ORows w1 73 6 (OEx w1 d) u e.kids fA) := r0
  have NA : Hid (fA.Nodup) := ndA
  have GA : Hid (∀ a ∈ fA, w.heap.size + 1 + 1 + 1 ≤ a ∧ a < w1.heap.size) := rgA
  clear hal hb z1 ndA rgA
  obtain ⟨p0', c0', hu, _⟩ := r0.shape
  subst hu
  clear r0
  have a5 := bA.cell 5 _ rfl
  have o4 := bO.cell 4 _ rfl
  have g4 := bO.frozen 4
  have HA : Hid (Blk w1 w.heap.size #[.int .i64 e.kind, .int .i64 e.n, .string e.text, .string e.mod, .slice p0 e.kids.length c0, .slice p1 e.clauses.length c1] 165) := bA
  have HR : Hid (Blk w1 (w.heap.size + 1) #[.int .i64 0, .int .i64 0, .string ⟨#[]⟩, .string ⟨#[]⟩, .slice none 0 0, .slice none 0 0] 73) := bR
  have HO : Hid (Blk w1 (w.heap.size + 1 + 1) #[.int .i64 e.kind, .int .i64 e.n, .string e.text, .string e.mod, .slice none 0 0, .slice none 0 0] 73) := bO
  have HB1 : Hid (Below w.heap.size w w1) := B1
  clear bA bR bO B1
  go_wp2_with fail
  have hp : Below w.heap.size w (w1.setCell ⟨w.heap.size + 1 + 1, 4, none⟩ (.slice p0' e.kids.length c0')) := HB1.out.setCell (by show _ ≤ w.heap.size + 1 + 1; omega) _
  refine (h1 _ _ e.clauses (E1 _ (SameOn.of_below hp)) hw1).mono ?_
  rintro ex w2 ⟨u, fB, rfl, r1, ndB, rgB, hb⟩
  have bA := ((HA.out.other (p := ⟨w.heap.size + 1 + 1, 4, none⟩) (v := (.slice p0' e.kids.length c0')) (by show w.heap.size ≠ w.heap.size + 1 + 1; omega)).below hb (by have := Z1.out; simp only [setCell_hs]; omega))
  have bR := ((HR.out.other (p := ⟨w.heap.size + 1 + 1, 4, none⟩) (v := (.slice p0' e.kids.length c0')) (by show w.heap.size + 1 ≠ w.heap.size + 1 + 1; omega)).below hb (by have := Z1.out; simp only [setCell_hs]; omega))
  have bO := ((HO.out.same (j := 4) (v := (.slice p0' e.kids.length c0')) (cs' := #[.int .i64 e.kind, .int .i64 e.n, .string e.text, .string e.mod, .slice p0' e.kids.length c0', .slice none 0 0]) rfl).below hb (by have := Z1.out; simp only [setCell_hs]; omega))
  have B2 : Below w.heap.size w w2 := hp.trans (hb.mono hp.size)
  simp only [setCell_hs] at rgB
  have k01 : KeepOn fA w1 w2 := fun a ha => by
    have h := GA.out a ha
    exact (hb.block a (by simp only [setCell_hs]; exact h.2)).trans (Below.heap_setCell _ _ _ _ (by show a ≠ w.heap.size + 1 + 1; omega))
  have T0 : Hid (ORows w2 73 6 (OEx w2 d) (.slice p0' e.kids.length c0') e.kids fA) := by have h := T0.out; exact h.keep k01 (fun cs x f _ hs h => h.keep (k01.sub hs))
  have T1 : Hid (ORows w2 69 2 (OCls w2 d) u e.clauses fB) := r1
  have sz2 : w1.heap.size ≤ w2.heap.size := by have := hb.size; simp only [setCell_hs] at this; exact this
  have HND : Hid ((fA ++ fB).Nodup) := by
    show List.Nodup _
    rw [List.nodup_append]
    exact ⟨NA.out, ndB, fun a ha b hb => by have := GA.out a ha; have := rgB b hb; omega⟩
  have HRG : Hid (∀ a ∈ fA ++ fB, w.heap.size + 1 + 1 + 1 ≤ a ∧ a < w2.heap.size) := fun a ha => by
    rcases List.mem_append.1 ha with ha | ha
    · have := GA.out a ha; omega
    · have := rgB a ha; have := Z1.out; omega
  have HB2 : Hid (Below w.heap.size w w2) := B2
  obtain ⟨p1', c1', hu, _⟩ := r1.shape
  subst hu
  clear hp hb r1 HA HR HO HB1 k01 ndB rgB NA GA sz2 B2
  have o0 := bO.cell 0 _ rfl
  have q0 := bR.cell 0 _ rfl
  have k0 := bR.frozen 0
  have o1 := bO.cell 1 _ rfl
  have q1 := bR.cell 1 _ rfl
  have k1 := bR.frozen 1
  have o2 := bO.cell 2 _ rfl
  have q2 := bR.cell 2 _ rfl
  have k2 := bR.frozen 2
  have o3 := bO.cell 3 _ rfl
  have q3 := bR.cell 3 _ rfl
  have k3 := bR.frozen 3
  have o4 := bO.cell 4 _ rfl
  have q4 := bR.cell 4 _ rfl
  have k4 := bR.frozen 4
  have o5 := bO.cell 5 _ rfl
  have q5 := bR.cell 5 _ rfl
  have k5 := bR.frozen 5
  have g5 := bO.frozen 5
  clear bA bR bO
  go_wp2_with fail
  have sf : SameOn (fun g => w.heap.size + 1 + 1 + 1 ≤ g) w2 (((((((w2.setCell ⟨w.heap.size + 1 + 1, 5, none⟩ (.slice p1' e.clauses.length c1')).setCell ⟨w.heap.size + 1, 0, none⟩ (.int .i64 e.kind)).setCell ⟨w.heap.size + 1, 1, none⟩ (.int .i64 e.n)).setCell ⟨w.heap.size + 1, 2, none⟩ (.string e.text)).setCell ⟨w.heap.size + 1, 3, none⟩ (.string e.mod)).setCell ⟨w.heap.size + 1, 4, none⟩ (.slice p0' e.kids.length c0')).setCell ⟨w.heap.size + 1, 5, none⟩ (.slice p1' e.clauses.length c1')) := SameOn.setCell (SameOn.setCell (SameOn.setCell (SameOn.setCell (SameOn.setCell (SameOn.setCell (SameOn.setCell (SameOn.of_below (Below.refl _ _)) (by show ¬ (_ ≤ w.heap.size + 1 + 1); omega) _) (by show ¬ (_ ≤ w.heap.size + 1); omega) _) (by show ¬ (_ ≤ w.heap.size + 1); omega) _) (by show ¬ (_ ≤ w.heap.size + 1); omega) _) (by show ¬ (_ ≤ w.heap.size + 1); omega) _) (by show ¬ (_ ≤ w.heap.size + 1); omega) _) (by show ¬ (_ ≤ w.heap.size + 1); omega) _
  have bf : Below w.heap.size w (((((((w2.setCell ⟨w.heap.size + 1 + 1, 5, none⟩ (.slice p1' e.clauses.length c1')).setCell ⟨w.heap.size + 1, 0, none⟩ (.int .i64 e.kind)).setCell ⟨w.heap.size + 1, 1, none⟩ (.int .i64 e.n)).setCell ⟨w.heap.size + 1, 2, none⟩ (.string e.text)).setCell ⟨w.heap.size + 1, 3, none⟩ (.string e.mod)).setCell ⟨w.heap.size + 1, 4, none⟩ (.slice p0' e.kids.length c0')).setCell ⟨w.heap.size + 1, 5, none⟩ (.slice p1' e.clauses.length c1')) := Below.setCell (Below.setCell (Below.setCell (Below.setCell (Below.setCell (Below.setCell (Below.setCell (HB2.out) (by show _ ≤ w.heap.size + 1 + 1; omega) _) (by show _ ≤ w.heap.size + 1; omega) _) (by show _ ≤ w.heap.size + 1; omega) _) (by show _ ≤ w.heap.size + 1; omega) _) (by show _ ≤ w.heap.size + 1; omega) _) (by show _ ≤ w.heap.size + 1; omega) _) (by show _ ≤ w.heap.size + 1; omega) _
  have kf : KeepOn (fA ++ fB) w2 (((((((w2.setCell ⟨w.heap.size + 1 + 1, 5, none⟩ (.slice p1' e.clauses.length c1')).setCell ⟨w.heap.size + 1, 0, none⟩ (.int .i64 e.kind)).setCell ⟨w.heap.size + 1, 1, none⟩ (.int .i64 e.n)).setCell ⟨w.heap.size + 1, 2, none⟩ (.string e.text)).setCell ⟨w.heap.size + 1, 3, none⟩ (.string e.mod)).setCell ⟨w.heap.size + 1, 4, none⟩ (.slice p0' e.kids.length c0')).setCell ⟨w.heap.size + 1, 5, none⟩ (.slice p1' e.clauses.length c1')) := fun a ha => sf.2 a (HRG.out a ha).1 (HRG.out a ha).2
  have kA := kf.sub (fp' := fA) (fun a ha => by simp [ha])
  have kB := kf.sub (fp' := fB) (fun a ha => by simp [ha])
  have U0 := T0.out.keep kA (fun cs x f _ hs h => h.keep (kA.sub hs))
  have U1 := T1.out.keep kB (fun cs x f _ hs h => OCls.keep h (kB.sub hs))
  exact bodyPost_ret (v := .agg #[.int .i64 e.kind, .int .i64 e.n, .string e.text, .string e.mod, .slice p0' e.kids.length c0', .slice p1' e.clauses.length c1']) (by simp [results, Tryz.results131, go_sem, q0, q1, q2, q3, q4, q5]) rfl
    ⟨_, fA ++ fB, rfl, ⟨_, rfl, _, _, fA, fB, rfl, rfl, s0, s1, s2, s3, U0, U1⟩, HND.out, fun a ha => ⟨by have := (HRG.out a ha).1; omega, Nat.lt_of_lt_of_le (HRG.out a ha).2 sf.1⟩, bf⟩

theorem toExp_own : ∀ d, ToO 131 (fun w v e => ∃ cs, v = .agg cs.toArray ∧ HEx w All d cs e) (fun w v e fp => ∃ cs, v = .agg cs.toArray ∧ OEx w d cs e fp) (wtEx d)
  | 0 => fun w v x ⟨_, _, h⟩ _ => h.elim
  | d + 1 => toExp_ofO (toExpS_ofO (toExp_own d)) (toClauseS_ofO (toClause_ofO (toExpS_ofO (toExp_own d)) (toExpS_ofO (toExp_own d))))
theorem toClause_own (d : Nat) : ToO 103 (fun w v e => ∃ cs, v = .agg cs.toArray ∧ HCl w All (HEx w All d) cs e) (fun w v e fp => ∃ cs, v = .agg cs.toArray ∧ OCl w (OEx w d) cs e fp) (wtCl (wtEx d)) :=
  toClause_ofO (toExpS_ofO (toExp_own d)) (toExpS_ofO (toExp_own d))
theorem toExpS_own (d : Nat) : ToO 120 (fun w v es => Rows w All 6 (HEx w All d) v es) (fun w v es fp => ORows w 73 6 (OEx w d) v es fp) (wtS (wtEx d)) := toExpS_ofO (toExp_own d)
theorem toClauseS_own (d : Nat) : ToO 83 (fun w v es => Rows w All 2 (HCl w All (HEx w All d)) v es) (fun w v es fp => ORows w 69 2 (OCl w (OEx w d)) v es fp) (wtS (wtCl (wtEx d))) := toClauseS_ofO (toClause_own d)
end Go.Proofs.YtigfmdfgioccjaaGreatDoor
/-
  The laws' toModule and what it calls: a copy of a module in memory that the copy owns.
-/
namespace Go.Proofs.YtigfmdfgioccjaaGreatDoor
open Go.ChangeShapes Go.WideShapes Go.ChangeAt Go.RowKit
set_option linter.unusedVariables false


set_option maxHeartbeats 4000000 in
theorem toRefS_ofO {d : Nat} (hE : ToO 58 (fun w v e => ∃ cs, v = .agg cs.toArray ∧ HRf cs e) (fun w v e fp => ∃ cs, v = .agg cs.toArray ∧ ORf w d cs e fp) (wtRf)) :
    ToO 34 (fun w v es => Rows w All 2 (HRf) v es) (fun w v es fp => ORows w 44 2 (ORf w d) v es fp) (wtS (wtRf)) := by
  intro w v es h hwt
  obtain ⟨p, cap, rfl, hcl, hcm, hx⟩ := h
  generalize hn : es.length = n at *
  have HN : Hid (es.length = n) := hn
  have HX : Hid _ := hx
  have hnb : n ≤ 1048576 := by unfold wtS at hwt; omega
  have HWT : Hid (wtS (wtRf) es ≤ 1048576) := hwt
  clear hx hn hwt
  obtain ⟨M, hM, hmk⟩ := make_row (t := 39) (e := 44) (c := 2) Tryz.underlying39 (by kernel_rfl) w n hnb
  have HO : Hid (Made w (w.alloc (.cells M 44)) w.heap.size n 44 2 (fun w => ORf w d) es 0 M.toList []) := Made.start hM (by unfold maxLen; omega)
  generalize hG : w.heap.size = G at *
  have HG : Hid (w.heap.size = G) := hG
  go_enter Tryz.func34, Tryz.ntmps34
  go_wp2
  go_loopw [4] (fun iv wr => ∃ (k : Nat) (xs : List Value) (fps : List (List Nat)), k ≤ n ∧ iv = .int .i64 k ∧ Hid (Made w wr G n 44 2 (fun w => ORf w d) es k xs fps)) (fun iv _ => n - (intOf iv).toNat)
  case atStart => exact ⟨0, M.toList, [], Nat.zero_le _, rfl, HO⟩
  case round =>
    obtain ⟨k, xs, fps, hk, rfl, HM⟩ := hrel
    by_cases hlt : k < n
    · obtain ⟨x, hxk⟩ : ∃ x, es[k]? = some x := ⟨es[k]'(by rw [HN.out]; exact hlt), List.getElem?_eq_getElem _⟩
      obtain ⟨g, off, rfl, hg, hgl, hat⟩ := HX.out (by intro h; rw [h] at hxk; simp at hxk)
      obtain ⟨cs, hcl6, hcs, hex⟩ := hat k x hxk
      have hbw : Below w.heap.size w wr := by rw [HG.out]; exact HM.out.below
      have hex' : ∀ w', SameOn All wr w' → HRf cs x := fun w' hw => hex
      obtain ⟨z0, z1, rfl⟩ := len2 hcl6
      have a0 := hcs 0 (by omega)
      have a1 := hcs 1 (by omega)
      rw [← hbw.cell (p := ⟨g, _, none⟩) (by show g < w.heap.size; rw [HG.out]; exact hgl)] at a0 a1
      simp at a0 a1
      have hwx : wtRf x ≤ 1048576 := by
        have h1 := HWT.out
        have h2 := sum_take_succ (wtRf) es k x hxk
        have h3 := sum_take_le (wtRf) es (k + 1)
        unfold wtS at h1
        omega
      clear hbw hcs hat hex hcl6
      go_wp2_with (go_at_call 58; go_must (refine (hE _ _ x ⟨_, rfl, hex' _ (by exact ⟨Nat.le_refl _, fun _ _ _ => rfl⟩)⟩ hwx).mono ?_; rintro e w1 ⟨u, fp, rfl, ⟨cs', rfl, hx1⟩, hnd, hrg, hb1⟩; obtain ⟨st, sk, hsh⟩ := hx1.shape; subst hsh; have HB1 : Hid (Below wr.heap.size wr w1) := hb1; have HX1 : Hid (ORf w1 d [.string st, .int .i64 sk] x fp) := hx1; have HND : Hid fp.Nodup := hnd; have HRG : Hid (∀ a ∈ fp, wr.heap.size ≤ a ∧ a < w1.heap.size) := hrg; have o1 := HM.out.own.kept (grownBy_belowR (r := none) hb1) (Or.inr (by simp [Value.ownBlock])); have HO1 : Hid (w1.ownsRow G 44 2 (.slice (some ⟨G, 0, none⟩) n n) n xs) := o1; have f0 := o1.frozenAt (k * 2); obtain ⟨y0, g0⟩ := own_someR o1 (k * 2) (by omega); have f1 := o1.frozenAt (k * 2 + 1); obtain ⟨y1, g1⟩ := own_someR o1 (k * 2 + 1) (by omega); clear o1 hb1 hx1 hnd hrg))
      have sd := stored2 HO1.out (k * 2) (.string st) (.int .i64 sk)
      have hlen : xs.length = n * 2 := HO1.out.1
      exact ⟨⟨k + 1, _, _, by omega, by go_num, Made.step (O := fun w => ORf w d) (c := 2) (fun w w' cs x f h hk => h) HM.out hxk HB1.out HX1.out HND.out HRG.out rfl sd.1 sd.2 (fun m hm => set2_other hm) (fun j hj => set2_self (by omega) j hj)⟩, by simp [intOf]; omega⟩
    · obtain rfl : k = n := by omega
      obtain ⟨fp, r1, r2, r3⟩ := HM.out.done HN.out (by unfold maxLen; omega)
      have R1 : Hid (ORows wr 44 2 (ORf wr d) (.slice (some ⟨G, 0, none⟩) k k) es fp) := r1
      have R2 : Hid (fp.Nodup ∧ ∀ a ∈ fp, G ≤ a ∧ a < wr.heap.size) := ⟨r2, r3⟩
      clear r1 r2 r3
      go_wp2
      go_ret
      exact ⟨_, fp, rfl, R1.out, R2.out.1, R2.out.2, HM.out.below⟩

set_option maxHeartbeats 4000000 in
theorem toFunS_ofO {d : Nat} (hE : ToO 59 (fun w v e => ∃ cs, v = .agg cs.toArray ∧ HFn w All d cs e) (fun w v e fp => ∃ cs, v = .agg cs.toArray ∧ OFn w d cs e fp) (wtFn d)) :
    ToO 35 (fun w v es => Rows w All 3 (HFn w All d) v es) (fun w v es fp => ORows w 52 3 (OFn w d) v es fp) (wtS (wtFn d)) := by
  intro w v es h hwt
  obtain ⟨p, cap, rfl, hcl, hcm, hx⟩ := h
  generalize hn : es.length = n at *
  have HN : Hid (es.length = n) := hn
  have HX : Hid _ := hx
  have hnb : n ≤ 1048576 := by unfold wtS at hwt; omega
  have HWT : Hid (wtS (wtFn d) es ≤ 1048576) := hwt
  clear hx hn hwt
  obtain ⟨M, hM, hmk⟩ := make_row (t := 40) (e := 52) (c := 3) Tryz.underlying40 (by kernel_rfl) w n hnb
  have HO : Hid (Made w (w.alloc (.cells M 52)) w.heap.size n 52 3 (fun w => OFn w d) es 0 M.toList []) := Made.start hM (by unfold maxLen; omega)
  generalize hG : w.heap.size = G at *
  have HG : Hid (w.heap.size = G) := hG
  go_enter Tryz.func35, Tryz.ntmps35
  go_wp2
  go_loopw [4] (fun iv wr => ∃ (k : Nat) (xs : List Value) (fps : List (List Nat)), k ≤ n ∧ iv = .int .i64 k ∧ Hid (Made w wr G n 52 3 (fun w => OFn w d) es k xs fps)) (fun iv _ => n - (intOf iv).toNat)
  case atStart => exact ⟨0, M.toList, [], Nat.zero_le _, rfl, HO⟩
  case round =>
    obtain ⟨k, xs, fps, hk, rfl, HM⟩ := hrel
    by_cases hlt : k < n
    · obtain ⟨x, hxk⟩ : ∃ x, es[k]? = some x := ⟨es[k]'(by rw [HN.out]; exact hlt), List.getElem?_eq_getElem _⟩
      obtain ⟨g, off, rfl, hg, hgl, hat⟩ := HX.out (by intro h; rw [h] at hxk; simp at hxk)
      obtain ⟨cs, hcl6, hcs, hex⟩ := hat k x hxk
      have hbw : Below w.heap.size w wr := by rw [HG.out]; exact HM.out.below
      have hex' : ∀ w', SameOn All wr w' → HFn w' All d cs x := fun w' hw => hex.mono (SameOn.trans (SameOn.of_below hbw) hw) (fun _ h => h)
      obtain ⟨z0, z1, z2, rfl⟩ := len3 hcl6
      have a0 := hcs 0 (by omega)
      have a1 := hcs 1 (by omega)
      have a2 := hcs 2 (by omega)
      rw [← hbw.cell (p := ⟨g, _, none⟩) (by show g < w.heap.size; rw [HG.out]; exact hgl)] at a0 a1 a2
      simp at a0 a1 a2
      have hwx : wtFn d x ≤ 1048576 := by
        have h1 := HWT.out
        have h2 := sum_take_succ (wtFn d) es k x hxk
        have h3 := sum_take_le (wtFn d) es (k + 1)
        unfold wtS at h1
        omega
      clear hbw hcs hat hex hcl6
      go_wp2_with (go_at_call 59; go_must (refine (hE _ _ x ⟨_, rfl, hex' _ (by exact ⟨Nat.le_refl _, fun _ _ _ => rfl⟩)⟩ hwx).mono ?_; rintro e w1 ⟨u, fp, rfl, ⟨cs', rfl, hx1⟩, hnd, hrg, hb1⟩; obtain ⟨st, sk, p1, n1, q1, hsh⟩ := hx1.shape; subst hsh; have HB1 : Hid (Below wr.heap.size wr w1) := hb1; have HX1 : Hid (OFn w1 d [.string st, .int .i64 sk, .slice p1 n1 q1] x fp) := hx1; have HND : Hid fp.Nodup := hnd; have HRG : Hid (∀ a ∈ fp, wr.heap.size ≤ a ∧ a < w1.heap.size) := hrg; have o1 := HM.out.own.kept (grownBy_belowR (r := none) hb1) (Or.inr (by simp [Value.ownBlock])); have HO1 : Hid (w1.ownsRow G 52 3 (.slice (some ⟨G, 0, none⟩) n n) n xs) := o1; have f0 := o1.frozenAt (k * 3); obtain ⟨y0, g0⟩ := own_someR o1 (k * 3) (by omega); have f1 := o1.frozenAt (k * 3 + 1); obtain ⟨y1, g1⟩ := own_someR o1 (k * 3 + 1) (by omega); have f2 := o1.frozenAt (k * 3 + 2); obtain ⟨y2, g2⟩ := own_someR o1 (k * 3 + 2) (by omega); clear o1 hb1 hx1 hnd hrg))
      have sd := stored3 HO1.out (k * 3) (.string st) (.int .i64 sk) (.slice p1 n1 q1)
      have hlen : xs.length = n * 3 := HO1.out.1
      exact ⟨⟨k + 1, _, _, by omega, by go_num, Made.step (O := fun w => OFn w d) (c := 3) (fun w w' cs x f h hk => OFn.keep h hk) HM.out hxk HB1.out HX1.out HND.out HRG.out rfl sd.1 sd.2 (fun m hm => set3_other hm) (fun j hj => set3_self (by omega) j hj)⟩, by simp [intOf]; omega⟩
    · obtain rfl : k = n := by omega
      obtain ⟨fp, r1, r2, r3⟩ := HM.out.done HN.out (by unfold maxLen; omega)
      have R1 : Hid (ORows wr 52 3 (OFn wr d) (.slice (some ⟨G, 0, none⟩) k k) es fp) := r1
      have R2 : Hid (fp.Nodup ∧ ∀ a ∈ fp, G ≤ a ∧ a < wr.heap.size) := ⟨r2, r3⟩
      clear r1 r2 r3
      go_wp2
      go_ret
      exact ⟨_, fp, rfl, R1.out, R2.out.1, R2.out.2, HM.out.below⟩

set_option maxHeartbeats 4000000 in
theorem toRef_ofO {d : Nat} :
    ToO 58 (fun w v e => ∃ cs, v = .agg cs.toArray ∧ HRf cs e) (fun w v e fp => ∃ cs, v = .agg cs.toArray ∧ ORf w d cs e fp) (wtRf) := by
  intro w v e i1 hwt
  obtain ⟨cs, rfl, rfl, s0, s1⟩ := i1
  go_enter Tryz.func58, Tryz.ntmps58
  go_wp2
  exact bodyPost_ret (v := .agg #[.string e.name, .int .i64 e.arity]) (by simp [results, Tryz.results58, go_sem]) rfl ⟨_, [], rfl, ⟨_, rfl, ⟨rfl, s0, s1⟩, rfl⟩, by simp, fun a ha => by simp at ha, (((Below.refl _ _).alloc (Nat.le_refl _) _).alloc (by simp only [alloc_hs]; omega) _).alloc (by simp only [alloc_hs]; omega) _⟩

set_option maxHeartbeats 4000000 in
theorem toFun_ofO {d : Nat} (h0 : ToO 83 (fun w v es => Rows w All 2 (HCl w All (HEx w All d)) v es) (fun w v es fp => ORows w 69 2 (OCls w d) v es fp) (wtS (wtCl (wtEx d)))) :
    ToO 59 (fun w v e => ∃ cs, v = .agg cs.toArray ∧ HFn w All d cs e) (fun w v e fp => ∃ cs, v = .agg cs.toArray ∧ OFn w d cs e fp) (wtFn d) := by
  intro w v e i1 hwt
  obtain ⟨cs, rfl, v0, rfl, s0, s1, f0⟩ := i1
  have hw0 : wtS (wtCl (wtEx d)) e.clauses ≤ 1048576 := by unfold wtFn at hwt; omega
  have E0 : ∀ w', SameOn All w w' → Rows w' All 2 (HCl w' All (HEx w' All d)) v0 e.clauses := fun w' hw => f0.mono hw (fun _ h => h) (fun _ _ _ h => h.mono hw (fun _ h => h) (fun _ _ => HEx.mono hw (fun _ h => h)))
  obtain ⟨p0, c0, rfl, _⟩ := id f0
  clear f0
  go_enter Tryz.func59, Tryz.ntmps59
  go_wp2_with fail
  have hal : Below w.heap.size w (((w.alloc (.cells #[.string e.name, .int .i64 e.arity, .slice p0 e.clauses.length c0] 91)).alloc (.cells #[.string ⟨#[]⟩, .int .i64 0, .slice none 0 0] 52)).alloc (.cells #[.string e.name, .int .i64 e.arity, .slice none 0 0] 52)) := (((Below.refl _ _).alloc (Nat.le_refl _) _).alloc (by simp only [alloc_hs]; omega) _).alloc (by simp only [alloc_hs]; omega) _
  refine (h0 _ _ e.clauses (E0 _ (SameOn.of_below hal)) hw0).mono ?_
  rintro ex w1 ⟨u, fp, rfl, r0, hnd, hrg, hb⟩
  have bR := (Blk.new (w := (w.alloc (.cells #[.string e.name, .int .i64 e.arity, .slice p0 e.clauses.length c0] 91))) (cs := #[.string ⟨#[]⟩, .int .i64 0, .slice none 0 0]) (t := 52)).alloc (o := .cells #[.string e.name, .int .i64 e.arity, .slice none 0 0] 52)
  have bO := (Blk.new (w := ((w.alloc (.cells #[.string e.name, .int .i64 e.arity, .slice p0 e.clauses.length c0] 91)).alloc (.cells #[.string ⟨#[]⟩, .int .i64 0, .slice none 0 0] 52))) (cs := #[.string e.name, .int .i64 e.arity, .slice none 0 0]) (t := 52))
  simp only [alloc_hs] at bR bO hrg
  replace bR := bR.below hb (by simp only [alloc_hs]; omega)
  replace bO := bO.below hb (by simp only [alloc_hs]; omega)
  have HB1 : Hid (Below w.heap.size w w1) := hal.trans (hb.mono hal.size)
  have HND : Hid (fp.Nodup) := hnd
  have HRG : Hid (∀ a ∈ fp, w.heap.size + 1 + 1 + 1 ≤ a ∧ a < w1.heap.size) := hrg
  have T0 : Hid (ORows w1 69 2 (OCls w1 d) u e.clauses fp) := r0
  clear hal hb hnd hrg
  obtain ⟨p1, c1, hu, _⟩ := r0.shape
  subst hu
  clear r0
  have o0 := bO.cell 0 _ rfl
  have q0 := bR.cell 0 _ rfl
  have k0 := bR.frozen 0
  have o1 := bO.cell 1 _ rfl
  have q1 := bR.cell 1 _ rfl
  have k1 := bR.frozen 1
  have o2 := bO.cell 2 _ rfl
  have q2 := bR.cell 2 _ rfl
  have k2 := bR.frozen 2
  have g2 := bO.frozen 2
  clear bR bO
  go_wp2_with fail
  have sf : SameOn (fun g => w.heap.size + 1 + 1 + 1 ≤ g) w1 ((((w1.setCell ⟨w.heap.size + 1 + 1, 2, none⟩ (.slice p1 e.clauses.length c1)).setCell ⟨w.heap.size + 1, 0, none⟩ (.string e.name)).setCell ⟨w.heap.size + 1, 1, none⟩ (.int .i64 e.arity)).setCell ⟨w.heap.size + 1, 2, none⟩ (.slice p1 e.clauses.length c1)) := SameOn.setCell (SameOn.setCell (SameOn.setCell (SameOn.setCell (SameOn.of_below (Below.refl _ _)) (by show ¬ (_ ≤ w.heap.size + 1 + 1); omega) _) (by show ¬ (_ ≤ w.heap.size + 1); omega) _) (by show ¬ (_ ≤ w.heap.size + 1); omega) _) (by show ¬ (_ ≤ w.heap.size + 1); omega) _
  have bf : Below w.heap.size w ((((w1.setCell ⟨w.heap.size + 1 + 1, 2, none⟩ (.slice p1 e.clauses.length c1)).setCell ⟨w.heap.size + 1, 0, none⟩ (.string e.name)).setCell ⟨w.heap.size + 1, 1, none⟩ (.int .i64 e.arity)).setCell ⟨w.heap.size + 1, 2, none⟩ (.slice p1 e.clauses.length c1)) := Below.setCell (Below.setCell (Below.setCell (Below.setCell (HB1.out) (by show _ ≤ w.heap.size + 1 + 1; omega) _) (by show _ ≤ w.heap.size + 1; omega) _) (by show _ ≤ w.heap.size + 1; omega) _) (by show _ ≤ w.heap.size + 1; omega) _
  have kf : KeepOn fp w1 ((((w1.setCell ⟨w.heap.size + 1 + 1, 2, none⟩ (.slice p1 e.clauses.length c1)).setCell ⟨w.heap.size + 1, 0, none⟩ (.string e.name)).setCell ⟨w.heap.size + 1, 1, none⟩ (.int .i64 e.arity)).setCell ⟨w.heap.size + 1, 2, none⟩ (.slice p1 e.clauses.length c1)) := fun a ha => sf.2 a (HRG.out a ha).1 (HRG.out a ha).2
  exact bodyPost_ret (v := .agg #[.string e.name, .int .i64 e.arity, .slice p1 e.clauses.length c1]) (by simp [results, Tryz.results59, go_sem, q0, q1, q2]) rfl
    ⟨_, fp, rfl, ⟨_, rfl, _, rfl, s0, s1, T0.out.keep kf (fun cs x f _ hs h => OCls.keep h (kf.sub hs))⟩, HND.out, fun a ha => ⟨by have := (HRG.out a ha).1; omega, Nat.lt_of_lt_of_le (HRG.out a ha).2 sf.1⟩, bf⟩

set_option maxHeartbeats 4000000 in
theorem toModule_ofO {d : Nat} (h0 : ToO 34 (fun w v es => Rows w All 2 (HRf) v es) (fun w v es fp => ORows w 44 2 (ORf w d) v es fp) (wtS (wtRf))) (h1 : ToO 35 (fun w v es => Rows w All 3 (HFn w All d) v es) (fun w v es fp => ORows w 52 3 (OFn w d) v es fp) (wtS (wtFn d))) :
    ToO 20 (fun w v e => ∃ cs, v = .agg cs.toArray ∧ HMd w All d cs e) (fun w v e fp => ∃ cs, v = .agg cs.toArray ∧ OMd w d cs e fp) (wtMd d) := by
  intro w v e i1 hwt
  obtain ⟨cs, rfl, v0, v1, rfl, s0, f0, f1⟩ := i1
  have hw0 : wtS (wtRf) e.exports ≤ 1048576 := by unfold wtMd at hwt; omega
  have E0 : ∀ w', SameOn All w w' → Rows w' All 2 (HRf) v0 e.exports := fun w' hw => f0.mono hw (fun _ h => h) (fun _ _ _ h => h)
  have hw1 : wtS (wtFn d) e.funs ≤ 1048576 := by unfold wtMd at hwt; omega
  have E1 : ∀ w', SameOn All w w' → Rows w' All 3 (HFn w' All d) v1 e.funs := fun w' hw => f1.mono hw (fun _ h => h) (fun _ _ _ h => h.mono hw (fun _ h => h))
  obtain ⟨p0, c0, rfl, _⟩ := id f0
  obtain ⟨p1, c1, rfl, _⟩ := id f1
  clear f0 f1
  go_enter Tryz.func20, Tryz.ntmps20
  go_wp2_with fail
  have hal : Below w.heap.size w (((w.alloc (.cells #[.string e.name, .slice p0 e.exports.length c0, .slice p1 e.funs.length c1] 38)).alloc (.cells #[.string ⟨#[]⟩, .slice none 0 0, .slice none 0 0] 42)).alloc (.cells #[.string e.name, .slice none 0 0, .slice none 0 0] 42)) := (((Below.refl _ _).alloc (Nat.le_refl _) _).alloc (by simp only [alloc_hs]; omega) _).alloc (by simp only [alloc_hs]; omega) _
  refine (h0 _ _ e.exports (E0 _ (SameOn.of_below hal)) hw0).mono ?_
  rintro ex w1 ⟨u, fA, rfl, r0, ndA, rgA, hb⟩
  have bA := ((Blk.new (w := w) (cs := #[.string e.name, .slice p0 e.exports.length c0, .slice p1 e.funs.length c1]) (t := 38)).alloc (o := .cells #[.string ⟨#[]⟩, .slice none 0 0, .slice none 0 0] 42)).alloc (o := .cells #[.string e.name, .slice none 0 0, .slice none 0 0] 42)
  have bR := (Blk.new (w := (w.alloc (.cells #[.string e.name, .slice p0 e.exports.length c0, .slice p1 e.funs.length c1] 38))) (cs := #[.string ⟨#[]⟩, .slice none 0 0, .slice none 0 0]) (t := 42)).alloc (o := .cells #[.string e.name, .slice none 0 0, .slice none 0 0] 42)
  have bO := (Blk.new (w := ((w.alloc (.cells #[.string e.name, .slice p0 e.exports.length c0, .slice p1 e.funs.length c1] 38)).alloc (.cells #[.string ⟨#[]⟩, .slice none 0 0, .slice none 0 0] 42))) (cs := #[.string e.name, .slice none 0 0, .slice none 0 0]) (t := 42))
  simp only [alloc_hs] at bA bR bO rgA
  replace bA := bA.below hb (by simp only [alloc_hs]; omega)
  replace bR := bR.below hb (by simp only [alloc_hs]; omega)
  replace bO := bO.below hb (by simp only [alloc_hs]; omega)
  have B1 : Below w.heap.size w w1 := hal.trans (hb.mono hal.size)
  have z1 : w.heap.size + 3 ≤ w1.heap.size := by have := hb.size; simp only [alloc_hs] at this; omega
  have Z1 : Hid (w.heap.size + 3 ≤ w1.heap.size) := z1
  have T0 : Hid (ORows w1 44 2 (ORf w1 d) u e.exports fA) := r0
  have NA : Hid (fA.Nodup) := ndA
  have GA : Hid (∀ a ∈ fA, w.heap.size + 1 + 1 + 1 ≤ a ∧ a < w1.heap.size) := rgA
  clear hal hb z1 ndA rgA
  obtain ⟨p0', c0', hu, _⟩ := r0.shape
  subst hu
  clear r0
  have a2 := bA.cell 2 _ rfl
  have o1 := bO.cell 1 _ rfl
  have g1 := bO.frozen 1
  have HA : Hid (Blk w1 w.heap.size #[.string e.name, .slice p0 e.exports.length c0, .slice p1 e.funs.length c1] 38) := bA
  have HR : Hid (Blk w1 (w.heap.size + 1) #[.string ⟨#[]⟩, .slice none 0 0, .slice none 0 0] 42) := bR
  have HO : Hid (Blk w1 (w.heap.size + 1 + 1) #[.string e.name, .slice none 0 0, .slice none 0 0] 42) := bO
  have HB1 : Hid (Below w.heap.size w w1) := B1
  clear bA bR bO B1
  go_wp2_with fail
  have hp : Below w.heap.size w (w1.setCell ⟨w.heap.size + 1 + 1, 1, none⟩ (.slice p0' e.exports.length c0')) := HB1.out.setCell (by show _ ≤ w.heap.size + 1 + 1; omega) _
  refine (h1 _ _ e.funs (E1 _ (SameOn.of_below hp)) hw1).mono ?_
  rintro ex w2 ⟨u, fB, rfl, r1, ndB, rgB, hb⟩
  have bA := ((HA.out.other (p := ⟨w.heap.size + 1 + 1, 1, none⟩) (v := (.slice p0' e.exports.length c0')) (by show w.heap.size ≠ w.heap.size + 1 + 1; omega)).below hb (by have := Z1.out; simp only [setCell_hs]; omega))
  have bR := ((HR.out.other (p := ⟨w.heap.size + 1 + 1, 1, none⟩) (v := (.slice p0' e.exports.length c0')) (by show w.heap.size + 1 ≠ w.heap.size + 1 + 1; omega)).below hb (by have := Z1.out; simp only [setCell_hs]; omega))
  have bO := ((HO.out.same (j := 1) (v := (.slice p0' e.exports.length c0')) (cs' := #[.string e.name, .slice p0' e.exports.length c0', .slice none 0 0]) rfl).below hb (by have := Z1.out; simp only [setCell_hs]; omega))
  have B2 : Below w.heap.size w w2 := hp.trans (hb.mono hp.size)
  simp only [setCell_hs] at rgB
  have k01 : KeepOn fA w1 w2 := fun a ha => by
    have h := GA.out a ha
    exact (hb.block a (by simp only [setCell_hs]; exact h.2)).trans (Below.heap_setCell _ _ _ _ (by show a ≠ w.heap.size + 1 + 1; omega))
  have T0 : Hid (ORows w2 44 2 (ORf w2 d) (.slice p0' e.exports.length c0') e.exports fA) := by have h := T0.out; exact h.keep k01 (fun cs x f _ hs h => h)
  have T1 : Hid (ORows w2 52 3 (OFn w2 d) u e.funs fB) := r1
  have sz2 : w1.heap.size ≤ w2.heap.size := by have := hb.size; simp only [setCell_hs] at this; exact this
  have HND : Hid ((fA ++ fB).Nodup) := by
    show List.Nodup _
    rw [List.nodup_append]
    exact ⟨NA.out, ndB, fun a ha b hb => by have := GA.out a ha; have := rgB b hb; omega⟩
  have HRG : Hid (∀ a ∈ fA ++ fB, w.heap.size + 1 + 1 + 1 ≤ a ∧ a < w2.heap.size) := fun a ha => by
    rcases List.mem_append.1 ha with ha | ha
    · have := GA.out a ha; omega
    · have := rgB a ha; have := Z1.out; omega
  have HB2 : Hid (Below w.heap.size w w2) := B2
  obtain ⟨p1', c1', hu, _⟩ := r1.shape
  subst hu
  clear hp hb r1 HA HR HO HB1 k01 ndB rgB NA GA sz2 B2
  have o0 := bO.cell 0 _ rfl
  have q0 := bR.cell 0 _ rfl
  have k0 := bR.frozen 0
  have o1 := bO.cell 1 _ rfl
  have q1 := bR.cell 1 _ rfl
  have k1 := bR.frozen 1
  have o2 := bO.cell 2 _ rfl
  have q2 := bR.cell 2 _ rfl
  have k2 := bR.frozen 2
  have g2 := bO.frozen 2
  clear bA bR bO
  go_wp2_with fail
  have sf : SameOn (fun g => w.heap.size + 1 + 1 + 1 ≤ g) w2 ((((w2.setCell ⟨w.heap.size + 1 + 1, 2, none⟩ (.slice p1' e.funs.length c1')).setCell ⟨w.heap.size + 1, 0, none⟩ (.string e.name)).setCell ⟨w.heap.size + 1, 1, none⟩ (.slice p0' e.exports.length c0')).setCell ⟨w.heap.size + 1, 2, none⟩ (.slice p1' e.funs.length c1')) := SameOn.setCell (SameOn.setCell (SameOn.setCell (SameOn.setCell (SameOn.of_below (Below.refl _ _)) (by show ¬ (_ ≤ w.heap.size + 1 + 1); omega) _) (by show ¬ (_ ≤ w.heap.size + 1); omega) _) (by show ¬ (_ ≤ w.heap.size + 1); omega) _) (by show ¬ (_ ≤ w.heap.size + 1); omega) _
  have bf : Below w.heap.size w ((((w2.setCell ⟨w.heap.size + 1 + 1, 2, none⟩ (.slice p1' e.funs.length c1')).setCell ⟨w.heap.size + 1, 0, none⟩ (.string e.name)).setCell ⟨w.heap.size + 1, 1, none⟩ (.slice p0' e.exports.length c0')).setCell ⟨w.heap.size + 1, 2, none⟩ (.slice p1' e.funs.length c1')) := Below.setCell (Below.setCell (Below.setCell (Below.setCell (HB2.out) (by show _ ≤ w.heap.size + 1 + 1; omega) _) (by show _ ≤ w.heap.size + 1; omega) _) (by show _ ≤ w.heap.size + 1; omega) _) (by show _ ≤ w.heap.size + 1; omega) _
  have kf : KeepOn (fA ++ fB) w2 ((((w2.setCell ⟨w.heap.size + 1 + 1, 2, none⟩ (.slice p1' e.funs.length c1')).setCell ⟨w.heap.size + 1, 0, none⟩ (.string e.name)).setCell ⟨w.heap.size + 1, 1, none⟩ (.slice p0' e.exports.length c0')).setCell ⟨w.heap.size + 1, 2, none⟩ (.slice p1' e.funs.length c1')) := fun a ha => sf.2 a (HRG.out a ha).1 (HRG.out a ha).2
  have kA := kf.sub (fp' := fA) (fun a ha => by simp [ha])
  have kB := kf.sub (fp' := fB) (fun a ha => by simp [ha])
  have U0 := T0.out.keep kA (fun cs x f _ hs h => h)
  have U1 := T1.out.keep kB (fun cs x f _ hs h => h.keep (kB.sub hs))
  exact bodyPost_ret (v := .agg #[.string e.name, .slice p0' e.exports.length c0', .slice p1' e.funs.length c1']) (by simp [results, Tryz.results20, go_sem, q0, q1, q2]) rfl
    ⟨_, fA ++ fB, rfl, ⟨_, rfl, _, _, fA, fB, rfl, rfl, s0, U0, U1⟩, HND.out, fun a ha => ⟨by have := (HRG.out a ha).1; omega, Nat.lt_of_lt_of_le (HRG.out a ha).2 sf.1⟩, bf⟩

theorem toModule_own (d : Nat) : ToO 20 (fun w v e => ∃ cs, v = .agg cs.toArray ∧ HMd w All d cs e) (fun w v e fp => ∃ cs, v = .agg cs.toArray ∧ OMd w d cs e fp) (wtMd d) :=
  toModule_ofO (toRefS_ofO (toRef_ofO (d := d))) (toFunS_ofO (toFun_ofO (toClauseS_own d)))
end Go.Proofs.YtigfmdfgioccjaaGreatDoor
/-
  The laws' toModuleS: a row of modules, copied into memory that it owns.
-/
namespace Go.Proofs.YtigfmdfgioccjaaGreatDoor
open Go.ChangeShapes Go.WideShapes Go.ChangeAt Go.RowKit
set_option linter.unusedVariables false

set_option maxHeartbeats 4000000 in
theorem toModuleS_ofO {d : Nat} (hE : ToO 20 (fun w v e => ∃ cs, v = .agg cs.toArray ∧ HMd w All d cs e) (fun w v e fp => ∃ cs, v = .agg cs.toArray ∧ OMd w d cs e fp) (wtMd d)) :
    ToO 7 (fun w v es => Rows w All 3 (HMd w All d) v es) (fun w v es fp => ORows w 42 3 (OMd w d) v es fp) (wtS (wtMd d)) := by
  intro w v es h hwt
  obtain ⟨p, cap, rfl, hcl, hcm, hx⟩ := h
  generalize hn : es.length = n at *
  have HN : Hid (es.length = n) := hn
  have HX : Hid _ := hx
  have hnb : n ≤ 1048576 := by unfold wtS at hwt; omega
  have HWT : Hid (wtS (wtMd d) es ≤ 1048576) := hwt
  clear hx hn hwt
  obtain ⟨M, hM, hmk⟩ := make_row (t := 26) (e := 42) (c := 3) Tryz.underlying26 (by kernel_rfl) w n hnb
  have HO : Hid (Made w (w.alloc (.cells M 42)) w.heap.size n 42 3 (fun w => OMd w d) es 0 M.toList []) := Made.start hM (by unfold maxLen; omega)
  generalize hG : w.heap.size = G at *
  have HG : Hid (w.heap.size = G) := hG
  go_enter Tryz.func7, Tryz.ntmps7
  go_wp2
  go_loopw [4] (fun iv wr => ∃ (k : Nat) (xs : List Value) (fps : List (List Nat)), k ≤ n ∧ iv = .int .i64 k ∧ Hid (Made w wr G n 42 3 (fun w => OMd w d) es k xs fps)) (fun iv _ => n - (intOf iv).toNat)
  case atStart => exact ⟨0, M.toList, [], Nat.zero_le _, rfl, HO⟩
  case round =>
    obtain ⟨k, xs, fps, hk, rfl, HM⟩ := hrel
    by_cases hlt : k < n
    · obtain ⟨x, hxk⟩ : ∃ x, es[k]? = some x := ⟨es[k]'(by rw [HN.out]; exact hlt), List.getElem?_eq_getElem _⟩
      obtain ⟨g, off, rfl, hg, hgl, hat⟩ := HX.out (by intro h; rw [h] at hxk; simp at hxk)
      obtain ⟨cs, hcl6, hcs, hex⟩ := hat k x hxk
      have hbw : Below w.heap.size w wr := by rw [HG.out]; exact HM.out.below
      have hex' : ∀ w', SameOn All wr w' → HMd w' All d cs x := fun w' hw => hex.mono (SameOn.trans (SameOn.of_below hbw) hw) (fun _ h => h)
      obtain ⟨z0, z1, z2, rfl⟩ := len3 hcl6
      have a0 := hcs 0 (by omega)
      have a1 := hcs 1 (by omega)
      have a2 := hcs 2 (by omega)
      rw [← hbw.cell (p := ⟨g, _, none⟩) (by show g < w.heap.size; rw [HG.out]; exact hgl)] at a0 a1 a2
      simp at a0 a1 a2
      have hwx : wtMd d x ≤ 1048576 := by
        have h1 := HWT.out
        have h2 := sum_take_succ (wtMd d) es k x hxk
        have h3 := sum_take_le (wtMd d) es (k + 1)
        unfold wtS at h1
        omega
      clear hbw hcs hat hex hcl6
      go_wp2_with (go_at_call 20; go_must (refine (hE _ _ x ⟨_, rfl, hex' _ (by exact ⟨Nat.le_refl _, fun _ _ _ => rfl⟩)⟩ hwx).mono ?_; rintro e w1 ⟨u, fp, rfl, ⟨cs', rfl, hx1⟩, hnd, hrg, hb1⟩; obtain ⟨st, p1, n1, q1, p2, n2, q2, hsh⟩ := hx1.shape; subst hsh; have HB1 : Hid (Below wr.heap.size wr w1) := hb1; have HX1 : Hid (OMd w1 d [.string st, .slice p1 n1 q1, .slice p2 n2 q2] x fp) := hx1; have HND : Hid fp.Nodup := hnd; have HRG : Hid (∀ a ∈ fp, wr.heap.size ≤ a ∧ a < w1.heap.size) := hrg; have o1 := HM.out.own.kept (grownBy_belowR (r := none) hb1) (Or.inr (by simp [Value.ownBlock])); have HO1 : Hid (w1.ownsRow G 42 3 (.slice (some ⟨G, 0, none⟩) n n) n xs) := o1; have f0 := o1.frozenAt (k * 3); obtain ⟨y0, g0⟩ := own_someR o1 (k * 3) (by omega); have f1 := o1.frozenAt (k * 3 + 1); obtain ⟨y1, g1⟩ := own_someR o1 (k * 3 + 1) (by omega); have f2 := o1.frozenAt (k * 3 + 2); obtain ⟨y2, g2⟩ := own_someR o1 (k * 3 + 2) (by omega); clear o1 hb1 hx1 hnd hrg))
      have sd := stored3 HO1.out (k * 3) (.string st) (.slice p1 n1 q1) (.slice p2 n2 q2)
      have hlen : xs.length = n * 3 := HO1.out.1
      exact ⟨⟨k + 1, _, _, by omega, by go_num, Made.step (O := fun w => OMd w d) (c := 3) (fun w w' cs x f h hk => h.keep hk) HM.out hxk HB1.out HX1.out HND.out HRG.out rfl sd.1 sd.2 (fun m hm => set3_other hm) (fun j hj => set3_self (by omega) j hj)⟩, by simp [intOf]; omega⟩
    · obtain rfl : k = n := by omega
      obtain ⟨fp, r1, r2, r3⟩ := HM.out.done HN.out (by unfold maxLen; omega)
      have R1 : Hid (ORows wr 42 3 (OMd wr d) (.slice (some ⟨G, 0, none⟩) k k) es fp) := r1
      have R2 : Hid (fp.Nodup ∧ ∀ a ∈ fp, G ≤ a ∧ a < wr.heap.size) := ⟨r2, r3⟩
      clear r1 r2 r3
      go_wp2
      go_ret
      exact ⟨_, fp, rfl, R1.out, R2.out.1, R2.out.2, HM.out.below⟩

theorem toModuleS_own (d : Nat) : ToO 7 (fun w v es => Rows w All 3 (HMd w All d) v es) (fun w v es fp => ORows w 42 3 (OMd w d) v es fp) (wtS (wtMd d)) := toModuleS_ofO (toModule_own d)
/-- A row of modules that owns its memory is a row of modules. -/
theorem oms_tree {w : World} {d : Nat} {v : Value} {es : List Md} {fp : List Nat} (h : ORows w 42 3 (OMd w d) v es fp) : Rows w All 3 (HMd w All d) v es :=
  h.rows (fun _ _ => trivial) (fun cs x f _ hs h => h.tree (fun _ _ => trivial))
theorem oms_keep {w w' : World} {d : Nat} {v : Value} {es : List Md} {fp : List Nat} (h : ORows w 42 3 (OMd w d) v es fp) (hk : KeepOn fp w w') : ORows w' 42 3 (OMd w' d) v es fp :=
  h.keep hk (fun cs x f _ hs h => h.keep (hk.sub hs))
theorem oms_lt {w : World} {d : Nat} {v : Value} {es : List Md} {fp : List Nat} (h : ORows w 42 3 (OMd w d) v es fp) : ∀ a ∈ fp, a < w.heap.size :=
  h.lt (fun cs x f h => h.lt)
end Go.Proofs.YtigfmdfgioccjaaGreatDoor
/-
  What the laws' own markText answers: m and the decimal text of a number from 1 on. Condition: the number is one of 1 .. 2^40.
-/
namespace Go.Proofs.YtigfmdfgioccjaaGreatDoor
open Go.ChangeShapes Go.WideShapes Go.ChangeAt Go.RowKit
set_option linter.unusedVariables false

theorem ret_strM {a b : List UInt8} (h : a = b) : Ending.returned (.string ⟨a.toArray⟩) = .returned (.string ⟨b.toArray⟩) := by rw [h]

theorem mk_length_le : ∀ (k u : Nat), u < 10 ^ (k + 1) → (Lib.decDigits u).length ≤ k + 1
  | 0, u, h => by
    rw [Lib.decDigits, dif_pos (by simpa using h)]; simp
  | k + 1, u, h => by
    by_cases hu : u < 10
    · rw [Lib.decDigits, dif_pos hu]; simp
    · rw [Lib.decDigits, dif_neg hu, List.length_append]
      have := mk_length_le k (u / 10) (by rw [Nat.div_lt_iff_lt_mul (by omega)]; rw [Nat.pow_succ] at h; exact h)
      simp only [List.length_cons, List.length_nil]; omega
theorem mk_step (x : Nat) (l D : List UInt8) (h : Lib.decDigits x ++ l = D) :
    (x / 10 ≠ 0 → Lib.decDigits (x / 10) ++ ((48 + UInt8.ofNat (x % 10)) :: l) = D) ∧ (x / 10 = 0 → (48 + UInt8.ofNat (x % 10)) :: l = D) := by
  have e : ∀ m : Nat, (48 + UInt8.ofNat m) = UInt8.ofNat (48 + m) := fun m => (UInt8.ofNat_add 48 m).symm
  rw [e]
  refine ⟨fun h0 => ?_, fun h0 => ?_⟩
  · rw [Lib.decDigits, dif_neg (by omega)] at h
    rw [← h]; simp
  · rw [Lib.decDigits, dif_pos (by omega)] at h
    rw [← h, Nat.mod_eq_of_lt (by omega)]; rfl
theorem mk_cons (c : UInt8) (l : List UInt8) : ((⟨#[c]⟩ : ByteArray) ++ ⟨l.toArray⟩) = ⟨(c :: l).toArray⟩ := by
  apply ByteArray.ext; simp
theorem mk_conv (wr : World) (x : Nat) :
    Sem.run Tryz.prog (convert 84 9 (.slice (some ⟨wr.heap.size, 0, none⟩) 1 1)) (wr.alloc (.cells #[.int .u8 (48 + (x : Int) % 10)] 5)) =
      .ok (.string ⟨#[UInt8.ofNat (48 + x % 10)]⟩) (wr.alloc (.cells #[.int .u8 (48 + (x : Int) % 10)] 5)) := by
  refine Go.run_convert_bytes_back (P := Tryz.prog) _ _ _ 5 ⟨wr.heap.size, 0, none⟩ 1 [UInt8.ofNat (48 + x % 10)] Tryz.underlying84 Tryz.underlying5 Tryz.underlying9 ?_
  intro j hj
  simp only [List.length_cons, List.length_nil] at hj
  obtain rfl : j = 0 := by omega
  have e : (UInt8.ofNat (48 + x % 10)).toNat = 48 + x % 10 := by
    rw [UInt8.toNat_ofNat']; omega
  simp only [List.getElem_cons_zero, e]
  simp [Addr.add]

set_option maxHeartbeats 1000000 in
theorem markText_any (n : Nat) (w : World) (h0 : 1 ≤ n) (h1 : n ≤ 1099511627776) :
    Calls Tryz.prog 25 #[.int .i64 n] w fun e w' => e = .returned (.string ⟨(109 :: Lib.decDigits n).toArray⟩) ∧ Below w.heap.size w w' := by
  have hD : (Lib.decDigits n).length ≤ 13 := mk_length_le 12 n (by omega)
  have hz : ¬ n = 0 := by omega
  go_enter Tryz.func25, Tryz.ntmps25
  go_wp2
  go_loopw [0, 3] (fun m o wr => ∃ (x : Nat) (l : List UInt8), m = .int .i64 x ∧ o = .string ⟨l.toArray⟩ ∧ x ≤ n ∧ (x ≠ 0 → Lib.decDigits x ++ l = Lib.decDigits n) ∧ (x = 0 → l = Lib.decDigits n) ∧ Below w.heap.size w wr) (fun m _ _ => (intOf m).toNat)
  case atStart => exact ⟨n, [], rfl, rfl, Nat.le_refl _, fun _ => by simp, fun h => by omega, Below.refl _ _⟩
  case round =>
    obtain ⟨x, l, rfl, rfl, hx, hr1, hr2, hb⟩ := hrel
    have H1 : Hid (x ≠ 0 → Lib.decDigits x ++ l = Lib.decDigits n) := hr1
    have H2 : Hid (x = 0 → l = Lib.decDigits n) := hr2
    have HB : Hid (Below w.heap.size w wr) := hb
    clear hr1 hr2 hb
    by_cases hxz : 0 < x
    · have hcat := H1.out (by omega)
      have hll : l.length ≤ 20 := by have := congrArg List.length hcat; rw [List.length_append] at this; omega
      have HS : Hid _ := mk_step x l _ hcat
      have hcv := mk_conv wr x
      clear hcat H1 H2 hD
      go_wp2
      refine ⟨⟨x / 10, _, by go_num, by rw [mk_cons], by omega, HS.out.1, HS.out.2, HB.out.alloc HB.out.size _⟩, ?_⟩
      simp only [intOf]; omega
    · have hl : l = Lib.decDigits n := H2.out (by omega)
      have hll : l.length ≤ 20 := by rw [hl]; omega
      have HL : Hid (l = Lib.decDigits n) := hl
      clear hl hD
      go_wp2
      go_ret
      exact ⟨by rw [mk_cons]; exact ret_strM (by rw [HL.out]), HB.out⟩
end Go.Proofs.YtigfmdfgioccjaaGreatDoor
/-
  The laws' markExp and markClause: numbers and texts are written into a tree that owns its memory, and nothing else turns.
-/
namespace Go.Proofs.YtigfmdfgioccjaaGreatDoor
open Go.ChangeShapes Go.WideShapes Go.ChangeAt Go.RowKit
set_option linter.unusedVariables false

def mtext (n : Nat) : ByteArray := ⟨(109 :: Lib.decDigits n).toArray⟩
theorem mtext_ok {n : Nat} (h : n ≤ 1099511627776) : okS (mtext n) := by
  have hD : (Lib.decDigits n).length ≤ 13 := mk_length_le 12 n (by omega)
  unfold okS mtext maxLen
  show (109 :: Lib.decDigits n).toArray.size ≤ _
  simp; omega
theorem nat_ok {n : Nat} (h : n ≤ 1099511627776) : okI n := by
  show (Lit.int .i64 (n : Int)).wf = true
  have h1 : (n : Int) ≤ 1099511627776 := by omega
  have h0 : (0 : Int) ≤ n := by omega
  generalize (n : Int) = z at h1 h0
  simp only [Lit.wf, Bool.and_eq_true, decide_eq_true_eq]
  exact ⟨Int.le_trans (by decide) h0, Int.le_trans h1 (by decide)⟩
theorem markText_at {w : World} (n : Nat) (z : Int) (hz : z = n) (h0 : 1 ≤ n) (h1 : n ≤ 1099511627776) :
    Calls Tryz.prog 25 #[.int .i64 z] w fun e w' => e = .returned (.string (mtext n)) ∧ Below w.heap.size w w' := by
  subst hz; exact markText_any n w h0 h1

def cntC (f : Ex → Nat) (c : Cl) : Nat := (c.1.map f).sum + (c.2.map f).sum
def cntE : Nat → Ex → Nat
  | 0, _ => 0
  | d + 1, e => 4 + (e.kids.map (cntE d)).sum + (e.clauses.map (cntC (cntE d))).sum
def markC (m : Nat → Ex → Ex) (f : Ex → Nat) (k : Nat) (c : Cl) : Cl := (markL m f k c.1, markL m f (k + (c.1.map f).sum) c.2)
def markE : Nat → Nat → Ex → Ex
  | 0, _, e => e
  | d + 1, k, e => .mk k (k + 1) (mtext (k + 2)) (mtext (k + 3)) (markL (markE d) (cntE d) (k + 4) e.kids) (markL (markC (markE d) (cntE d)) (cntC (cntE d)) (k + 4 + (e.kids.map (cntE d)).sum) e.clauses)

/-- What markExpS answers and leaves. -/
def MarkES (d : Nat) : Prop :=
  ∀ (w : World) (v : Value) (es : List Ex) (fp : List Nat) (k : Nat), ORows w 73 6 (OEx w d) v es fp → fp.Nodup → 1 ≤ k → k + (es.map (cntE d)).sum ≤ 1099511627776 →
    Calls Tryz.prog 73 #[v, .int .i64 k] w fun e w' => e = .returned (.int .i64 ((k + (es.map (cntE d)).sum : Nat) : Int)) ∧ ORows w' 73 6 (OEx w' d) v (markL (markE d) (cntE d) k es) fp ∧ Off fp w w'
def MarkCS (d : Nat) : Prop :=
  ∀ (w : World) (v : Value) (es : List Cl) (fp : List Nat) (k : Nat), ORows w 69 2 (OCls w d) v es fp → fp.Nodup → 1 ≤ k → k + (es.map (cntC (cntE d))).sum ≤ 1099511627776 →
    Calls Tryz.prog 45 #[v, .int .i64 k] w fun e w' => e = .returned (.int .i64 ((k + (es.map (cntC (cntE d))).sum : Nat) : Int)) ∧ ORows w' 69 2 (OCls w' d) v (markL (markC (markE d) (cntE d)) (cntC (cntE d)) k es) fp ∧ Off fp w w'
theorem MarkES.at {d : Nat} (h : MarkES d) {w : World} {v : Value} (es : List Ex) (fp : List Nat) (k : Nat) (z : Int) (hz : z = k) (ho : ORows w 73 6 (OEx w d) v es fp) (hn : fp.Nodup) (h1 : 1 ≤ k) (hb : k + (es.map (cntE d)).sum ≤ 1099511627776) :
    Calls Tryz.prog 73 #[v, .int .i64 z] w fun e w' => e = .returned (.int .i64 ((k + (es.map (cntE d)).sum : Nat) : Int)) ∧ ORows w' 73 6 (OEx w' d) v (markL (markE d) (cntE d) k es) fp ∧ Off fp w w' := by
  subst hz; exact h w v es fp k ho hn h1 hb
theorem MarkCS.at {d : Nat} (h : MarkCS d) {w : World} {v : Value} (es : List Cl) (fp : List Nat) (k : Nat) (z : Int) (hz : z = k) (ho : ORows w 69 2 (OCls w d) v es fp) (hn : fp.Nodup) (h1 : 1 ≤ k) (hb : k + (es.map (cntC (cntE d))).sum ≤ 1099511627776) :
    Calls Tryz.prog 45 #[v, .int .i64 z] w fun e w' => e = .returned (.int .i64 ((k + (es.map (cntC (cntE d))).sum : Nat) : Int)) ∧ ORows w' 69 2 (OCls w' d) v (markL (markC (markE d) (cntE d)) (cntC (cntE d)) k es) fp ∧ Off fp w w' := by
  subst hz; exact h w v es fp k ho hn h1 hb

set_option maxHeartbeats 16000000 in
theorem MarkCS_of {d : Nat} (ihE : MarkES d) : MarkCS d := by
  intro w v es fp k h hnd hk1 hkb
  obtain ⟨p, cap, rfl, hcl, hcm⟩ := h.shape
  have hnb : es.length ≤ 9223372036854775807 := by unfold maxLen at hcm; omega
  have HL : Hid ((markL (markC (markE d) (cntE d)) (cntC (cntE d)) k es).length = es.length) := markL_length _ _ _ _
  have HO : Hid (ORows w 69 2 (OCls w d) (.slice p es.length cap) es fp) := h
  have HND : Hid fp.Nodup := hnd
  have HKB : Hid (k + (es.map (cntC (cntE d))).sum ≤ 1099511627776) := hkb
  generalize hn : es.length = n at *
  have HN : Hid (es.length = n) := hn
  clear h hnd hn hkb
  go_enter Tryz.func45, Tryz.ntmps45
  go_wp2
  go_loopw [1, 5] (fun kv iv wr => ∃ i kk : Nat, i ≤ n ∧ iv = .int .i64 i ∧ kv = .int .i64 kk ∧ Hid (kk = k + ((es.take i).map (cntC (cntE d))).sum) ∧ Hid (ORows wr 69 2 (OCls wr d) (.slice p n cap) (mix i (markL (markC (markE d) (cntE d)) (cntC (cntE d)) k es) es) fp) ∧ Hid (Off fp w wr)) (fun _ iv _ => n - (intOf iv).toNat)
  case atStart => exact ⟨0, k, Nat.zero_le _, rfl, rfl, (by show k = _; simp), (by show ORows _ _ _ _ _ _ _; rw [mix_zero]; exact HO.out), Off.refl _ _⟩
  case round =>
    obtain ⟨i, kk, hi, rfl, rfl, HK, HR, HF⟩ := hrel
    by_cases hlt : i < n
    · obtain ⟨x, hxi⟩ : ∃ x, es[i]? = some x := ⟨es[i]'(by rw [HN.out]; exact hlt), List.getElem?_eq_getElem _⟩
      have hml : (mix i (markL (markC (markE d) (cntE d)) (cntC (cntE d)) k es) es).length = n := by rw [mix_length (by rw [HL.out, HN.out]), HN.out]
      have hmx : (mix i (markL (markC (markE d) (cntE d)) (cntC (cntE d)) k es) es)[i]? = some x := by rw [mix_at (by rw [HL.out, HN.out]) (by rw [HN.out]; exact hlt)]; exact hxi
      have HMX : Hid ((mix i (markL (markC (markE d) (cntE d)) (cntC (cntE d)) k es) es).length = n) := hml
      rcases HR.out with hnil | ⟨hne, cells, g, cap', fps, ho, hv, hl, hfp, hat⟩
      · rw [hnil.1] at hml; simp at hml; omega
      rw [hml] at ho hv hl
      obtain ⟨f, hf⟩ : ∃ f, fps[i]? = some f := ⟨fps[i]'(by rw [hl]; exact hlt), List.getElem?_eq_getElem _⟩
      obtain ⟨cs, hcs4, hcs, hx⟩ := hat i x f hmx hf
      cases hv
      have hlc : cells.length = n * 2 := ho.1
      have hnp := nodup_parts (hfp ▸ HND.out)
      have hsum : ((es.take (i + 1)).map (cntC (cntE d))).sum = ((es.take i).map (cntC (cntE d))).sum + cntC (cntE d) x := sum_take_succ _ es i x hxi
      have hle : ((es.take (i + 1)).map (cntC (cntE d))).sum ≤ (es.map (cntC (cntE d))).sum := sum_take_le _ es (i + 1)
      have hkk := HK.out
      have hkb := HKB.out
      have hg0 : g ∈ fp := by rw [hfp]; simp
      have hfs : ∀ a ∈ f, a ∈ fp := fun a ha => by rw [hfp]; exact List.mem_cons_of_mem _ (List.mem_flatten.2 ⟨f, List.mem_of_getElem? hf, ha⟩)
      have hgf : g ∉ f := (hnp.1 f (List.mem_of_getElem? hf)).1
      have hfn : f.Nodup := (hnp.1 f (List.mem_of_getElem? hf)).2
      have HMI : Hid ((markL (markC (markE d) (cntE d)) (cntC (cntE d)) k es)[i]? = some ((markC (markE d) (cntE d)) kk x)) := by
        show _ = _
        rw [markL_at _ _ _ _ _ _ hxi, ← HK.out]
      have HAT : Hid (∀ (j : Nat) y f', (mix i (markL (markC (markE d) (cntE d)) (cntC (cntE d)) k es) es)[j]? = some y → fps[j]? = some f' → ∃ cs : List Value, cs.length = 2 ∧ (∀ q, q < 2 → cells[j * 2 + q]? = cs[q]?) ∧ OCls wr d cs y f') := hat
      have HNP : Hid (∀ (i j : Nat) f f', i ≠ j → fps[i]? = some f → fps[j]? = some f' → ∀ a ∈ f, a ∉ f') := hnp.2
      have HNG : Hid (∀ f ∈ fps, g ∉ f ∧ f.Nodup) := hnp.1
      have HFP : Hid (fp = g :: fps.flatten) := hfp
      have HNE : Hid (mix i (markL (markC (markE d) (cntE d)) (cntC (cntE d)) k es) es ≠ []) := hne
      have HFS : Hid ((∀ a ∈ f, a ∈ fp) ∧ g ∈ fp ∧ g ∉ f ∧ f.Nodup) := ⟨hfs, hg0, hgf, hfn⟩
      have hki : (i : Int) < (n : Int) := by omega
      have hi0 : (0 : Int) ≤ (i : Int) := by omega
      clear hat hnp hfp hne hfs hg0 hgf hfn hml hmx HKB HO
      obtain ⟨pv, bv, f1, f2, rfl, rfl, hp, hbd⟩ := hx
      obtain ⟨pp, cp, hpv, _⟩ := hp.shape
      subst hpv
      obtain ⟨pb, cb, hbv, _⟩ := hbd.shape
      subst hbv
      have a0 := (ho.cellAt (i * 2) (by omega)).trans (hcs 0 (by omega))
      have a1 := (ho.cellAt (i * 2 + 1) (by omega)).trans (hcs 1 (by omega))
      simp at a0 a1
      have hcx : cntC (cntE d) x = (x.1.map (cntE d)).sum + (x.2.map (cntE d)).sum := rfl
      have hn12 := List.nodup_append.1 HFS.out.2.2.2
      have HP : Hid (ORows wr 73 6 (OEx wr d) (.slice pp x.1.length cp) x.1 f1) := hp
      have HBD : Hid (ORows wr 73 6 (OEx wr d) (.slice pb x.2.length cb) x.2 f2) := hbd
      have HOW : Hid (wr.ownsRow 0 69 2 (.slice (some ⟨g, 0, none⟩) n cap) n cells) := ho
      have HCS : Hid (∀ (j : Nat), j < 2 → cells[i * 2 + j]? = [Value.slice pp x.1.length cp, .slice pb x.2.length cb][j]?) := hcs
      have HN12 : Hid (∀ a ∈ f1, ∀ b ∈ f2, a ≠ b) := hn12.2.2
      have HSUM : Hid (k + ((es.take (i + 1)).map (cntC (cntE d))).sum = kk + (x.1.map (cntE d)).sum + (x.2.map (cntE d)).sum) := by show _ = _; omega
      have hk1' : kk + (x.1.map (cntE d)).sum ≤ 1099511627776 := by omega
      have hk2' : kk + (x.1.map (cntE d)).sum + (x.2.map (cntE d)).sum ≤ 1099511627776 := by omega
      have hgl : g < wr.heap.size := owns_lt ho rfl
      have HK2 : Hid (kk + (x.1.map (cntE d)).sum + (x.2.map (cntE d)).sum ≤ 1099511627776) := hk2'
      have HK1 : Hid (kk + (x.1.map (cntE d)).sum ≤ 1099511627776) := hk1'
      have hk11 : 1 ≤ kk := by omega
      clear hp hbd ho hcs hcs4 hsum hle hkk hkb hcx hk1' hk2'
      go_wp2_with fail
      refine (ihE.at x.1 f1 kk _ rfl HP.out hn12.1 hk11 HK1.out).mono ?_
      rintro e w1 ⟨rfl, r1, off1⟩
      have a1' : w1.cell? ⟨g, i * 2 + 1, none⟩ = some (.slice pb x.2.length cb) := (World.cell?_of_block (off1.block g hgl (fun hm => HFS.out.2.2.1 (by simp [hm])))).trans a1
      have k2 : KeepOn f2 wr w1 := off1.keep (fun a ha => ⟨HBD.out.lt (fun _ _ _ h => h.lt) a ha, fun hm => HN12.out a hm a ha rfl⟩)
      have HBD1 : Hid (ORows w1 73 6 (OEx w1 d) (.slice pb x.2.length cb) x.2 f2) := HBD.out.keep k2 (fun cs x f _ hs h => h.keep (k2.sub hs))
      have R1 : Hid (ORows w1 73 6 (OEx w1 d) (.slice pp x.1.length cp) (markL (markE d) (cntE d) kk x.1) f1) := r1
      have OF1 : Hid (Off f1 wr w1) := off1
      clear r1 off1 k2 a0 a1
      generalize hk2g : kk + (x.1.map (cntE d)).sum = k2 at *
      have HK2G : Hid (kk + (x.1.map (cntE d)).sum = k2) := hk2g
      have hk21 : 1 ≤ k2 := by omega
      clear hk2g
      go_wp2_with fail
      refine (ihE.at x.2 f2 k2 _ rfl HBD1.out hn12.2.1 hk21 HK2.out).mono ?_
      rintro e w2 ⟨rfl, r2, off2⟩
      have hoff : Off (f1 ++ f2) wr w2 := (OF1.out.sub (fun a ha => by simp [ha])).trans (off2.sub (fun a ha => by simp [ha]))
      have hown : w2.ownsRow 0 69 2 (.slice (some ⟨g, 0, none⟩) n cap) n cells := owns_block HOW.out rfl (hoff.block g hgl HFS.out.2.2.1)
      have k1 : KeepOn f1 w1 w2 := off2.keep (fun a ha => ⟨R1.out.lt (fun _ _ _ h => h.lt) a ha, fun hm => HN12.out a ha a hm rfl⟩)
      have hset := ORows.set (R := OCls wr d) (R' := OCls w2 d) (x' := markC (markE d) (cntE d) kk x) (i := i) (f := f1 ++ f2) HNE.out (by rw [HMX.out]; exact hown) (by rw [HMX.out]) (by rw [HMX.out]; exact hl) HAT.out hf
        (fun m hm => rfl) [.slice pp x.1.length cp, .slice pb x.2.length cb] rfl (fun j hj => HCS.out j hj)
        ⟨_, _, f1, f2, rfl, rfl, R1.out.keep k1 (fun cs x f _ hs h => h.keep (k1.sub hs)), by rw [← HK2G.out] at r2; exact r2⟩
        (fun j y f' cs hj hf' h => OCls.keep h (fun a ha => by
          have h3 := HNP.out j i f' _ hj hf' hf a ha
          exact hoff.block a (OCl.lt' h (fun _ _ _ h => h.lt) a ha) h3))
      rw [mix_succ (by rw [HL.out, HN.out]) HMI.out, ← HFP.out] at hset
      have HSET : Hid (ORows w2 69 2 (OCls w2 d) (.slice (some ⟨g, 0, none⟩) n cap) (mix (i + 1) (markL (markC (markE d) (cntE d)) (cntC (cntE d)) k es) es) fp) := hset
      have HF2 : Hid (Off fp w w2) := HF.out.trans (hoff.sub HFS.out.1)
      clear hset hown r2 off2 hoff k1
      go_wp2_with fail
      exact ⟨⟨i + 1, k2 + (x.2.map (cntE d)).sum, by omega, by go_num, rfl, HSUM.out.symm, HSET, HF2⟩, by simp [intOf]; omega⟩
    · obtain rfl : i = n := by omega
      have HE : Hid (kk = k + (es.map (cntC (cntE d))).sum) := by
        have := HK.out
        rw [List.take_of_length_le (by rw [HN.out]; exact Nat.le_refl _)] at this
        exact this
      have HR2 : Hid (ORows wr 69 2 (OCls wr d) (.slice p i cap) (markL (markC (markE d) (cntE d)) (cntC (cntE d)) k es) fp) := by
        have := HR.out
        rw [mix_all (by rw [HL.out, HN.out]) (by rw [HN.out]; exact Nat.le_refl _)] at this
        exact this
      clear HR HO
      go_wp2_with fail
      go_ret
      exact ⟨by rw [HE.out]; rfl, HR2.out, HF.out⟩

set_option maxHeartbeats 16000000 in
theorem MarkES_of {d : Nat} (ihE : ∀ d', d = d' + 1 → MarkES d') (ihC : ∀ d', d = d' + 1 → MarkCS d') : MarkES d := by
  intro w v es fp k h hnd hk1 hkb
  obtain ⟨p, cap, rfl, hcl, hcm⟩ := h.shape
  have hnb : es.length ≤ 9223372036854775807 := by unfold maxLen at hcm; omega
  have HL : Hid ((markL (markE d) (cntE d) k es).length = es.length) := markL_length _ _ _ _
  have HO : Hid (ORows w 73 6 (OEx w d) (.slice p es.length cap) es fp) := h
  have HND : Hid fp.Nodup := hnd
  have HKB : Hid (k + (es.map (cntE d)).sum ≤ 1099511627776) := hkb
  generalize hn : es.length = n at *
  have HN : Hid (es.length = n) := hn
  clear h hnd hn hkb
  go_enter Tryz.func73, Tryz.ntmps73
  go_wp2
  go_loopw [1, 5] (fun kv iv wr => ∃ i kk : Nat, i ≤ n ∧ iv = .int .i64 i ∧ kv = .int .i64 kk ∧ Hid (kk = k + ((es.take i).map (cntE d)).sum) ∧ Hid (ORows wr 73 6 (OEx wr d) (.slice p n cap) (mix i (markL (markE d) (cntE d) k es) es) fp) ∧ Hid (Off fp w wr)) (fun _ iv _ => n - (intOf iv).toNat)
  case atStart => exact ⟨0, k, Nat.zero_le _, rfl, rfl, (by show k = _; simp), (by show ORows _ _ _ _ _ _ _; rw [mix_zero]; exact HO.out), Off.refl _ _⟩
  case round =>
    obtain ⟨i, kk, hi, rfl, rfl, HK, HR, HF⟩ := hrel
    by_cases hlt : i < n
    · obtain ⟨x, hxi⟩ : ∃ x, es[i]? = some x := ⟨es[i]'(by rw [HN.out]; exact hlt), List.getElem?_eq_getElem _⟩
      have hml : (mix i (markL (markE d) (cntE d) k es) es).length = n := by rw [mix_length (by rw [HL.out, HN.out]), HN.out]
      have hmx : (mix i (markL (markE d) (cntE d) k es) es)[i]? = some x := by rw [mix_at (by rw [HL.out, HN.out]) (by rw [HN.out]; exact hlt)]; exact hxi
      have HMX : Hid ((mix i (markL (markE d) (cntE d) k es) es).length = n) := hml
      rcases HR.out with hnil | ⟨hne, cells, g, cap', fps, ho, hv, hl, hfp, hat⟩
      · rw [hnil.1] at hml; simp at hml; omega
      rw [hml] at ho hv hl
      obtain ⟨f, hf⟩ : ∃ f, fps[i]? = some f := ⟨fps[i]'(by rw [hl]; exact hlt), List.getElem?_eq_getElem _⟩
      obtain ⟨cs, hcs4, hcs, hx⟩ := hat i x f hmx hf
      cases hv
      have hlc : cells.length = n * 6 := ho.1
      have hnp := nodup_parts (hfp ▸ HND.out)
      have hsum : ((es.take (i + 1)).map (cntE d)).sum = ((es.take i).map (cntE d)).sum + cntE d x := sum_take_succ _ es i x hxi
      have hle : ((es.take (i + 1)).map (cntE d)).sum ≤ (es.map (cntE d)).sum := sum_take_le _ es (i + 1)
      have hkk := HK.out
      have hkb := HKB.out
      have hg0 : g ∈ fp := by rw [hfp]; simp
      have hfs : ∀ a ∈ f, a ∈ fp := fun a ha => by rw [hfp]; exact List.mem_cons_of_mem _ (List.mem_flatten.2 ⟨f, List.mem_of_getElem? hf, ha⟩)
      have hgf : g ∉ f := (hnp.1 f (List.mem_of_getElem? hf)).1
      have hfn : f.Nodup := (hnp.1 f (List.mem_of_getElem? hf)).2
      have HMI : Hid ((markL (markE d) (cntE d) k es)[i]? = some ((markE d) kk x)) := by
        show _ = _
        rw [markL_at _ _ _ _ _ _ hxi, ← HK.out]
      have HAT : Hid (∀ (j : Nat) y f', (mix i (markL (markE d) (cntE d) k es) es)[j]? = some y → fps[j]? = some f' → ∃ cs : List Value, cs.length = 6 ∧ (∀ q, q < 6 → cells[j * 6 + q]? = cs[q]?) ∧ OEx wr d cs y f') := hat
      have HNP : Hid (∀ (i j : Nat) f f', i ≠ j → fps[i]? = some f → fps[j]? = some f' → ∀ a ∈ f, a ∉ f') := hnp.2
      have HNG : Hid (∀ f ∈ fps, g ∉ f ∧ f.Nodup) := hnp.1
      have HFP : Hid (fp = g :: fps.flatten) := hfp
      have HNE : Hid (mix i (markL (markE d) (cntE d) k es) es ≠ []) := hne
      have HFS : Hid ((∀ a ∈ f, a ∈ fp) ∧ g ∈ fp ∧ g ∉ f ∧ f.Nodup) := ⟨hfs, hg0, hgf, hfn⟩
      have hki : (i : Int) < (n : Int) := by omega
      have hi0 : (0 : Int) ≤ (i : Int) := by omega
      clear hat hnp hfp hne hfs hg0 hgf hfn hml hmx HKB HO
      cases d with
      | zero => exact hx.elim
      | succ d' =>
      obtain ⟨kv, cv, f1, f2, rfl, rfl, _, _, _, _, hkids, hcl'⟩ := hx
      obtain ⟨pk, ck, hkv, _⟩ := hkids.shape
      subst hkv
      obtain ⟨pc, cc, hcv, _⟩ := hcl'.shape
      subst hcv
      have a0 := (ho.cellAt (i * 6) (by omega)).trans (hcs 0 (by omega))
      have a1 := (ho.cellAt (i * 6 + 1) (by omega)).trans (hcs 1 (by omega))
      simp at a0 a1
      have z0 := ho.frozenAt (i * 6)
      have z1 := ho.frozenAt (i * 6 + 1)
      have s0 := ho.stored (i * 6) (.int .i64 kk)
      have s1 := s0.1.stored (i * 6 + 1) (.int .i64 ((kk : Int) + 1))
      have hcx : cntE (d' + 1) x = 4 + (x.kids.map (cntE d')).sum + (x.clauses.map (cntC (cntE d'))).sum := rfl
      have hn12 := List.nodup_append.1 HFS.out.2.2.2
      have HKD : Hid (ORows wr 73 6 (OEx wr d') (.slice pk x.kids.length ck) x.kids f1) := hkids
      have HCL : Hid (ORows wr 69 2 (OCls wr d') (.slice pc x.clauses.length cc) x.clauses f2) := hcl'
      have HS1 : Hid (((wr.setCell ⟨g, i * 6, none⟩ (.int .i64 kk)).setCell ⟨g, i * 6 + 1, none⟩ (.int .i64 ((kk : Int) + 1))).ownsRow 0 73 6 (.slice (some ⟨g, 0, none⟩) n cap) n ((cells.set (i * 6) (.int .i64 kk)).set (i * 6 + 1) (.int .i64 ((kk : Int) + 1)))) := s1.1
      have HG1 : Hid (wr.grownBy ((wr.setCell ⟨g, i * 6, none⟩ (.int .i64 kk)).setCell ⟨g, i * 6 + 1, none⟩ (.int .i64 ((kk : Int) + 1))) (some g)) := grownBy_transR s0.2 s1.2
      have HCS : Hid (∀ (j : Nat), j < 6 → cells[i * 6 + j]? = [Value.int .i64 x.kind, .int .i64 x.n, .string x.text, .string x.mod, .slice pk x.kids.length ck, .slice pc x.clauses.length cc][j]?) := hcs
      have HN12 : Hid (∀ a ∈ f1, ∀ b ∈ f2, a ≠ b) := hn12.2.2
      have HSUM : Hid (k + ((es.take (i + 1)).map (cntE (d' + 1))).sum = kk + 4 + (x.kids.map (cntE d')).sum + (x.clauses.map (cntC (cntE d'))).sum) := by show _ = _; omega
      have HK1 : Hid (kk + 4 + (x.kids.map (cntE d')).sum ≤ 1099511627776) := by show _ ≤ _; omega
      have HK2 : Hid (kk + 4 + (x.kids.map (cntE d')).sum + (x.clauses.map (cntC (cntE d'))).sum ≤ 1099511627776) := by show _ ≤ _; omega
      have hkk4 : kk + 4 ≤ 1099511627776 := by omega
      have hgl : g < wr.heap.size := owns_lt ho rfl
      have hk11 : 1 ≤ kk := by omega
      clear s0 s1 hkids hcl' ho hcs hcs4 hsum hle hkk hkb hcx
      go_wp2_with fail
      refine (markText_at (kk + 2) _ (by omega) (by omega) (by omega)).mono ?_
      rintro e w1 ⟨rfl, hb⟩
      have o2 := HS1.out.kept (grownBy_belowR (r := none) hb) (Or.inr (by simp [Value.ownBlock]))
      have e2 : w1.cell? ⟨g, i * 6 + 2, none⟩ = some (.string x.text) := by
        rw [o2.cellAt (i * 6 + 2) (by omega), List.getElem?_set_ne (by omega), List.getElem?_set_ne (by omega)]; exact HCS.out 2 (by omega)
      have z2 := o2.frozenAt (i * 6 + 2)
      have s3 := o2.stored (i * 6 + 2) (.string (mtext (kk + 2)))
      have HS3 : Hid ((w1.setCell ⟨g, i * 6 + 2, none⟩ (.string (mtext (kk + 2)))).ownsRow 0 73 6 (.slice (some ⟨g, 0, none⟩) n cap) n (((cells.set (i * 6) (.int .i64 kk)).set (i * 6 + 1) (.int .i64 ((kk : Int) + 1))).set (i * 6 + 2) (.string (mtext (kk + 2))))) := s3.1
      have HG3 : Hid (w1.grownBy (w1.setCell ⟨g, i * 6 + 2, none⟩ (.string (mtext (kk + 2)))) (some g)) := s3.2
      have HB1 : Hid (Below ((wr.setCell ⟨g, i * 6, none⟩ (.int .i64 kk)).setCell ⟨g, i * 6 + 1, none⟩ (.int .i64 ((kk : Int) + 1))).heap.size ((wr.setCell ⟨g, i * 6, none⟩ (.int .i64 kk)).setCell ⟨g, i * 6 + 1, none⟩ (.int .i64 ((kk : Int) + 1))) w1) := hb
      clear o2 s3 hb a0 a1 z0 z1
      go_wp2_with fail
      refine (markText_at (kk + 3) _ (by omega) (by omega) (by omega)).mono ?_
      rintro e w2 ⟨rfl, hb⟩
      have o3 := HS3.out.kept (grownBy_belowR (r := none) hb) (Or.inr (by simp [Value.ownBlock]))
      have e3 : w2.cell? ⟨g, i * 6 + 3, none⟩ = some (.string x.mod) := by
        rw [o3.cellAt (i * 6 + 3) (by omega), List.getElem?_set_ne (by omega), List.getElem?_set_ne (by omega), List.getElem?_set_ne (by omega)]; exact HCS.out 3 (by omega)
      have z3 := o3.frozenAt (i * 6 + 3)
      have s4 := o3.stored (i * 6 + 3) (.string (mtext (kk + 3)))
      have e4 : (w2.setCell ⟨g, i * 6 + 3, none⟩ (.string (mtext (kk + 3)))).cell? ⟨g, i * 6 + 4, none⟩ = some (.slice pk x.kids.length ck) := by
        rw [s4.1.cellAt (i * 6 + 4) (by omega), List.getElem?_set_ne (by omega), List.getElem?_set_ne (by omega), List.getElem?_set_ne (by omega), List.getElem?_set_ne (by omega)]; exact HCS.out 4 (by omega)
      have HS4 : Hid ((w2.setCell ⟨g, i * 6 + 3, none⟩ (.string (mtext (kk + 3)))).ownsRow 0 73 6 (.slice (some ⟨g, 0, none⟩) n cap) n ((((cells.set (i * 6) (.int .i64 kk)).set (i * 6 + 1) (.int .i64 ((kk : Int) + 1))).set (i * 6 + 2) (.string (mtext (kk + 2)))).set (i * 6 + 3) (.string (mtext (kk + 3))))) := s4.1
      have HG4 : Hid (w2.grownBy (w2.setCell ⟨g, i * 6 + 3, none⟩ (.string (mtext (kk + 3)))) (some g)) := s4.2
      have HB2 : Hid (Below (w1.setCell ⟨g, i * 6 + 2, none⟩ (.string (mtext (kk + 2)))).heap.size (w1.setCell ⟨g, i * 6 + 2, none⟩ (.string (mtext (kk + 2)))) w2) := hb
      clear o3 s4 hb e2 z2
      go_wp2_with fail
      have hoff : Off [g] wr (w2.setCell ⟨g, i * 6 + 3, none⟩ (.string (mtext (kk + 3)))) := (Off.of_grown HG1.out (by simp)).trans ((Off.of_below HB1.out).trans ((Off.of_grown HG3.out (by simp)).trans ((Off.of_below HB2.out).trans (Off.of_grown HG4.out (by simp)))))
      have hkeep : ∀ f', g ∉ f' → (∀ a ∈ f', a < wr.heap.size) → KeepOn f' wr (w2.setCell ⟨g, i * 6 + 3, none⟩ (.string (mtext (kk + 3)))) := fun f' h1 h2 => hoff.keep (fun a ha => ⟨h2 a ha, fun hm => h1 (by rw [List.mem_singleton] at hm; exact hm ▸ ha)⟩)
      have hk1 := hkeep f1 (fun h => HFS.out.2.2.1 (by simp [h])) (HKD.out.lt (fun _ _ _ h => h.lt))
      have hk2 := hkeep f2 (fun h => HFS.out.2.2.1 (by simp [h])) (HCL.out.lt (fun _ _ _ h => OCl.lt' h (fun _ _ _ h => h.lt)))
      refine ((ihE d' rfl).at x.kids f1 (kk + 4) _ (by omega) (HKD.out.keep hk1 (fun cs x f' _ hs h => h.keep (hk1.sub hs))) hn12.1 (by omega) HK1.out).mono ?_
      rintro e w3 ⟨rfl, r3, off3⟩
      have HOFF : Hid (Off [g] wr (w2.setCell ⟨g, i * 6 + 3, none⟩ (.string (mtext (kk + 3))))) := hoff
      have HKP : Hid (∀ f', g ∉ f' → (∀ a ∈ f', a < wr.heap.size) → KeepOn f' wr (w2.setCell ⟨g, i * 6 + 3, none⟩ (.string (mtext (kk + 3))))) := hkeep
      have hgl3 : g < (w2.setCell ⟨g, i * 6 + 3, none⟩ (.string (mtext (kk + 3)))).heap.size := owns_lt HS4.out rfl
      have hgf1 : g ∉ f1 := fun h => HFS.out.2.2.1 (by simp [h])
      have hown3 : w3.ownsRow 0 73 6 (.slice (some ⟨g, 0, none⟩) n cap) n ((((cells.set (i * 6) (.int .i64 kk)).set (i * 6 + 1) (.int .i64 ((kk : Int) + 1))).set (i * 6 + 2) (.string (mtext (kk + 2)))).set (i * 6 + 3) (.string (mtext (kk + 3)))) := owns_block HS4.out rfl (off3.block g hgl3 hgf1)
      have e5 : w3.cell? ⟨g, i * 6 + 5, none⟩ = some (.slice pc x.clauses.length cc) := by
        rw [hown3.cellAt (i * 6 + 5) (by omega), List.getElem?_set_ne (by omega), List.getElem?_set_ne (by omega), List.getElem?_set_ne (by omega), List.getElem?_set_ne (by omega)]; exact HCS.out 5 (by omega)
      have k23 : KeepOn f2 (w2.setCell ⟨g, i * 6 + 3, none⟩ (.string (mtext (kk + 3)))) w3 := off3.keep (fun a ha => ⟨Nat.lt_of_lt_of_le (HCL.out.lt (fun _ _ _ h => OCl.lt' h (fun _ _ _ h => h.lt)) a ha) hoff.size, fun hm => HN12.out a hm a ha rfl⟩)
      have HCL3 : Hid (ORows w3 69 2 (OCls w3 d') (.slice pc x.clauses.length cc) x.clauses f2) := (HCL.out.keep hk2 (fun cs x f' _ hs h => OCls.keep h (hk2.sub hs))).keep k23 (fun cs x f' _ hs h => OCls.keep h (k23.sub hs))
      have R3 : Hid (ORows w3 73 6 (OEx w3 d') (.slice pk x.kids.length ck) (markL (markE d') (cntE d') (kk + 4) x.kids) f1) := r3
      have OF3 : Hid (Off f1 (w2.setCell ⟨g, i * 6 + 3, none⟩ (.string (mtext (kk + 3)))) w3) := off3
      have HOW3 : Hid (w3.ownsRow 0 73 6 (.slice (some ⟨g, 0, none⟩) n cap) n ((((cells.set (i * 6) (.int .i64 kk)).set (i * 6 + 1) (.int .i64 ((kk : Int) + 1))).set (i * 6 + 2) (.string (mtext (kk + 2)))).set (i * 6 + 3) (.string (mtext (kk + 3))))) := hown3
      clear r3 off3 k23 hown3 hk1 hk2 hoff hkeep e3 e4 z3 hgl3
      generalize hk2g : kk + 4 + (x.kids.map (cntE d')).sum = k2 at *
      have HK2G : Hid (kk + 4 + (x.kids.map (cntE d')).sum = k2) := hk2g
      have hk21 : 1 ≤ k2 := by omega
      clear hk2g
      go_wp2_with fail
      refine ((ihC d' rfl).at x.clauses f2 k2 _ rfl HCL3.out hn12.2.1 hk21 HK2.out).mono ?_
      rintro e w4 ⟨rfl, r4, off4⟩
      have hgf2 : g ∉ f2 := fun h => HFS.out.2.2.1 (by simp [h])
      have hown : w4.ownsRow 0 73 6 (.slice (some ⟨g, 0, none⟩) n cap) n ((((cells.set (i * 6) (.int .i64 kk)).set (i * 6 + 1) (.int .i64 ((kk : Int) + 1))).set (i * 6 + 2) (.string (mtext (kk + 2)))).set (i * 6 + 3) (.string (mtext (kk + 3)))) := owns_block HOW3.out rfl (off4.block g (owns_lt HOW3.out rfl) hgf2)
      have k34 : KeepOn f1 w3 w4 := off4.keep (fun a ha => ⟨R3.out.lt (fun _ _ _ h => h.lt) a ha, fun hm => HN12.out a ha a hm rfl⟩)
      have hoff2 : Off (f1 ++ f2) (w2.setCell ⟨g, i * 6 + 3, none⟩ (.string (mtext (kk + 3)))) w4 := (OF3.out.sub (fun a ha => by simp [ha])).trans (off4.sub (fun a ha => by simp [ha]))
      have hset := ORows.set (R := OEx wr (d' + 1)) (R' := OEx w4 (d' + 1)) (x' := markE (d' + 1) kk x) (i := i) (f := f1 ++ f2) HNE.out (by rw [HMX.out]; exact hown) (by rw [HMX.out]) (by rw [HMX.out]; exact hl) HAT.out hf
        (fun m hm => by rw [List.getElem?_set_ne (by omega), List.getElem?_set_ne (by omega), List.getElem?_set_ne (by omega), List.getElem?_set_ne (by omega)])
        [.int .i64 kk, .int .i64 ((kk : Int) + 1), .string (mtext (kk + 2)), .string (mtext (kk + 3)), .slice pk x.kids.length ck, .slice pc x.clauses.length cc] rfl
        (fun j hj => by
          match j, hj with
          | 0, _ => rw [List.getElem?_set_ne (by omega), List.getElem?_set_ne (by omega), List.getElem?_set_ne (by omega)]; exact List.getElem?_set_self (by omega)
          | 1, _ => rw [List.getElem?_set_ne (by omega), List.getElem?_set_ne (by omega), List.getElem?_set_self (by rw [List.length_set]; omega)]; rfl
          | 2, _ => rw [List.getElem?_set_ne (by omega), List.getElem?_set_self (by rw [List.length_set, List.length_set]; omega)]; rfl
          | 3, _ => rw [List.getElem?_set_self (by rw [List.length_set, List.length_set, List.length_set]; omega)]; rfl
          | 4, _ => rw [List.getElem?_set_ne (by omega), List.getElem?_set_ne (by omega), List.getElem?_set_ne (by omega), List.getElem?_set_ne (by omega)]; exact HCS.out 4 (by omega)
          | 5, _ => rw [List.getElem?_set_ne (by omega), List.getElem?_set_ne (by omega), List.getElem?_set_ne (by omega), List.getElem?_set_ne (by omega)]; exact HCS.out 5 (by omega))
        ⟨_, _, f1, f2, rfl, rfl, nat_ok (by omega), nat_ok (n := kk + 1) (by omega), mtext_ok (by omega), mtext_ok (by omega), R3.out.keep k34 (fun cs x f _ hs h => h.keep (k34.sub hs)), by rw [← HK2G.out] at r4; exact r4⟩
        (fun j y f' cs hj hf' h => h.keep (fun a ha => by
          have h1 := (HNG.out f' (List.mem_of_getElem? hf')).1
          have h2 := h.lt a ha
          have h3 := HNP.out j i f' _ hj hf' hf a ha
          exact (hoff2.block a (Nat.lt_of_lt_of_le h2 HOFF.out.size) h3).trans (HKP.out f' h1 h.lt a ha)))
      rw [mix_succ (by rw [HL.out, HN.out]) HMI.out, ← HFP.out] at hset
      have HSET : Hid (ORows w4 73 6 (OEx w4 (d' + 1)) (.slice (some ⟨g, 0, none⟩) n cap) (mix (i + 1) (markL (markE (d' + 1)) (cntE (d' + 1)) k es) es) fp) := hset
      have HF2 : Hid (Off fp w w4) := HF.out.trans ((HOFF.out.sub (fun a ha => by rw [List.mem_singleton] at ha; exact ha ▸ HFS.out.2.1)).trans (hoff2.sub HFS.out.1))
      clear hset hown r4 off4 hoff2 k34
      go_wp2_with fail
      exact ⟨⟨i + 1, k2 + (x.clauses.map (cntC (cntE d'))).sum, by omega, by go_num, rfl, HSUM.out.symm, HSET, HF2⟩, by simp [intOf]; omega⟩
    · obtain rfl : i = n := by omega
      have HE : Hid (kk = k + (es.map (cntE d)).sum) := by
        have := HK.out
        rw [List.take_of_length_le (by rw [HN.out]; exact Nat.le_refl _)] at this
        exact this
      have HR2 : Hid (ORows wr 73 6 (OEx wr d) (.slice p i cap) (markL (markE d) (cntE d) k es) fp) := by
        have := HR.out
        rw [mix_all (by rw [HL.out, HN.out]) (by rw [HN.out]; exact Nat.le_refl _)] at this
        exact this
      clear HR HO
      go_wp2_with fail
      go_ret
      exact ⟨by rw [HE.out]; rfl, HR2.out, HF.out⟩

theorem markES_all : ∀ d, MarkES d
  | 0 => MarkES_of (fun d' h => by omega) (fun d' h => by omega)
  | d + 1 => MarkES_of (fun d' h => by obtain rfl : d = d' := by omega
                                       exact markES_all d) (fun d' h => by
                                       obtain rfl : d = d' := by omega
                                       exact MarkCS_of (markES_all d))
theorem markCS_all (d : Nat) : MarkCS d := MarkCS_of (markES_all d)
end Go.Proofs.YtigfmdfgioccjaaGreatDoor
/-
  The laws' markRefS over rows of names with their numbers.
-/
namespace Go.Proofs.YtigfmdfgioccjaaGreatDoor
open Go.ChangeShapes Go.WideShapes Go.ChangeAt Go.RowKit
set_option linter.unusedVariables false

def cntR (_ : Rf) : Nat := 2
def markR (k : Nat) (_ : Rf) : Rf := ⟨mtext k, ((k : Int) + 1)⟩
/-- What markRefS answers and leaves. -/
def MarkRS (d : Nat) : Prop :=
  ∀ (w : World) (v : Value) (es : List Rf) (fp : List Nat) (k : Nat), ORows w 44 2 (ORf w d) v es fp → fp.Nodup → 1 ≤ k → k + (es.map cntR).sum ≤ 1099511627776 →
    Calls Tryz.prog 26 #[v, .int .i64 k] w fun e w' => e = .returned (.int .i64 ((k + (es.map cntR).sum : Nat) : Int)) ∧ ORows w' 44 2 (ORf w' d) v (markL markR cntR k es) fp ∧ Off fp w w'

set_option maxHeartbeats 16000000 in
theorem MarkRS_of {d : Nat}  : MarkRS d := by
  intro w v es fp k h hnd hk1 hkb
  obtain ⟨p, cap, rfl, hcl, hcm⟩ := h.shape
  have hnb : es.length ≤ 9223372036854775807 := by unfold maxLen at hcm; omega
  have HL : Hid ((markL (markR) (cntR) k es).length = es.length) := markL_length _ _ _ _
  have HO : Hid (ORows w 44 2 (ORf w d) (.slice p es.length cap) es fp) := h
  have HND : Hid fp.Nodup := hnd
  have HKB : Hid (k + (es.map (cntR)).sum ≤ 1099511627776) := hkb
  generalize hn : es.length = n at *
  have HN : Hid (es.length = n) := hn
  clear h hnd hn hkb
  go_enter Tryz.func26, Tryz.ntmps26
  go_wp2
  go_loopw [1, 5] (fun kv iv wr => ∃ i kk : Nat, i ≤ n ∧ iv = .int .i64 i ∧ kv = .int .i64 kk ∧ Hid (kk = k + ((es.take i).map (cntR)).sum) ∧ Hid (ORows wr 44 2 (ORf wr d) (.slice p n cap) (mix i (markL (markR) (cntR) k es) es) fp) ∧ Hid (Off fp w wr)) (fun _ iv _ => n - (intOf iv).toNat)
  case atStart => exact ⟨0, k, Nat.zero_le _, rfl, rfl, (by show k = _; simp), (by show ORows _ _ _ _ _ _ _; rw [mix_zero]; exact HO.out), Off.refl _ _⟩
  case round =>
    obtain ⟨i, kk, hi, rfl, rfl, HK, HR, HF⟩ := hrel
    by_cases hlt : i < n
    · obtain ⟨x, hxi⟩ : ∃ x, es[i]? = some x := ⟨es[i]'(by rw [HN.out]; exact hlt), List.getElem?_eq_getElem _⟩
      have hml : (mix i (markL (markR) (cntR) k es) es).length = n := by rw [mix_length (by rw [HL.out, HN.out]), HN.out]
      have hmx : (mix i (markL (markR) (cntR) k es) es)[i]? = some x := by rw [mix_at (by rw [HL.out, HN.out]) (by rw [HN.out]; exact hlt)]; exact hxi
      have HMX : Hid ((mix i (markL (markR) (cntR) k es) es).length = n) := hml
      rcases HR.out with hnil | ⟨hne, cells, g, cap', fps, ho, hv, hl, hfp, hat⟩
      · rw [hnil.1] at hml; simp at hml; omega
      rw [hml] at ho hv hl
      obtain ⟨f, hf⟩ : ∃ f, fps[i]? = some f := ⟨fps[i]'(by rw [hl]; exact hlt), List.getElem?_eq_getElem _⟩
      obtain ⟨cs, hcs4, hcs, hx⟩ := hat i x f hmx hf
      cases hv
      have hlc : cells.length = n * 2 := ho.1
      have hnp := nodup_parts (hfp ▸ HND.out)
      have hsum : ((es.take (i + 1)).map (cntR)).sum = ((es.take i).map (cntR)).sum + cntR x := sum_take_succ _ es i x hxi
      have hle : ((es.take (i + 1)).map (cntR)).sum ≤ (es.map (cntR)).sum := sum_take_le _ es (i + 1)
      have hkk := HK.out
      have hkb := HKB.out
      have hg0 : g ∈ fp := by rw [hfp]; simp
      have hfs : ∀ a ∈ f, a ∈ fp := fun a ha => by rw [hfp]; exact List.mem_cons_of_mem _ (List.mem_flatten.2 ⟨f, List.mem_of_getElem? hf, ha⟩)
      have hgf : g ∉ f := (hnp.1 f (List.mem_of_getElem? hf)).1
      have hfn : f.Nodup := (hnp.1 f (List.mem_of_getElem? hf)).2
      have HMI : Hid ((markL (markR) (cntR) k es)[i]? = some ((markR) kk x)) := by
        show _ = _
        rw [markL_at _ _ _ _ _ _ hxi, ← HK.out]
      have HAT : Hid (∀ (j : Nat) y f', (mix i (markL (markR) (cntR) k es) es)[j]? = some y → fps[j]? = some f' → ∃ cs : List Value, cs.length = 2 ∧ (∀ q, q < 2 → cells[j * 2 + q]? = cs[q]?) ∧ ORf wr d cs y f') := hat
      have HNP : Hid (∀ (i j : Nat) f f', i ≠ j → fps[i]? = some f → fps[j]? = some f' → ∀ a ∈ f, a ∉ f') := hnp.2
      have HNG : Hid (∀ f ∈ fps, g ∉ f ∧ f.Nodup) := hnp.1
      have HFP : Hid (fp = g :: fps.flatten) := hfp
      have HNE : Hid (mix i (markL (markR) (cntR) k es) es ≠ []) := hne
      have HFS : Hid ((∀ a ∈ f, a ∈ fp) ∧ g ∈ fp ∧ g ∉ f ∧ f.Nodup) := ⟨hfs, hg0, hgf, hfn⟩
      have hki : (i : Int) < (n : Int) := by omega
      have hi0 : (0 : Int) ≤ (i : Int) := by omega
      clear hat hnp hfp hne hfs hg0 hgf hfn hml hmx HKB HO
      obtain ⟨⟨rfl, hrs, hri⟩, rfl⟩ := hx
      have HCS : Hid (∀ (j : Nat), j < 2 → cells[i * 2 + j]? = [Value.string x.name, .int .i64 x.arity][j]?) := hcs
      have HOW : Hid (wr.ownsRow 0 44 2 (.slice (some ⟨g, 0, none⟩) n cap) n cells) := ho
      have hcx : cntR x = 2 := rfl
      have HSUM : Hid (k + ((es.take (i + 1)).map cntR).sum = kk + 2) := by show _ = _; omega
      have hkk2 : kk + 2 ≤ 1099511627776 := by omega
      have hgl : g < wr.heap.size := owns_lt ho rfl
      have hk11 : 1 ≤ kk := by omega
      clear ho hcs hcs4 hsum hle hkk hkb hcx
      go_wp2_with fail
      refine (markText_at kk _ rfl (by omega) (by omega)).mono ?_
      rintro e w1 ⟨rfl, hb⟩
      have o1 := HOW.out.kept (grownBy_belowR (r := none) hb) (Or.inr (by simp [Value.ownBlock]))
      have e0 : w1.cell? ⟨g, i * 2, none⟩ = some (.string x.name) := by
        rw [o1.cellAt (i * 2) (by omega)]; exact HCS.out 0 (by omega)
      have z0 := o1.frozenAt (i * 2)
      have s1 := o1.stored (i * 2) (.string (mtext kk))
      have e1 : (w1.setCell ⟨g, i * 2, none⟩ (.string (mtext kk))).cell? ⟨g, i * 2 + 1, none⟩ = some (.int .i64 x.arity) := by
        rw [s1.1.cellAt (i * 2 + 1) (by omega), List.getElem?_set_ne (by omega)]; exact HCS.out 1 (by omega)
      have z1 := s1.1.frozenAt (i * 2 + 1)
      have s2 := s1.1.stored (i * 2 + 1) (.int .i64 ((kk : Int) + 1))
      have hoff : Off [g] wr ((w1.setCell ⟨g, i * 2, none⟩ (.string (mtext kk))).setCell ⟨g, i * 2 + 1, none⟩ (.int .i64 ((kk : Int) + 1))) := (Off.of_below hb).trans ((Off.of_grown s1.2 (by simp)).trans (Off.of_grown s2.2 (by simp)))
      have hset := ORows.set (R := ORf wr d) (R' := ORf ((w1.setCell ⟨g, i * 2, none⟩ (.string (mtext kk))).setCell ⟨g, i * 2 + 1, none⟩ (.int .i64 ((kk : Int) + 1))) d) (x' := markR kk x) (i := i) (f := []) HNE.out (by rw [HMX.out]; exact s2.1) (by rw [HMX.out]) (by rw [HMX.out]; exact hl) HAT.out hf
        (fun m hm => by rw [List.getElem?_set_ne (by omega), List.getElem?_set_ne (by omega)])
        [.string (mtext kk), .int .i64 ((kk : Int) + 1)] rfl
        (fun j hj => by
          match j, hj with
          | 0, _ => rw [List.getElem?_set_ne (by omega)]; exact List.getElem?_set_self (by omega)
          | 1, _ => rw [List.getElem?_set_self (by rw [List.length_set]; omega)]; rfl)
        ⟨⟨rfl, mtext_ok (by omega), nat_ok (n := kk + 1) (by omega)⟩, rfl⟩
        (fun j y f' cs hj hf' h => h)
      rw [mix_succ (by rw [HL.out, HN.out]) HMI.out, ← HFP.out] at hset
      have HSET : Hid (ORows ((w1.setCell ⟨g, i * 2, none⟩ (.string (mtext kk))).setCell ⟨g, i * 2 + 1, none⟩ (.int .i64 ((kk : Int) + 1))) 44 2 (ORf ((w1.setCell ⟨g, i * 2, none⟩ (.string (mtext kk))).setCell ⟨g, i * 2 + 1, none⟩ (.int .i64 ((kk : Int) + 1))) d) (.slice (some ⟨g, 0, none⟩) n cap) (mix (i + 1) (markL markR cntR k es) es) fp) := hset
      have HF2 : Hid (Off fp w ((w1.setCell ⟨g, i * 2, none⟩ (.string (mtext kk))).setCell ⟨g, i * 2 + 1, none⟩ (.int .i64 ((kk : Int) + 1)))) := HF.out.trans (hoff.sub (fun a ha => by rw [List.mem_singleton] at ha; exact ha ▸ HFS.out.2.1))
      clear hset s1 s2 o1 hoff hb
      go_wp2_with fail
      exact ⟨⟨i + 1, kk + 2, by omega, by go_num, by go_num, HSUM.out.symm, HSET, HF2⟩, by simp [intOf]; omega⟩
    · obtain rfl : i = n := by omega
      have HE : Hid (kk = k + (es.map (cntR)).sum) := by
        have := HK.out
        rw [List.take_of_length_le (by rw [HN.out]; exact Nat.le_refl _)] at this
        exact this
      have HR2 : Hid (ORows wr 44 2 (ORf wr d) (.slice p i cap) (markL (markR) (cntR) k es) fp) := by
        have := HR.out
        rw [mix_all (by rw [HL.out, HN.out]) (by rw [HN.out]; exact Nat.le_refl _)] at this
        exact this
      clear HR HO
      go_wp2_with fail
      go_ret
      exact ⟨by rw [HE.out]; rfl, HR2.out, HF.out⟩

theorem markRS_all (d : Nat) : MarkRS d := MarkRS_of
theorem MarkRS.at {d : Nat} (h : MarkRS d) {w : World} {v : Value} (es : List Rf) (fp : List Nat) (k : Nat) (z : Int) (hz : z = k) (ho : ORows w 44 2 (ORf w d) v es fp) (hn : fp.Nodup) (h1 : 1 ≤ k) (hb : k + (es.map cntR).sum ≤ 1099511627776) :
    Calls Tryz.prog 26 #[v, .int .i64 z] w fun e w' => e = .returned (.int .i64 ((k + (es.map cntR).sum : Nat) : Int)) ∧ ORows w' 44 2 (ORf w' d) v (markL markR cntR k es) fp ∧ Off fp w w' := by
  subst hz; exact h w v es fp k ho hn h1 hb
end Go.Proofs.YtigfmdfgioccjaaGreatDoor
/-
  The laws' markFunS over trees that own their memory.
-/
namespace Go.Proofs.YtigfmdfgioccjaaGreatDoor
open Go.ChangeShapes Go.WideShapes Go.ChangeAt Go.RowKit
set_option linter.unusedVariables false

def cntF (d : Nat) (f : Fn') : Nat := 2 + (f.clauses.map (cntC (cntE d))).sum
def markF (d : Nat) (k : Nat) (f : Fn') : Fn' := ⟨mtext k, ((k : Int) + 1), markL (markC (markE d) (cntE d)) (cntC (cntE d)) (k + 2) f.clauses⟩
/-- What markFunS answers and leaves. -/
def MarkFS (d : Nat) : Prop :=
  ∀ (w : World) (v : Value) (es : List Fn') (fp : List Nat) (k : Nat), ORows w 52 3 (OFn w d) v es fp → fp.Nodup → 1 ≤ k → k + (es.map (cntF d)).sum ≤ 1099511627776 →
    Calls Tryz.prog 27 #[v, .int .i64 k] w fun e w' => e = .returned (.int .i64 ((k + (es.map (cntF d)).sum : Nat) : Int)) ∧ ORows w' 52 3 (OFn w' d) v (markL (markF d) (cntF d) k es) fp ∧ Off fp w w'
theorem MarkFS.at {d : Nat} (h : MarkFS d) {w : World} {v : Value} (es : List Fn') (fp : List Nat) (k : Nat) (z : Int) (hz : z = k) (ho : ORows w 52 3 (OFn w d) v es fp) (hn : fp.Nodup) (h1 : 1 ≤ k) (hb : k + (es.map (cntF d)).sum ≤ 1099511627776) :
    Calls Tryz.prog 27 #[v, .int .i64 z] w fun e w' => e = .returned (.int .i64 ((k + (es.map (cntF d)).sum : Nat) : Int)) ∧ ORows w' 52 3 (OFn w' d) v (markL (markF d) (cntF d) k es) fp ∧ Off fp w w' := by
  subst hz; exact h w v es fp k ho hn h1 hb

set_option maxHeartbeats 16000000 in
theorem MarkFS_of {d : Nat} (ihC : MarkCS d) : MarkFS d := by
  intro w v es fp k h hnd hk1 hkb
  obtain ⟨p, cap, rfl, hcl, hcm⟩ := h.shape
  have hnb : es.length ≤ 9223372036854775807 := by unfold maxLen at hcm; omega
  have HL : Hid ((markL (markF d) (cntF d) k es).length = es.length) := markL_length _ _ _ _
  have HO : Hid (ORows w 52 3 (OFn w d) (.slice p es.length cap) es fp) := h
  have HND : Hid fp.Nodup := hnd
  have HKB : Hid (k + (es.map (cntF d)).sum ≤ 1099511627776) := hkb
  generalize hn : es.length = n at *
  have HN : Hid (es.length = n) := hn
  clear h hnd hn hkb
  go_enter Tryz.func27, Tryz.ntmps27
  go_wp2
  go_loopw [1, 5] (fun kv iv wr => ∃ i kk : Nat, i ≤ n ∧ iv = .int .i64 i ∧ kv = .int .i64 kk ∧ Hid (kk = k + ((es.take i).map (cntF d)).sum) ∧ Hid (ORows wr 52 3 (OFn wr d) (.slice p n cap) (mix i (markL (markF d) (cntF d) k es) es) fp) ∧ Hid (Off fp w wr)) (fun _ iv _ => n - (intOf iv).toNat)
  case atStart => exact ⟨0, k, Nat.zero_le _, rfl, rfl, (by show k = _; simp), (by show ORows _ _ _ _ _ _ _; rw [mix_zero]; exact HO.out), Off.refl _ _⟩
  case round =>
    obtain ⟨i, kk, hi, rfl, rfl, HK, HR, HF⟩ := hrel
    by_cases hlt : i < n
    · obtain ⟨x, hxi⟩ : ∃ x, es[i]? = some x := ⟨es[i]'(by rw [HN.out]; exact hlt), List.getElem?_eq_getElem _⟩
      have hml : (mix i (markL (markF d) (cntF d) k es) es).length = n := by rw [mix_length (by rw [HL.out, HN.out]), HN.out]
      have hmx : (mix i (markL (markF d) (cntF d) k es) es)[i]? = some x := by rw [mix_at (by rw [HL.out, HN.out]) (by rw [HN.out]; exact hlt)]; exact hxi
      have HMX : Hid ((mix i (markL (markF d) (cntF d) k es) es).length = n) := hml
      rcases HR.out with hnil | ⟨hne, cells, g, cap', fps, ho, hv, hl, hfp, hat⟩
      · rw [hnil.1] at hml; simp at hml; omega
      rw [hml] at ho hv hl
      obtain ⟨f, hf⟩ : ∃ f, fps[i]? = some f := ⟨fps[i]'(by rw [hl]; exact hlt), List.getElem?_eq_getElem _⟩
      obtain ⟨cs, hcs4, hcs, hx⟩ := hat i x f hmx hf
      cases hv
      have hlc : cells.length = n * 3 := ho.1
      have hnp := nodup_parts (hfp ▸ HND.out)
      have hsum : ((es.take (i + 1)).map (cntF d)).sum = ((es.take i).map (cntF d)).sum + cntF d x := sum_take_succ _ es i x hxi
      have hle : ((es.take (i + 1)).map (cntF d)).sum ≤ (es.map (cntF d)).sum := sum_take_le _ es (i + 1)
      have hkk := HK.out
      have hkb := HKB.out
      have hg0 : g ∈ fp := by rw [hfp]; simp
      have hfs : ∀ a ∈ f, a ∈ fp := fun a ha => by rw [hfp]; exact List.mem_cons_of_mem _ (List.mem_flatten.2 ⟨f, List.mem_of_getElem? hf, ha⟩)
      have hgf : g ∉ f := (hnp.1 f (List.mem_of_getElem? hf)).1
      have hfn : f.Nodup := (hnp.1 f (List.mem_of_getElem? hf)).2
      have HMI : Hid ((markL (markF d) (cntF d) k es)[i]? = some ((markF d) kk x)) := by
        show _ = _
        rw [markL_at _ _ _ _ _ _ hxi, ← HK.out]
      have HAT : Hid (∀ (j : Nat) y f', (mix i (markL (markF d) (cntF d) k es) es)[j]? = some y → fps[j]? = some f' → ∃ cs : List Value, cs.length = 3 ∧ (∀ q, q < 3 → cells[j * 3 + q]? = cs[q]?) ∧ OFn wr d cs y f') := hat
      have HNP : Hid (∀ (i j : Nat) f f', i ≠ j → fps[i]? = some f → fps[j]? = some f' → ∀ a ∈ f, a ∉ f') := hnp.2
      have HNG : Hid (∀ f ∈ fps, g ∉ f ∧ f.Nodup) := hnp.1
      have HFP : Hid (fp = g :: fps.flatten) := hfp
      have HNE : Hid (mix i (markL (markF d) (cntF d) k es) es ≠ []) := hne
      have HFS : Hid ((∀ a ∈ f, a ∈ fp) ∧ g ∈ fp ∧ g ∉ f ∧ f.Nodup) := ⟨hfs, hg0, hgf, hfn⟩
      have hki : (i : Int) < (n : Int) := by omega
      have hi0 : (0 : Int) ≤ (i : Int) := by omega
      clear hat hnp hfp hne hfs hg0 hgf hfn hml hmx HKB HO
      obtain ⟨cv, rfl, hrs, hri, hcls⟩ := hx
      obtain ⟨pc, cc, hcv, _⟩ := hcls.shape
      subst hcv
      have HCS : Hid (∀ (j : Nat), j < 3 → cells[i * 3 + j]? = [Value.string x.name, .int .i64 x.arity, .slice pc x.clauses.length cc][j]?) := hcs
      have HOW : Hid (wr.ownsRow 0 52 3 (.slice (some ⟨g, 0, none⟩) n cap) n cells) := ho
      have HCL : Hid (ORows wr 69 2 (OCls wr d) (.slice pc x.clauses.length cc) x.clauses f) := hcls
      have hcx : cntF d x = 2 + (x.clauses.map (cntC (cntE d))).sum := rfl
      have HSUM : Hid (k + ((es.take (i + 1)).map (cntF d)).sum = kk + 2 + (x.clauses.map (cntC (cntE d))).sum) := by show _ = _; omega
      have HK2 : Hid (kk + 2 + (x.clauses.map (cntC (cntE d))).sum ≤ 1099511627776) := by show _ ≤ _; omega
      have hkk2 : kk + 2 ≤ 1099511627776 := by omega
      have hgl : g < wr.heap.size := owns_lt ho rfl
      have hk11 : 1 ≤ kk := by omega
      clear ho hcs hcs4 hsum hle hkk hkb hcx hcls
      go_wp2_with fail
      refine (markText_at kk _ rfl (by omega) (by omega)).mono ?_
      rintro e w1 ⟨rfl, hb⟩
      have o1 := HOW.out.kept (grownBy_belowR (r := none) hb) (Or.inr (by simp [Value.ownBlock]))
      have e0 : w1.cell? ⟨g, i * 3, none⟩ = some (.string x.name) := by
        rw [o1.cellAt (i * 3) (by omega)]; exact HCS.out 0 (by omega)
      have z0 := o1.frozenAt (i * 3)
      have s1 := o1.stored (i * 3) (.string (mtext kk))
      have e1 : (w1.setCell ⟨g, i * 3, none⟩ (.string (mtext kk))).cell? ⟨g, i * 3 + 1, none⟩ = some (.int .i64 x.arity) := by
        rw [s1.1.cellAt (i * 3 + 1) (by omega), List.getElem?_set_ne (by omega)]; exact HCS.out 1 (by omega)
      have z1 := s1.1.frozenAt (i * 3 + 1)
      have s2 := s1.1.stored (i * 3 + 1) (.int .i64 ((kk : Int) + 1))
      have e2 : ((w1.setCell ⟨g, i * 3, none⟩ (.string (mtext kk))).setCell ⟨g, i * 3 + 1, none⟩ (.int .i64 ((kk : Int) + 1))).cell? ⟨g, i * 3 + 2, none⟩ = some (.slice pc x.clauses.length cc) := by
        rw [s2.1.cellAt (i * 3 + 2) (by omega), List.getElem?_set_ne (by omega), List.getElem?_set_ne (by omega)]; exact HCS.out 2 (by omega)
      have hoff : Off [g] wr ((w1.setCell ⟨g, i * 3, none⟩ (.string (mtext kk))).setCell ⟨g, i * 3 + 1, none⟩ (.int .i64 ((kk : Int) + 1))) := (Off.of_below hb).trans ((Off.of_grown s1.2 (by simp)).trans (Off.of_grown s2.2 (by simp)))
      have HOFF : Hid (Off [g] wr ((w1.setCell ⟨g, i * 3, none⟩ (.string (mtext kk))).setCell ⟨g, i * 3 + 1, none⟩ (.int .i64 ((kk : Int) + 1)))) := hoff
      have HS2 : Hid (((w1.setCell ⟨g, i * 3, none⟩ (.string (mtext kk))).setCell ⟨g, i * 3 + 1, none⟩ (.int .i64 ((kk : Int) + 1))).ownsRow 0 52 3 (.slice (some ⟨g, 0, none⟩) n cap) n ((cells.set (i * 3) (.string (mtext kk))).set (i * 3 + 1) (.int .i64 ((kk : Int) + 1)))) := s2.1
      have hkeep : ∀ f', g ∉ f' → (∀ a ∈ f', a < wr.heap.size) → KeepOn f' wr ((w1.setCell ⟨g, i * 3, none⟩ (.string (mtext kk))).setCell ⟨g, i * 3 + 1, none⟩ (.int .i64 ((kk : Int) + 1))) := fun f' h1 h2 => hoff.keep (fun a ha => ⟨h2 a ha, fun hm => h1 (by rw [List.mem_singleton] at hm; exact hm ▸ ha)⟩)
      have hk1 := hkeep f HFS.out.2.2.1 (HCL.out.lt (fun _ _ _ h => OCl.lt' h (fun _ _ _ h => h.lt)))
      have HCL2 : Hid (ORows ((w1.setCell ⟨g, i * 3, none⟩ (.string (mtext kk))).setCell ⟨g, i * 3 + 1, none⟩ (.int .i64 ((kk : Int) + 1))) 69 2 (OCls ((w1.setCell ⟨g, i * 3, none⟩ (.string (mtext kk))).setCell ⟨g, i * 3 + 1, none⟩ (.int .i64 ((kk : Int) + 1))) d) (.slice pc x.clauses.length cc) x.clauses f) := HCL.out.keep hk1 (fun cs x f' _ hs h => OCls.keep h (hk1.sub hs))
      have HKP : Hid (∀ f', g ∉ f' → (∀ a ∈ f', a < wr.heap.size) → KeepOn f' wr ((w1.setCell ⟨g, i * 3, none⟩ (.string (mtext kk))).setCell ⟨g, i * 3 + 1, none⟩ (.int .i64 ((kk : Int) + 1)))) := hkeep
      clear s1 s2 o1 hoff hb hk1 hkeep
      go_wp2_with fail
      refine (ihC.at x.clauses f (kk + 2) _ (by omega) HCL2.out HFS.out.2.2.2 (by omega) HK2.out).mono ?_
      rintro e w4 ⟨rfl, r4, off4⟩
      have hown : w4.ownsRow 0 52 3 (.slice (some ⟨g, 0, none⟩) n cap) n ((cells.set (i * 3) (.string (mtext kk))).set (i * 3 + 1) (.int .i64 ((kk : Int) + 1))) := owns_block HS2.out rfl (off4.block g (owns_lt HS2.out rfl) HFS.out.2.2.1)
      have hset := ORows.set (R := OFn wr d) (R' := OFn w4 d) (x' := markF d kk x) (i := i) (f := f) HNE.out (by rw [HMX.out]; exact hown) (by rw [HMX.out]) (by rw [HMX.out]; exact hl) HAT.out hf
        (fun m hm => by rw [List.getElem?_set_ne (by omega), List.getElem?_set_ne (by omega)])
        [.string (mtext kk), .int .i64 ((kk : Int) + 1), .slice pc x.clauses.length cc] rfl
        (fun j hj => by
          match j, hj with
          | 0, _ => rw [List.getElem?_set_ne (by omega)]; exact List.getElem?_set_self (by omega)
          | 1, _ => rw [List.getElem?_set_self (by rw [List.length_set]; omega)]; rfl
          | 2, _ => rw [List.getElem?_set_ne (by omega), List.getElem?_set_ne (by omega)]; exact HCS.out 2 (by omega))
        ⟨_, rfl, mtext_ok (by omega), nat_ok (n := kk + 1) (by omega), r4⟩
        (fun j y f' cs hj hf' h => h.keep (fun a ha => by
          have h1 := (HNG.out f' (List.mem_of_getElem? hf')).1
          have h2 := h.lt a ha
          have h3 := HNP.out j i f' _ hj hf' hf a ha
          exact (off4.block a (Nat.lt_of_lt_of_le h2 HOFF.out.size) h3).trans (HKP.out f' h1 h.lt a ha)))
      rw [mix_succ (by rw [HL.out, HN.out]) HMI.out, ← HFP.out] at hset
      have HSET : Hid (ORows w4 52 3 (OFn w4 d) (.slice (some ⟨g, 0, none⟩) n cap) (mix (i + 1) (markL (markF d) (cntF d) k es) es) fp) := hset
      have HF2 : Hid (Off fp w w4) := HF.out.trans ((HOFF.out.sub (fun a ha => by rw [List.mem_singleton] at ha; exact ha ▸ HFS.out.2.1)).trans (off4.sub HFS.out.1))
      clear hset hown r4 off4
      go_wp2_with fail
      exact ⟨⟨i + 1, kk + 2 + (x.clauses.map (cntC (cntE d))).sum, by omega, by go_num, rfl, HSUM.out.symm, HSET, HF2⟩, by simp [intOf]; omega⟩
    · obtain rfl : i = n := by omega
      have HE : Hid (kk = k + (es.map (cntF d)).sum) := by
        have := HK.out
        rw [List.take_of_length_le (by rw [HN.out]; exact Nat.le_refl _)] at this
        exact this
      have HR2 : Hid (ORows wr 52 3 (OFn wr d) (.slice p i cap) (markL (markF d) (cntF d) k es) fp) := by
        have := HR.out
        rw [mix_all (by rw [HL.out, HN.out]) (by rw [HN.out]; exact Nat.le_refl _)] at this
        exact this
      clear HR HO
      go_wp2_with fail
      go_ret
      exact ⟨by rw [HE.out]; rfl, HR2.out, HF.out⟩

theorem markFS_all (d : Nat) : MarkFS d := MarkFS_of (markCS_all d)
def cntM (d : Nat) (m : Md) : Nat := (m.exports.map cntR).sum + (m.funs.map (cntF d)).sum
def markM (d : Nat) (k : Nat) (m : Md) : Md := ⟨m.name, markL markR cntR k m.exports, markL (markF d) (cntF d) (k + (m.exports.map cntR).sum) m.funs⟩
end Go.Proofs.YtigfmdfgioccjaaGreatDoor
/-
  How many marks there are in what is marked.
-/
namespace Go.Proofs.YtigfmdfgioccjaaGreatDoor
open Go.ChangeShapes Go.WideShapes Go.ChangeAt Go.RowKit
set_option linter.unusedVariables false

theorem cntE_le : ∀ (d : Nat) (x : Ex), cntE d x ≤ 4 + 5 * wtEx d x
  | 0, _ => by simp [cntE]
  | d + 1, .mk k n t m ks cs => by
    have hS : ∀ (l : List Ex), (l.map (cntE d)).sum ≤ 5 * wtS (wtEx d) l := by
      intro l
      induction l with
      | nil => simp
      | cons y ys ih =>
        have h1 := cntE_le d y
        have h2 : wtS (wtEx d) (y :: ys) = 1 + wtEx d y + wtS (wtEx d) ys := by simp [wtS]; omega
        simp only [List.map_cons, List.sum_cons]; omega
    have hC : ∀ (l : List Cl), (l.map (cntC (cntE d))).sum ≤ 5 * wtS (wtCl (wtEx d)) l := by
      intro l
      induction l with
      | nil => simp
      | cons y ys ih =>
        have h1 := hS y.1
        have h3 := hS y.2
        have h4 : wtCl (wtEx d) y = wtS (wtEx d) y.1 + wtS (wtEx d) y.2 := rfl
        have h5 : cntC (cntE d) y = (y.1.map (cntE d)).sum + (y.2.map (cntE d)).sum := rfl
        have h2 : wtS (wtCl (wtEx d)) (y :: ys) = 1 + wtCl (wtEx d) y + wtS (wtCl (wtEx d)) ys := by simp [wtS]; omega
        simp only [List.map_cons, List.sum_cons]; omega
    have h1 := hS ks
    have h2 := hC cs
    have hw : wtEx (d + 1) (.mk k n t m ks cs) = t.size + m.size + wtS (wtEx d) ks + wtS (wtCl (wtEx d)) cs := rfl
    have hc : cntE (d + 1) (.mk k n t m ks cs) = 4 + (ks.map (cntE d)).sum + (cs.map (cntC (cntE d))).sum := rfl
    rw [hc, hw]; omega
theorem cntCS_le (d : Nat) : ∀ (l : List Cl), (l.map (cntC (cntE d))).sum ≤ 5 * wtS (wtCl (wtEx d)) l := by
  have hS : ∀ (l : List Ex), (l.map (cntE d)).sum ≤ 5 * wtS (wtEx d) l := by
    intro l
    induction l with
    | nil => simp
    | cons y ys ih =>
      have h1 := cntE_le d y
      have h2 : wtS (wtEx d) (y :: ys) = 1 + wtEx d y + wtS (wtEx d) ys := by simp [wtS]; omega
      simp only [List.map_cons, List.sum_cons]; omega
  intro l
  induction l with
  | nil => simp
  | cons y ys ih =>
    have h1 := hS y.1
    have h3 := hS y.2
    have h4 : wtCl (wtEx d) y = wtS (wtEx d) y.1 + wtS (wtEx d) y.2 := rfl
    have h5 : cntC (cntE d) y = (y.1.map (cntE d)).sum + (y.2.map (cntE d)).sum := rfl
    have h2 : wtS (wtCl (wtEx d)) (y :: ys) = 1 + wtCl (wtEx d) y + wtS (wtCl (wtEx d)) ys := by simp [wtS]; omega
    simp only [List.map_cons, List.sum_cons]; omega
theorem cntRS_eq : ∀ (l : List Rf), (l.map cntR).sum = 2 * l.length
  | [] => rfl
  | x :: xs => by
    have := cntRS_eq xs
    simp only [List.map_cons, List.sum_cons, List.length_cons]
    unfold cntR at *
    omega
theorem cntM_le (d : Nat) (m : Md) : cntM d m ≤ 5 * wtMd d m := by
  have h1 := cntRS_eq m.exports
  have h2 : ∀ (l : List Fn'), (l.map (cntF d)).sum ≤ 5 * wtS (wtFn d) l := by
    intro l
    induction l with
    | nil => simp
    | cons y ys ih =>
      have h3 := cntCS_le d y.clauses
      have h4 : cntF d y = 2 + (y.clauses.map (cntC (cntE d))).sum := rfl
      have h5 : wtFn d y = y.name.size + wtS (wtCl (wtEx d)) y.clauses := rfl
      have h6 : wtS (wtFn d) (y :: ys) = 1 + wtFn d y + wtS (wtFn d) ys := by simp [wtS]; omega
      simp only [List.map_cons, List.sum_cons]; omega
  have h3 := h2 m.funs
  have h4 : wtMd d m = m.name.size + wtS wtRf m.exports + wtS (wtFn d) m.funs := rfl
  have h5 : wtS wtRf m.exports = m.exports.length + (m.exports.map wtRf).sum := rfl
  have h6 : cntM d m = (m.exports.map cntR).sum + (m.funs.map (cntF d)).sum := rfl
  omega
end Go.Proofs.YtigfmdfgioccjaaGreatDoor
/-
  The laws' markModuleS over rows of modules that own their memory.
-/
namespace Go.Proofs.YtigfmdfgioccjaaGreatDoor
open Go.ChangeShapes Go.WideShapes Go.ChangeAt Go.RowKit
set_option linter.unusedVariables false

def cntMS (d : Nat) (m : Md) : Nat := 1 + cntM d m
def markMS (d : Nat) (k : Nat) (m : Md) : Md := ⟨mtext k, markL markR cntR (k + 1) m.exports, markL (markF d) (cntF d) (k + 1 + (m.exports.map cntR).sum) m.funs⟩
/-- What markModuleS answers and leaves. -/
def MarkMS (d : Nat) : Prop :=
  ∀ (w : World) (v : Value) (es : List Md) (fp : List Nat) (k : Nat), ORows w 42 3 (OMd w d) v es fp → fp.Nodup → 1 ≤ k → k + (es.map (cntMS d)).sum ≤ 1099511627776 →
    Calls Tryz.prog 11 #[v, .int .i64 k] w fun e w' => e = .returned (.int .i64 ((k + (es.map (cntMS d)).sum : Nat) : Int)) ∧ ORows w' 42 3 (OMd w' d) v (markL (markMS d) (cntMS d) k es) fp ∧ Off fp w w'

set_option maxHeartbeats 16000000 in
theorem MarkMS_of {d : Nat}  : MarkMS d := by
  intro w v es fp k h hnd hk1 hkb
  obtain ⟨p, cap, rfl, hcl, hcm⟩ := h.shape
  have hnb : es.length ≤ 9223372036854775807 := by unfold maxLen at hcm; omega
  have HL : Hid ((markL (markMS d) (cntMS d) k es).length = es.length) := markL_length _ _ _ _
  have HO : Hid (ORows w 42 3 (OMd w d) (.slice p es.length cap) es fp) := h
  have HND : Hid fp.Nodup := hnd
  have HKB : Hid (k + (es.map (cntMS d)).sum ≤ 1099511627776) := hkb
  generalize hn : es.length = n at *
  have HN : Hid (es.length = n) := hn
  clear h hnd hn hkb
  go_enter Tryz.func11, Tryz.ntmps11
  go_wp2
  go_loopw [1, 5] (fun kv iv wr => ∃ i kk : Nat, i ≤ n ∧ iv = .int .i64 i ∧ kv = .int .i64 kk ∧ Hid (kk = k + ((es.take i).map (cntMS d)).sum) ∧ Hid (ORows wr 42 3 (OMd wr d) (.slice p n cap) (mix i (markL (markMS d) (cntMS d) k es) es) fp) ∧ Hid (Off fp w wr)) (fun _ iv _ => n - (intOf iv).toNat)
  case atStart => exact ⟨0, k, Nat.zero_le _, rfl, rfl, (by show k = _; simp), (by show ORows _ _ _ _ _ _ _; rw [mix_zero]; exact HO.out), Off.refl _ _⟩
  case round =>
    obtain ⟨i, kk, hi, rfl, rfl, HK, HR, HF⟩ := hrel
    by_cases hlt : i < n
    · obtain ⟨x, hxi⟩ : ∃ x, es[i]? = some x := ⟨es[i]'(by rw [HN.out]; exact hlt), List.getElem?_eq_getElem _⟩
      have hml : (mix i (markL (markMS d) (cntMS d) k es) es).length = n := by rw [mix_length (by rw [HL.out, HN.out]), HN.out]
      have hmx : (mix i (markL (markMS d) (cntMS d) k es) es)[i]? = some x := by rw [mix_at (by rw [HL.out, HN.out]) (by rw [HN.out]; exact hlt)]; exact hxi
      have HMX : Hid ((mix i (markL (markMS d) (cntMS d) k es) es).length = n) := hml
      rcases HR.out with hnil | ⟨hne, cells, g, cap', fps, ho, hv, hl, hfp, hat⟩
      · rw [hnil.1] at hml; simp at hml; omega
      rw [hml] at ho hv hl
      obtain ⟨f, hf⟩ : ∃ f, fps[i]? = some f := ⟨fps[i]'(by rw [hl]; exact hlt), List.getElem?_eq_getElem _⟩
      obtain ⟨cs, hcs4, hcs, hx⟩ := hat i x f hmx hf
      cases hv
      have hlc : cells.length = n * 3 := ho.1
      have hnp := nodup_parts (hfp ▸ HND.out)
      have hsum : ((es.take (i + 1)).map (cntMS d)).sum = ((es.take i).map (cntMS d)).sum + cntMS d x := sum_take_succ _ es i x hxi
      have hle : ((es.take (i + 1)).map (cntMS d)).sum ≤ (es.map (cntMS d)).sum := sum_take_le _ es (i + 1)
      have hkk := HK.out
      have hkb := HKB.out
      have hg0 : g ∈ fp := by rw [hfp]; simp
      have hfs : ∀ a ∈ f, a ∈ fp := fun a ha => by rw [hfp]; exact List.mem_cons_of_mem _ (List.mem_flatten.2 ⟨f, List.mem_of_getElem? hf, ha⟩)
      have hgf : g ∉ f := (hnp.1 f (List.mem_of_getElem? hf)).1
      have hfn : f.Nodup := (hnp.1 f (List.mem_of_getElem? hf)).2
      have HMI : Hid ((markL (markMS d) (cntMS d) k es)[i]? = some ((markMS d) kk x)) := by
        show _ = _
        rw [markL_at _ _ _ _ _ _ hxi, ← HK.out]
      have HAT : Hid (∀ (j : Nat) y f', (mix i (markL (markMS d) (cntMS d) k es) es)[j]? = some y → fps[j]? = some f' → ∃ cs : List Value, cs.length = 3 ∧ (∀ q, q < 3 → cells[j * 3 + q]? = cs[q]?) ∧ OMd wr d cs y f') := hat
      have HNP : Hid (∀ (i j : Nat) f f', i ≠ j → fps[i]? = some f → fps[j]? = some f' → ∀ a ∈ f, a ∉ f') := hnp.2
      have HNG : Hid (∀ f ∈ fps, g ∉ f ∧ f.Nodup) := hnp.1
      have HFP : Hid (fp = g :: fps.flatten) := hfp
      have HNE : Hid (mix i (markL (markMS d) (cntMS d) k es) es ≠ []) := hne
      have HFS : Hid ((∀ a ∈ f, a ∈ fp) ∧ g ∈ fp ∧ g ∉ f ∧ f.Nodup) := ⟨hfs, hg0, hgf, hfn⟩
      have hki : (i : Int) < (n : Int) := by omega
      have hi0 : (0 : Int) ≤ (i : Int) := by omega
      clear hat hnp hfp hne hfs hg0 hgf hfn hml hmx HKB HO
      obtain ⟨ev, fv, f1, f2, rfl, hff, hms, hke, hcl⟩ := hx
      obtain ⟨pe, ce, hev, _⟩ := hke.shape
      subst hev
      obtain ⟨pf, cf, hfv, _⟩ := hcl.shape
      subst hfv
      have HFF : Hid (f = f1 ++ f2) := hff
      have HCS : Hid (∀ (j : Nat), j < 3 → cells[i * 3 + j]? = [Value.string x.name, .slice pe x.exports.length ce, .slice pf x.funs.length cf][j]?) := hcs
      have HOW : Hid (wr.ownsRow 0 42 3 (.slice (some ⟨g, 0, none⟩) n cap) n cells) := ho
      have HKE : Hid (ORows wr 44 2 (ORf wr d) (.slice pe x.exports.length ce) x.exports f1) := hke
      have HCL : Hid (ORows wr 52 3 (OFn wr d) (.slice pf x.funs.length cf) x.funs f2) := hcl
      have hcx : cntMS d x = 1 + ((x.exports.map cntR).sum + (x.funs.map (cntF d)).sum) := rfl
      have HSUM : Hid (k + ((es.take (i + 1)).map (cntMS d)).sum = kk + 1 + (x.exports.map cntR).sum + (x.funs.map (cntF d)).sum) := by show _ = _; omega
      have hk2a : kk + 1 + (x.exports.map cntR).sum ≤ 1099511627776 := by omega
      have HK2 : Hid (kk + 1 + (x.exports.map cntR).sum + (x.funs.map (cntF d)).sum ≤ 1099511627776) := by show _ ≤ _; omega
      have HN12 : Hid (f1.Nodup ∧ f2.Nodup ∧ ∀ a ∈ f1, ∀ b ∈ f2, a ≠ b) := by
        have := HFS.out.2.2.2
        rw [hff] at this
        exact List.nodup_append.1 this
      have lt1 : Hid (∀ a ∈ f1, a < wr.heap.size) := hke.lt (fun _ _ _ h => h.lt)
      have lt2 : Hid (∀ a ∈ f2, a < wr.heap.size) := hcl.lt (fun _ _ _ h => h.lt)
      have hn1 : Hid (g ∉ f1) := fun h => HFS.out.2.2.1 (by rw [hff]; simp [h])
      have hn2 : Hid (g ∉ f2) := fun h => HFS.out.2.2.1 (by rw [hff]; simp [h])
      have hkk2 : kk + 1 ≤ 1099511627776 := by omega
      have hgl : g < wr.heap.size := owns_lt ho rfl
      have hk11 : 1 ≤ kk := by omega
      clear ho hcs hcs4 hsum hle hkk hkb hcx hke hcl hff
      go_wp2_with fail
      refine (markText_at kk _ rfl (by omega) (by omega)).mono ?_
      rintro e w1 ⟨rfl, hb⟩
      have o1 := HOW.out.kept (grownBy_belowR (r := none) hb) (Or.inr (by simp [Value.ownBlock]))
      have e0 : w1.cell? ⟨g, i * 3, none⟩ = some (.string x.name) := by
        rw [o1.cellAt (i * 3) (by omega)]; exact HCS.out 0 (by omega)
      have z0 := o1.frozenAt (i * 3)
      have s1 := o1.stored (i * 3) (.string (mtext kk))
      have e1 : (w1.setCell ⟨g, i * 3, none⟩ (.string (mtext kk))).cell? ⟨g, i * 3 + 1, none⟩ = some (.slice pe x.exports.length ce) := by
        rw [s1.1.cellAt (i * 3 + 1) (by omega), List.getElem?_set_ne (by omega)]; exact HCS.out 1 (by omega)
      have hoff : Off [g] wr (w1.setCell ⟨g, i * 3, none⟩ (.string (mtext kk))) := (Off.of_below hb).trans (Off.of_grown s1.2 (by simp))
      have HOFF : Hid (Off [g] wr (w1.setCell ⟨g, i * 3, none⟩ (.string (mtext kk)))) := hoff
      have HS1 : Hid ((w1.setCell ⟨g, i * 3, none⟩ (.string (mtext kk))).ownsRow 0 42 3 (.slice (some ⟨g, 0, none⟩) n cap) n (cells.set (i * 3) (.string (mtext kk)))) := s1.1
      have hkeep : ∀ f', g ∉ f' → (∀ a ∈ f', a < wr.heap.size) → KeepOn f' wr (w1.setCell ⟨g, i * 3, none⟩ (.string (mtext kk))) := fun f' h1 h2 => hoff.keep (fun a ha => ⟨h2 a ha, fun hm => h1 (by rw [List.mem_singleton] at hm; exact hm ▸ ha)⟩)
      have hk1 := hkeep f1 hn1.out lt1.out
      have hk2 := hkeep f2 hn2.out lt2.out
      have HKE2 : Hid (ORows (w1.setCell ⟨g, i * 3, none⟩ (.string (mtext kk))) 44 2 (ORf (w1.setCell ⟨g, i * 3, none⟩ (.string (mtext kk))) d) (.slice pe x.exports.length ce) x.exports f1) := HKE.out.keep hk1 (fun cs x f' _ hs h => h)
      have HCL2 : Hid (ORows (w1.setCell ⟨g, i * 3, none⟩ (.string (mtext kk))) 52 3 (OFn (w1.setCell ⟨g, i * 3, none⟩ (.string (mtext kk))) d) (.slice pf x.funs.length cf) x.funs f2) := HCL.out.keep hk2 (fun cs x f' _ hs h => h.keep (hk2.sub hs))
      have HKP : Hid (∀ f', g ∉ f' → (∀ a ∈ f', a < wr.heap.size) → KeepOn f' wr (w1.setCell ⟨g, i * 3, none⟩ (.string (mtext kk)))) := hkeep
      clear s1 o1 hoff hb hk1 hk2 hkeep
      go_wp2_with fail
      clear e0 z0 e1
      refine ((markRS_all d).at x.exports f1 (kk + 1) _ (by omega) HKE2.out HN12.out.1 (by omega) hk2a).mono ?_
      rintro e w3 ⟨rfl, r3, off3⟩
      have ho3 : w3.ownsRow 0 42 3 (.slice (some ⟨g, 0, none⟩) n cap) n (cells.set (i * 3) (.string (mtext kk))) := owns_block HS1.out rfl (off3.block g (owns_lt HS1.out rfl) hn1.out)
      have HO3 : Hid (w3.ownsRow 0 42 3 (.slice (some ⟨g, 0, none⟩) n cap) n (cells.set (i * 3) (.string (mtext kk)))) := ho3
      have e2 : w3.cell? ⟨g, i * 3 + 2, none⟩ = some (.slice pf x.funs.length cf) := by
        rw [ho3.cellAt (i * 3 + 2) (by omega), List.getElem?_set_ne (by omega)]; exact HCS.out 2 (by omega)
      have k32 : KeepOn f2 (w1.setCell ⟨g, i * 3, none⟩ (.string (mtext kk))) w3 := off3.keep (fun a ha => ⟨HCL2.out.lt (fun _ _ _ h => h.lt) a ha, fun hm => HN12.out.2.2 a hm a ha rfl⟩)
      have HCL3 : Hid (ORows w3 52 3 (OFn w3 d) (.slice pf x.funs.length cf) x.funs f2) := HCL2.out.keep k32 (fun cs x f' _ hs h => h.keep (k32.sub hs))
      have HR3 : Hid (ORows w3 44 2 (ORf w3 d) (.slice pe x.exports.length ce) (markL markR cntR (kk + 1) x.exports) f1) := r3
      have HF3 : Hid (Off f1 (w1.setCell ⟨g, i * 3, none⟩ (.string (mtext kk))) w3) := off3
      have HMM : Hid (markMS d kk x = ⟨mtext kk, markL markR cntR (kk + 1) x.exports, markL (markF d) (cntF d) (kk + 1 + (x.exports.map cntR).sum) x.funs⟩) := rfl
      generalize hk3 : kk + 1 + (x.exports.map cntR).sum = k3 at *
      have HK3 : Hid (kk + 1 + (x.exports.map cntR).sum = k3) := hk3
      have hk31 : 1 ≤ k3 := by omega
      clear r3 off3 k32 ho3 hk3
      go_wp2_with fail
      clear e2
      refine ((markFS_all d).at x.funs f2 k3 _ rfl HCL3.out HN12.out.2.1 hk31 HK2.out).mono ?_
      rintro e w4 ⟨rfl, r4, off4⟩
      have hown : w4.ownsRow 0 42 3 (.slice (some ⟨g, 0, none⟩) n cap) n (cells.set (i * 3) (.string (mtext kk))) := owns_block HO3.out rfl (off4.block g (owns_lt HO3.out rfl) hn2.out)
      have k41 : KeepOn f1 w3 w4 := off4.keep (fun a ha => ⟨HR3.out.lt (fun _ _ _ h => h.lt) a ha, fun hm => HN12.out.2.2 a ha a hm rfl⟩)
      have hset := ORows.set (R := OMd wr d) (R' := OMd w4 d) (x' := markMS d kk x) (i := i) (f := f) HNE.out (by rw [HMX.out]; exact hown) (by rw [HMX.out]) (by rw [HMX.out]; exact hl) HAT.out hf
        (fun m hm => by rw [List.getElem?_set_ne (by omega)])
        [.string (mtext kk), .slice pe x.exports.length ce, .slice pf x.funs.length cf] rfl
        (fun j hj => by
          match j, hj with
          | 0, _ => exact List.getElem?_set_self (by omega)
          | 1, _ => rw [List.getElem?_set_ne (by omega)]; exact HCS.out 1 (by omega)
          | 2, _ => rw [List.getElem?_set_ne (by omega)]; exact HCS.out 2 (by omega))
        (by
          rw [HMM.out]
          exact ⟨_, _, f1, f2, rfl, HFF.out, mtext_ok (by omega), HR3.out.keep k41 (fun cs x f' _ hs h => h), r4⟩)
        (fun j y f' cs hj hf' h => h.keep (fun a ha => by
          have h1 := (HNG.out f' (List.mem_of_getElem? hf')).1
          have h2 := h.lt a ha
          have h3 := HNP.out j i f' _ hj hf' hf a ha
          have h31 : a ∉ f1 := fun hm => h3 (by rw [HFF.out]; simp [hm])
          have h32 : a ∉ f2 := fun hm => h3 (by rw [HFF.out]; simp [hm])
          have h5 := Nat.lt_of_lt_of_le h2 HOFF.out.size
          exact (off4.block a (Nat.lt_of_lt_of_le h5 HF3.out.size) h32).trans ((HF3.out.block a h5 h31).trans (HKP.out f' h1 h.lt a ha))))
      rw [mix_succ (by rw [HL.out, HN.out]) HMI.out, ← HFP.out] at hset
      have HSET : Hid (ORows w4 42 3 (OMd w4 d) (.slice (some ⟨g, 0, none⟩) n cap) (mix (i + 1) (markL (markMS d) (cntMS d) k es) es) fp) := hset
      have HF2 : Hid (Off fp w w4) := HF.out.trans ((HOFF.out.sub (fun a ha => by rw [List.mem_singleton] at ha; exact ha ▸ HFS.out.2.1)).trans ((HF3.out.sub (fun a ha => HFS.out.1 a (by rw [HFF.out]; simp [ha]))).trans (off4.sub (fun a ha => HFS.out.1 a (by rw [HFF.out]; simp [ha])))))
      clear hset hown r4 off4 k41
      go_wp2_with fail
      exact ⟨⟨i + 1, k3 + (x.funs.map (cntF d)).sum, by omega, by go_num, rfl, HSUM.out.symm, HSET, HF2⟩, by simp [intOf]; omega⟩
    · obtain rfl : i = n := by omega
      have HE : Hid (kk = k + (es.map (cntMS d)).sum) := by
        have := HK.out
        rw [List.take_of_length_le (by rw [HN.out]; exact Nat.le_refl _)] at this
        exact this
      have HR2 : Hid (ORows wr 42 3 (OMd wr d) (.slice p i cap) (markL (markMS d) (cntMS d) k es) fp) := by
        have := HR.out
        rw [mix_all (by rw [HL.out, HN.out]) (by rw [HN.out]; exact Nat.le_refl _)] at this
        exact this
      clear HR HO
      go_wp2_with fail
      go_ret
      exact ⟨by rw [HE.out]; rfl, HR2.out, HF.out⟩

theorem markMS_all (d : Nat) : MarkMS d := MarkMS_of
theorem cntMS_le (d : Nat) : ∀ (l : List Md), (l.map (cntMS d)).sum ≤ 5 * wtS (wtMd d) l
  | [] => by simp
  | m :: l => by
    have h1 := cntMS_le d l
    have h2 := cntM_le d m
    unfold wtS at *
    simp only [List.map_cons, List.sum_cons, List.length_cons]
    unfold cntMS at *
    omega
end Go.Proofs.YtigfmdfgioccjaaGreatDoor
/-
  The laws' eqProblemS, markProblemS and heldProblemS over rows of problems.
-/
namespace Go.Proofs.YtigfmdfgioccjaaGreatDoor
open Go.ChangeShapes Go.WideShapes Go.ChangeAt Go.RowKit
set_option linter.unusedVariables false

theorem len4P {cs : List Value} (h : cs.length = 4) : ∃ a b c d, cs = [a, b, c, d] := by
  match cs, h with
  | [a, b, c, d], _ => exact ⟨a, b, c, d, rfl⟩

set_option maxHeartbeats 2000000 in
theorem eqProblemS_of {d : Nat} (hE : EqC 23 (fun w v e => ∃ cs, v = .agg cs.toArray ∧ HPb cs e)) :
    EqC 9 (fun w v es => Rows w All 4 (HPb) v es) := by
  intro w v1 v2 es h1 h2
  obtain ⟨p, cap, rfl, hcl, hcm, hx⟩ := h1
  obtain ⟨q, cap', rfl, hcl', hcm', hy⟩ := h2
  generalize hn : es.length = n at *
  have HN : Hid (es.length = n) := hn
  have HX : Hid _ := hx
  have HY : Hid _ := hy
  have hnb : n ≤ 9223372036854775807 := by unfold maxLen at hcm; omega
  clear hx hy hn
  go_enter Tryz.func9, Tryz.ntmps9
  go_wp2
  go_loopw [5] (fun iv wr => ∃ k : Nat, k ≤ n ∧ iv = .int .i64 k ∧ Below w.heap.size w wr) (fun iv _ => n - (intOf iv).toNat)
  case atStart => exact ⟨0, Nat.zero_le _, rfl, Below.refl _ _⟩
  case round =>
    obtain ⟨k, hk, rfl, hb⟩ := hrel
    have HB : Hid (Below w.heap.size w wr) := hb
    by_cases hlt : k < n
    · obtain ⟨x, hxk⟩ : ∃ x, es[k]? = some x := ⟨es[k]'(by rw [HN.out]; exact hlt), List.getElem?_eq_getElem _⟩
      have hne : es ≠ [] := by intro h; rw [h] at hxk; simp at hxk
      obtain ⟨g, off, rfl, _, hgl, hat⟩ := HX.out hne
      obtain ⟨g', off', rfl, _, hgl', hat'⟩ := HY.out hne
      obtain ⟨cs, hcl6, hcs, hex⟩ := hat k x hxk
      obtain ⟨cs', hcl6', hcs', hex'⟩ := hat' k x hxk
      have E1 : ∀ w', SameOn All wr w' → HPb cs x := fun w' hw => hex
      have E2 : ∀ w', SameOn All wr w' → HPb cs' x := fun w' hw => hex'
      obtain ⟨c0, c1, c2, c3, rfl⟩ := len4P hcl6
      obtain ⟨d0, d1, d2, d3, rfl⟩ := len4P hcl6'
      have a0 := hcs 0 (by omega)
      have b0 := hcs' 0 (by omega)
      have a1 := hcs 1 (by omega)
      have b1 := hcs' 1 (by omega)
      have a2 := hcs 2 (by omega)
      have b2 := hcs' 2 (by omega)
      have a3 := hcs 3 (by omega)
      have b3 := hcs' 3 (by omega)
      rw [← hb.cell (p := ⟨g, _, none⟩) hgl] at a0 a1 a2 a3
      rw [← hb.cell (p := ⟨g', _, none⟩) hgl'] at b0 b1 b2 b3
      simp at a0 a1 a2 a3 b0 b1 b2 b3
      clear hb hcs hat hex hcl6 hcs' hat' hex' hcl6' hne
      go_wp2
      go_region_with ((go_at_call 23; refine (hE _ _ _ x ⟨_, rfl, E1 _ (by exact ⟨Nat.le_refl _, fun _ _ _ => rfl⟩)⟩ ⟨_, rfl, E2 _ (by exact ⟨Nat.le_refl _, fun _ _ _ => rfl⟩)⟩).mono ?_; rintro e w1 ⟨rfl, hb1⟩; have HB1 : Hid _ := hb1; clear hb1))
      all_goals go_wp2
      all_goals
        have hbe : Below w.heap.size w w1 := by
          refine Below.trans ?_ (HB1.out.mono (by exact HB.out.size))
          repeat (first | exact HB.out | apply Below.drew)
        exact ⟨⟨k + 1, by omega, by go_num, hbe⟩, by simp [intOf]; omega⟩
    · go_wp2
      go_ret
      exact ⟨rfl, HB.out⟩

set_option maxHeartbeats 2000000 in
theorem eqProblem_of {d : Nat}  :
    EqC 23 (fun w v e => ∃ cs, v = .agg cs.toArray ∧ HPb cs e) := by
  intro w v1 v2 e i1 i2
  obtain ⟨cs, rfl, rfl, p1, p2, p3, p4⟩ := i1
  obtain ⟨cs, rfl, rfl, p1', p2', p3', p4'⟩ := i2
  go_enter Tryz.func23, Tryz.ntmps23
  go_wp2
  go_ret
  exact ⟨rfl, ((Below.refl _ _).alloc (Nat.le_refl _) _).alloc (by simp) _⟩

theorem eqProblemS_all : EqC 9 (fun w v es => Rows w All 4 HPb v es) := eqProblemS_of (d := 0) (eqProblem_of (d := 0))

def OPb (_ : World) (_ : Nat) (cs : List Value) (r : Pb) (fp : List Nat) : Prop := HPb cs r ∧ fp = []
theorem OPb.lt {w : World} {d : Nat} {cs : List Value} {r : Pb} {fp : List Nat} (h : OPb w d cs r fp) : ∀ a ∈ fp, a < w.heap.size := by rw [h.2]; intro a ha; cases ha
def cntP (_ : Pb) : Nat := 4
def markP (k : Nat) (_ : Pb) : Pb := ⟨mtext k, mtext (k + 1), ((k : Int) + 2), mtext (k + 3)⟩
/-- What markProblemS answers and leaves. -/
def MarkPS (d : Nat) : Prop :=
  ∀ (w : World) (v : Value) (es : List Pb) (fp : List Nat) (k : Nat), ORows w 47 4 (OPb w d) v es fp → fp.Nodup → 1 ≤ k → k + (es.map cntP).sum ≤ 1099511627776 →
    Calls Tryz.prog 12 #[v, .int .i64 k] w fun e w' => e = .returned (.int .i64 ((k + (es.map cntP).sum : Nat) : Int)) ∧ ORows w' 47 4 (OPb w' d) v (markL markP cntP k es) fp ∧ Off fp w w'

set_option maxHeartbeats 16000000 in
theorem MarkPS_of {d : Nat}  : MarkPS d := by
  intro w v es fp k h hnd hk1 hkb
  obtain ⟨p, cap, rfl, hcl, hcm⟩ := h.shape
  have hnb : es.length ≤ 9223372036854775807 := by unfold maxLen at hcm; omega
  have HL : Hid ((markL (markP) (cntP) k es).length = es.length) := markL_length _ _ _ _
  have HO : Hid (ORows w 47 4 (OPb w d) (.slice p es.length cap) es fp) := h
  have HND : Hid fp.Nodup := hnd
  have HKB : Hid (k + (es.map (cntP)).sum ≤ 1099511627776) := hkb
  generalize hn : es.length = n at *
  have HN : Hid (es.length = n) := hn
  clear h hnd hn hkb
  go_enter Tryz.func12, Tryz.ntmps12
  go_wp2
  go_loopw [1, 5] (fun kv iv wr => ∃ i kk : Nat, i ≤ n ∧ iv = .int .i64 i ∧ kv = .int .i64 kk ∧ Hid (kk = k + ((es.take i).map (cntP)).sum) ∧ Hid (ORows wr 47 4 (OPb wr d) (.slice p n cap) (mix i (markL (markP) (cntP) k es) es) fp) ∧ Hid (Off fp w wr)) (fun _ iv _ => n - (intOf iv).toNat)
  case atStart => exact ⟨0, k, Nat.zero_le _, rfl, rfl, (by show k = _; simp), (by show ORows _ _ _ _ _ _ _; rw [mix_zero]; exact HO.out), Off.refl _ _⟩
  case round =>
    obtain ⟨i, kk, hi, rfl, rfl, HK, HR, HF⟩ := hrel
    by_cases hlt : i < n
    · obtain ⟨x, hxi⟩ : ∃ x, es[i]? = some x := ⟨es[i]'(by rw [HN.out]; exact hlt), List.getElem?_eq_getElem _⟩
      have hml : (mix i (markL (markP) (cntP) k es) es).length = n := by rw [mix_length (by rw [HL.out, HN.out]), HN.out]
      have hmx : (mix i (markL (markP) (cntP) k es) es)[i]? = some x := by rw [mix_at (by rw [HL.out, HN.out]) (by rw [HN.out]; exact hlt)]; exact hxi
      have HMX : Hid ((mix i (markL (markP) (cntP) k es) es).length = n) := hml
      rcases HR.out with hnil | ⟨hne, cells, g, cap', fps, ho, hv, hl, hfp, hat⟩
      · rw [hnil.1] at hml; simp at hml; omega
      rw [hml] at ho hv hl
      obtain ⟨f, hf⟩ : ∃ f, fps[i]? = some f := ⟨fps[i]'(by rw [hl]; exact hlt), List.getElem?_eq_getElem _⟩
      obtain ⟨cs, hcs4, hcs, hx⟩ := hat i x f hmx hf
      cases hv
      have hlc : cells.length = n * 4 := ho.1
      have hnp := nodup_parts (hfp ▸ HND.out)
      have hsum : ((es.take (i + 1)).map (cntP)).sum = ((es.take i).map (cntP)).sum + cntP x := sum_take_succ _ es i x hxi
      have hle : ((es.take (i + 1)).map (cntP)).sum ≤ (es.map (cntP)).sum := sum_take_le _ es (i + 1)
      have hkk := HK.out
      have hkb := HKB.out
      have hg0 : g ∈ fp := by rw [hfp]; simp
      have hfs : ∀ a ∈ f, a ∈ fp := fun a ha => by rw [hfp]; exact List.mem_cons_of_mem _ (List.mem_flatten.2 ⟨f, List.mem_of_getElem? hf, ha⟩)
      have hgf : g ∉ f := (hnp.1 f (List.mem_of_getElem? hf)).1
      have hfn : f.Nodup := (hnp.1 f (List.mem_of_getElem? hf)).2
      have HMI : Hid ((markL (markP) (cntP) k es)[i]? = some ((markP) kk x)) := by
        show _ = _
        rw [markL_at _ _ _ _ _ _ hxi, ← HK.out]
      have HAT : Hid (∀ (j : Nat) y f', (mix i (markL (markP) (cntP) k es) es)[j]? = some y → fps[j]? = some f' → ∃ cs : List Value, cs.length = 4 ∧ (∀ q, q < 4 → cells[j * 4 + q]? = cs[q]?) ∧ OPb wr d cs y f') := hat
      have HNP : Hid (∀ (i j : Nat) f f', i ≠ j → fps[i]? = some f → fps[j]? = some f' → ∀ a ∈ f, a ∉ f') := hnp.2
      have HNG : Hid (∀ f ∈ fps, g ∉ f ∧ f.Nodup) := hnp.1
      have HFP : Hid (fp = g :: fps.flatten) := hfp
      have HNE : Hid (mix i (markL (markP) (cntP) k es) es ≠ []) := hne
      have HFS : Hid ((∀ a ∈ f, a ∈ fp) ∧ g ∈ fp ∧ g ∉ f ∧ f.Nodup) := ⟨hfs, hg0, hgf, hfn⟩
      have hki : (i : Int) < (n : Int) := by omega
      have hi0 : (0 : Int) ≤ (i : Int) := by omega
      clear hat hnp hfp hne hfs hg0 hgf hfn hml hmx HKB HO
      obtain ⟨⟨rfl, hrs1, hrs2, hri, hrs3⟩, rfl⟩ := hx
      have HCS : Hid (∀ (j : Nat), j < 4 → cells[i * 4 + j]? = [Value.string x.mod, .string x.name, .int .i64 x.arity, .string x.code][j]?) := hcs
      have HOW : Hid (wr.ownsRow 0 47 4 (.slice (some ⟨g, 0, none⟩) n cap) n cells) := ho
      have hcx : cntP x = 4 := rfl
      have HSUM : Hid (k + ((es.take (i + 1)).map cntP).sum = kk + 4) := by show _ = _; omega
      have hkk2 : kk + 4 ≤ 1099511627776 := by omega
      have hgl : g < wr.heap.size := owns_lt ho rfl
      have hk11 : 1 ≤ kk := by omega
      clear ho hcs hcs4 hsum hle hkk hkb hcx
      go_wp2_with fail
      refine (markText_at kk _ rfl (by omega) (by omega)).mono ?_
      rintro e w1 ⟨rfl, hb⟩
      have o1 := HOW.out.kept (grownBy_belowR (r := none) hb) (Or.inr (by simp [Value.ownBlock]))
      have e0 : w1.cell? ⟨g, i * 4, none⟩ = some (.string x.mod) := by
        rw [o1.cellAt (i * 4) (by omega)]; exact HCS.out 0 (by omega)
      have z0 := o1.frozenAt (i * 4)
      have s1 := o1.stored (i * 4) (.string (mtext kk))
      have HS1 : Hid ((w1.setCell ⟨g, i * 4, none⟩ (.string (mtext kk))).ownsRow 0 47 4 (.slice (some ⟨g, 0, none⟩) n cap) n (cells.set (i * 4) (.string (mtext kk)))) := s1.1
      have HF1 : Hid (Off [g] wr (w1.setCell ⟨g, i * 4, none⟩ (.string (mtext kk)))) := (Off.of_below hb).trans (Off.of_grown s1.2 (by simp))
      clear s1 o1 hb
      go_wp2_with fail
      clear e0 z0
      refine (markText_at (kk + 1) _ (by omega) (by omega) (by omega)).mono ?_
      rintro e w2 ⟨rfl, hb⟩
      have o2 := HS1.out.kept (grownBy_belowR (r := none) hb) (Or.inr (by simp [Value.ownBlock]))
      have e1 : w2.cell? ⟨g, i * 4 + 1, none⟩ = some (.string x.name) := by
        rw [o2.cellAt (i * 4 + 1) (by omega), List.getElem?_set_ne (by omega)]; exact HCS.out 1 (by omega)
      have z1 := o2.frozenAt (i * 4 + 1)
      have s2 := o2.stored (i * 4 + 1) (.string (mtext (kk + 1)))
      have e2 : (w2.setCell ⟨g, i * 4 + 1, none⟩ (.string (mtext (kk + 1)))).cell? ⟨g, i * 4 + 2, none⟩ = some (.int .i64 x.arity) := by
        rw [s2.1.cellAt (i * 4 + 2) (by omega), List.getElem?_set_ne (by omega), List.getElem?_set_ne (by omega)]; exact HCS.out 2 (by omega)
      have z2 := s2.1.frozenAt (i * 4 + 2)
      have s3 := s2.1.stored (i * 4 + 2) (.int .i64 ((kk : Int) + 2))
      have HS3 : Hid (((w2.setCell ⟨g, i * 4 + 1, none⟩ (.string (mtext (kk + 1)))).setCell ⟨g, i * 4 + 2, none⟩ (.int .i64 ((kk : Int) + 2))).ownsRow 0 47 4 (.slice (some ⟨g, 0, none⟩) n cap) n (((cells.set (i * 4) (.string (mtext kk))).set (i * 4 + 1) (.string (mtext (kk + 1)))).set (i * 4 + 2) (.int .i64 ((kk : Int) + 2)))) := s3.1
      have HF3 : Hid (Off [g] wr ((w2.setCell ⟨g, i * 4 + 1, none⟩ (.string (mtext (kk + 1)))).setCell ⟨g, i * 4 + 2, none⟩ (.int .i64 ((kk : Int) + 2)))) := HF1.out.trans ((Off.of_below hb).trans ((Off.of_grown s2.2 (by simp)).trans (Off.of_grown s3.2 (by simp))))
      clear s2 s3 o2 hb
      go_wp2_with fail
      clear e1 z1 e2 z2
      refine (markText_at (kk + 3) _ (by omega) (by omega) (by omega)).mono ?_
      rintro e w3 ⟨rfl, hb⟩
      have o3 := HS3.out.kept (grownBy_belowR (r := none) hb) (Or.inr (by simp [Value.ownBlock]))
      have e3 : w3.cell? ⟨g, i * 4 + 3, none⟩ = some (.string x.code) := by
        rw [o3.cellAt (i * 4 + 3) (by omega), List.getElem?_set_ne (by omega), List.getElem?_set_ne (by omega), List.getElem?_set_ne (by omega)]; exact HCS.out 3 (by omega)
      have z3 := o3.frozenAt (i * 4 + 3)
      have s4 := o3.stored (i * 4 + 3) (.string (mtext (kk + 3)))
      have hoff : Off [g] wr (w3.setCell ⟨g, i * 4 + 3, none⟩ (.string (mtext (kk + 3)))) := HF3.out.trans ((Off.of_below hb).trans (Off.of_grown s4.2 (by simp)))
      have hset := ORows.set (R := OPb wr d) (R' := OPb (w3.setCell ⟨g, i * 4 + 3, none⟩ (.string (mtext (kk + 3)))) d) (x' := markP kk x) (i := i) (f := []) HNE.out (by rw [HMX.out]; exact s4.1) (by rw [HMX.out]) (by rw [HMX.out]; exact hl) HAT.out hf
        (fun m hm => by rw [List.getElem?_set_ne (by omega), List.getElem?_set_ne (by omega), List.getElem?_set_ne (by omega), List.getElem?_set_ne (by omega)])
        [.string (mtext kk), .string (mtext (kk + 1)), .int .i64 ((kk : Int) + 2), .string (mtext (kk + 3))] rfl
        (fun j hj => by
          match j, hj with
          | 0, _ => rw [List.getElem?_set_ne (by omega), List.getElem?_set_ne (by omega), List.getElem?_set_ne (by omega)]; exact List.getElem?_set_self (by omega)
          | 1, _ => rw [List.getElem?_set_ne (by omega), List.getElem?_set_ne (by omega), List.getElem?_set_self (by rw [List.length_set]; omega)]; rfl
          | 2, _ => rw [List.getElem?_set_ne (by omega), List.getElem?_set_self (by rw [List.length_set, List.length_set]; omega)]; rfl
          | 3, _ => rw [List.getElem?_set_self (by rw [List.length_set, List.length_set, List.length_set]; omega)]; rfl)
        ⟨⟨rfl, mtext_ok (by omega), mtext_ok (by omega), nat_ok (n := kk + 2) (by omega), mtext_ok (by omega)⟩, rfl⟩
        (fun j y f' cs hj hf' h => h)
      rw [mix_succ (by rw [HL.out, HN.out]) HMI.out, ← HFP.out] at hset
      have HSET : Hid (ORows (w3.setCell ⟨g, i * 4 + 3, none⟩ (.string (mtext (kk + 3)))) 47 4 (OPb (w3.setCell ⟨g, i * 4 + 3, none⟩ (.string (mtext (kk + 3)))) d) (.slice (some ⟨g, 0, none⟩) n cap) (mix (i + 1) (markL markP cntP k es) es) fp) := hset
      have HF2 : Hid (Off fp w (w3.setCell ⟨g, i * 4 + 3, none⟩ (.string (mtext (kk + 3))))) := HF.out.trans (hoff.sub (fun a ha => by rw [List.mem_singleton] at ha; exact ha ▸ HFS.out.2.1))
      clear hset s4 o3 hoff hb HF1 HF3 HS1 HS3
      go_wp2_with fail
      exact ⟨⟨i + 1, kk + 4, by omega, by go_num, by go_num, HSUM.out.symm, HSET, HF2⟩, by simp [intOf]; omega⟩
    · obtain rfl : i = n := by omega
      have HE : Hid (kk = k + (es.map (cntP)).sum) := by
        have := HK.out
        rw [List.take_of_length_le (by rw [HN.out]; exact Nat.le_refl _)] at this
        exact this
      have HR2 : Hid (ORows wr 47 4 (OPb wr d) (.slice p i cap) (markL (markP) (cntP) k es) fp) := by
        have := HR.out
        rw [mix_all (by rw [HL.out, HN.out]) (by rw [HN.out]; exact Nat.le_refl _)] at this
        exact this
      clear HR HO
      go_wp2_with fail
      go_ret
      exact ⟨by rw [HE.out]; rfl, HR2.out, HF.out⟩

theorem markPS_all (d : Nat) : MarkPS d := MarkPS_of

/-- What heldProblemS answers of marks. -/
def HeldPS : Prop := ∀ (w : World) (v : Value) (es : List Pb) (k : Nat), Rows w All 4 HPb v (markL markP cntP k es) → 1 ≤ k → k + (es.map cntP).sum ≤ 1099511627776 →
    Calls Tryz.prog 13 #[v, .int .i64 k] w fun e w' => e = .returned (.int .i64 ((k + (es.map cntP).sum : Nat) : Int)) ∧ Below w.heap.size w w'
set_option maxHeartbeats 16000000 in
theorem heldPS_all : HeldPS := by
  intro w v es k h hk1 hkb
  obtain ⟨p, cap, rfl, hcl, hcm, hx⟩ := h
  rw [markL_length] at *
  have hnb : es.length ≤ 9223372036854775807 := by unfold maxLen at hcm; omega
  have HX : Hid (markL markP cntP k es ≠ [] → ∃ g off, p = some ⟨g, off, none⟩ ∧ All g ∧ g < w.heap.size ∧ ∀ i x, (markL markP cntP k es)[i]? = some x → ∃ cs, cs.length = 4 ∧ (∀ j, j < 4 → w.cell? ⟨g, off + i * 4 + j, none⟩ = cs[j]?) ∧ HPb cs x) := hx
  have HKB : Hid (k + (es.map cntP).sum ≤ 1099511627776) := hkb
  generalize hn : es.length = n at *
  have HN : Hid (es.length = n) := hn
  clear hx hn hkb
  go_enter Tryz.func13, Tryz.ntmps13
  go_wp2
  go_loopw [1, 5] (fun kv iv wr => ∃ i kk : Nat, i ≤ n ∧ iv = .int .i64 i ∧ kv = .int .i64 kk ∧ Hid (kk = k + ((es.take i).map cntP).sum) ∧ Hid (Below w.heap.size w wr)) (fun _ iv _ => n - (intOf iv).toNat)
  case atStart => exact ⟨0, k, Nat.zero_le _, rfl, rfl, (by show k = _; simp), Below.refl _ _⟩
  case round =>
    obtain ⟨i, kk, hi, rfl, rfl, HK, HB⟩ := hrel
    by_cases hlt : i < n
    · obtain ⟨x, hxi⟩ : ∃ x, es[i]? = some x := ⟨es[i]'(by rw [HN.out]; exact hlt), List.getElem?_eq_getElem _⟩
      have hmi : (markL markP cntP k es)[i]? = some (markP kk x) := by rw [markL_at _ _ _ _ _ _ hxi, ← HK.out]
      obtain ⟨g, off, rfl, -, hgl, hat⟩ := HX.out (by intro h; rw [h] at hmi; simp at hmi)
      obtain ⟨cs, hcsl, hcs, rfl, -, -, -, -⟩ := hat i _ hmi
      have a0 := hcs 0 (by omega)
      have a1 := hcs 1 (by omega)
      have a2 := hcs 2 (by omega)
      have a3 := hcs 3 (by omega)
      rw [← HB.out.cell (p := ⟨g, _, none⟩) hgl] at a0 a1 a2 a3
      simp [markP] at a0 a1 a2 a3
      have hsum : ((es.take (i + 1)).map cntP).sum = ((es.take i).map cntP).sum + cntP x := sum_take_succ _ es i x hxi
      have hle : ((es.take (i + 1)).map cntP).sum ≤ (es.map cntP).sum := sum_take_le _ es (i + 1)
      have hkk := HK.out
      have hkb := HKB.out
      have hcx : cntP x = 4 := rfl
      have HSUM : Hid (k + ((es.take (i + 1)).map cntP).sum = kk + 4) := by show _ = _; omega
      have hkk2 : kk + 4 ≤ 1099511627776 := by omega
      have hk11 : 1 ≤ kk := by omega
      have hki : (i : Int) < (n : Int) := by omega
      have hi0 : (0 : Int) ≤ (i : Int) := by omega
      have A1 : Hid (wr.cell? ⟨g, off + i * 4 + 1, none⟩ = some (.string (mtext (kk + 1)))) := a1
      have A2 : Hid (wr.cell? ⟨g, off + i * 4 + 2, none⟩ = some (.int .i64 ((kk : Int) + 2))) := a2
      have A3 : Hid (wr.cell? ⟨g, off + i * 4 + 3, none⟩ = some (.string (mtext (kk + 3)))) := a3
      have hgw : g < wr.heap.size := Nat.lt_of_lt_of_le hgl HB.out.size
      have q0 : ∀ m' : Wd (fun w' => SameOn All wr w' ∧ Below w.heap.size w w'), m'.val.cell? ⟨g, off + i * 4, none⟩ = some (.string (mtext kk)) := fun m' => (World.cell?_of_block (m'.ok.1.2 g trivial hgw)).trans a0
      clear hat hcs hcsl hsum hle hkk hkb hcx HX HKB hmi a0 a1 a2 a3
      go_wp2_with fail
      have hCne : Nonempty (Wd (fun w' => SameOn All wr w' ∧ Below w.heap.size w w')) := ⟨⟨wr.drew, ⟨⟨Nat.le_refl _, fun _ _ _ => rfl⟩, HB.out.drew⟩⟩⟩
      refine wp_region_class (fun w' => SameOn All wr w' ∧ Below w.heap.size w w') (by kernel_rfl) (by kernel_rfl) ⟨⟨Nat.le_refl _, fun _ _ _ => rfl⟩, HB.out.drew⟩ ?_
      repeat (go_big_quiet_step (first | (rename_i m'; go_at_call 25; refine (markText_at kk _ (by omega) (by omega) (by omega)).mono ?_; rintro e w1 ⟨rfl, hb1⟩; exact ⟨rfl, ⟨⟨w1, ⟨(SameOn.trans m'.ok.1 (SameOn.of_below hb1)), m'.ok.2.trans (hb1.mono m'.ok.2.size)⟩⟩, rfl⟩⟩)))
      refine wpQuiet_nil ?_
      rintro _ ⟨mq, rfl⟩
      have hbe := mq.ok.2
      have hse := mq.ok.1
      generalize mq.val = v1 at hbe hse ⊢
      have hg1 : g < v1.heap.size := Nat.lt_of_lt_of_le hgw hse.1
      have HSE : Hid (SameOn All wr v1) := hse
      have HB1 : Hid (Below w.heap.size w v1) := hbe
      have q1 : ∀ m' : Wd (fun w' => SameOn All v1 w' ∧ Below w.heap.size w w'), m'.val.cell? ⟨g, off + i * 4 + 1, none⟩ = some (.string (mtext (kk + 1))) := fun m' => (World.cell?_of_block (m'.ok.1.2 g trivial hg1)).trans ((World.cell?_of_block (HSE.out.2 g trivial hgw)).trans A1.out)
      clear q0 hbe hse
      go_wp2_with fail
      have hCne1 : Nonempty (Wd (fun w' => SameOn All v1 w' ∧ Below w.heap.size w w')) := ⟨⟨v1.drew, ⟨⟨Nat.le_refl _, fun _ _ _ => rfl⟩, HB1.out.drew⟩⟩⟩
      refine wp_region_class (fun w' => SameOn All v1 w' ∧ Below w.heap.size w w') (by kernel_rfl) (by kernel_rfl) ⟨⟨Nat.le_refl _, fun _ _ _ => rfl⟩, HB1.out.drew⟩ ?_
      repeat (go_big_quiet_step (first | (rename_i m'; go_at_call 25; refine (markText_at (kk + 1) _ (by omega) (by omega) (by omega)).mono ?_; rintro e w1 ⟨rfl, hb1⟩; exact ⟨rfl, ⟨⟨w1, ⟨(SameOn.trans m'.ok.1 (SameOn.of_below hb1)), m'.ok.2.trans (hb1.mono m'.ok.2.size)⟩⟩, rfl⟩⟩)))
      refine wpQuiet_nil ?_
      rintro _ ⟨mq, rfl⟩
      have hbe := mq.ok.2
      have hse := mq.ok.1
      generalize mq.val = v2 at hbe hse ⊢
      have hg2 : g < v2.heap.size := Nat.lt_of_lt_of_le hg1 hse.1
      have HSE2 : Hid (SameOn All wr v2) := HSE.out.trans hse
      have HB2 : Hid (Below w.heap.size w v2) := hbe
      have a2' : v2.cell? ⟨g, off + i * 4 + 2, none⟩ = some (.int .i64 ((kk : Int) + 2)) := (World.cell?_of_block (HSE2.out.2 g trivial hgw)).trans A2.out
      have q3 : ∀ m' : Wd (fun w' => SameOn All v2 w' ∧ Below w.heap.size w w'), m'.val.cell? ⟨g, off + i * 4 + 3, none⟩ = some (.string (mtext (kk + 3))) := fun m' => (World.cell?_of_block (m'.ok.1.2 g trivial hg2)).trans ((World.cell?_of_block (HSE2.out.2 g trivial hgw)).trans A3.out)
      clear q1 hbe hse
      go_wp2_with fail
      have hCne2 : Nonempty (Wd (fun w' => SameOn All v2 w' ∧ Below w.heap.size w w')) := ⟨⟨v2.drew, ⟨⟨Nat.le_refl _, fun _ _ _ => rfl⟩, HB2.out.drew⟩⟩⟩
      refine wp_region_class (fun w' => SameOn All v2 w' ∧ Below w.heap.size w w') (by kernel_rfl) (by kernel_rfl) ⟨⟨Nat.le_refl _, fun _ _ _ => rfl⟩, HB2.out.drew⟩ ?_
      repeat (go_big_quiet_step (first | (rename_i m'; go_at_call 25; refine (markText_at (kk + 3) _ (by omega) (by omega) (by omega)).mono ?_; rintro e w1 ⟨rfl, hb1⟩; exact ⟨rfl, ⟨⟨w1, ⟨(SameOn.trans m'.ok.1 (SameOn.of_below hb1)), m'.ok.2.trans (hb1.mono m'.ok.2.size)⟩⟩, rfl⟩⟩)))
      refine wpQuiet_nil ?_
      rintro _ ⟨mq, rfl⟩
      have hbe := mq.ok.2
      have hse := mq.ok.1
      generalize mq.val = v3 at hbe hse ⊢
      have HB3 : Hid (Below w.heap.size w v3) := hbe
      clear q3 hbe hse a2'
      go_wp2_with fail
      exact ⟨⟨i + 1, kk + 4, by omega, by go_num, by go_num, HSUM.out.symm, HB3.out⟩, by simp [intOf]; omega⟩
    · obtain rfl : i = n := by omega
      have HE : Hid (kk = k + (es.map cntP).sum) := by
        have := HK.out
        rw [List.take_of_length_le (by rw [HN.out]; exact Nat.le_refl _)] at this
        exact this
      go_wp2_with fail
      go_ret
      exact ⟨by rw [HE.out]; rfl, HB.out⟩

/-! Rows of problems that own their memory. -/
def OPs (w : World) (v : Value) (l : List Pb) (fp : List Nat) : Prop := ORows w 47 4 (OPb w 0) v l fp
theorem OPs.keeps : KeepsO OPs := fun w w' v x fp h hk => ORows.keep h hk (fun cs x f _ hs h => h)
theorem OPs.rows {w : World} {B C : Nat} {v : Value} {l : List Pb} (h : OwnT OPs w B C v l) : Rows w All 4 HPb v l := by
  obtain ⟨fp, h1, -⟩ := h
  exact ORows.rows h1 (fun _ _ => trivial) (fun cs x f _ hs h => h.1)
theorem OPs.of {w : World} {B : Nat} {v : Value} {l : List Pb} (h : OwnG 47 4 HPb w B v l) : OwnT OPs w B w.heap.size v l := by
  obtain ⟨⟨cells, h, hc⟩, hB⟩ := h
  rcases h.2 with ⟨rfl, hn⟩ | ⟨g, cap, cur, rfl, hb, hg, h1, h2, h3, h4⟩
  · obtain rfl := List.length_eq_zero_iff.1 hn
    exact ⟨[], .inl ⟨rfl, rfl, _, _, rfl, Nat.zero_le _⟩, by simp, fun a ha => by simp at ha, hB, Nat.le_refl _⟩
  · by_cases hne : l = []
    · subst hne
      exact ⟨[], .inl ⟨rfl, rfl, _, _, rfl, h2⟩, by simp, fun a ha => by simp at ha, hB, Nat.le_refl _⟩
    · have hgl : g < w.heap.size := (Array.getElem?_eq_some_iff.1 hg).1
      refine ⟨[g], .inr ⟨hne, cells, g, cap, l.map (fun _ => []), ⟨h.1, .inr ⟨g, cap, cur, rfl, Nat.zero_le _, hg, h1, h2, h3, h4⟩⟩, rfl, by simp, ?_, fun i x f hi hf => ?_⟩, by simp, fun a ha => ?_, hB, Nat.le_refl _⟩
      · have : (l.map fun _ => ([] : List Nat)).flatten = [] := by
          rw [List.flatten_eq_nil_iff]; intro x hx; simp at hx; exact hx.2
        rw [this]
      · rw [List.getElem?_map, hi] at hf
        simp at hf
        subst hf
        obtain ⟨cs, k1, k2, k3⟩ := hc.2 i x hi
        exact ⟨cs, k1, k2, k3, rfl⟩
      · rw [List.mem_singleton] at ha
        subst ha
        exact ⟨hb, hgl⟩
theorem cntPS_eq : ∀ (l : List Pb), (l.map cntP).sum = 4 * l.length
  | [] => rfl
  | x :: l => by
    have := cntPS_eq l
    simp only [List.map_cons, List.sum_cons, List.length_cons, cntP] at *
    omega
theorem eqPs_own {w : World} {B1 C1 B2 C2 : Nat} {u1 u2 : Value} {l : List Pb} (h1 : OwnT OPs w B1 C1 u1 l) (h2 : OwnT OPs w B2 C2 u2 l) :
    Calls Tryz.prog 9 #[u1, u2] w fun e w' => e = .returned (.bool true) ∧ Below w.heap.size w w' :=
  eqProblemS_all w u1 u2 l (OPs.rows h1) (OPs.rows h2)
theorem markPs_own {w : World} {B C : Nat} {u : Value} {l : List Pb} (h : OwnT OPs w B C u l) (hl : l.length ≤ 2097152) :
    Calls Tryz.prog 12 #[u, .int .i64 1] w fun e w' => e = .returned (.int .i64 ((1 + 4 * l.length : Nat) : Int)) ∧ OwnT OPs w' B C u (markL markP cntP 1 l) ∧ OffR B C w w' := by
  obtain ⟨fp, h1, h2, h3, h4, h5⟩ := h
  have hc := cntPS_eq l
  refine (markPS_all 0 w u l fp 1 h1 h2 (Nat.le_refl _) (by omega)).mono ?_
  rintro e w' ⟨rfl, ho, hoff⟩
  exact ⟨by rw [hc], ⟨fp, ho, h2, h3, h4, Nat.le_trans h5 hoff.size⟩, OffR.of hoff h3⟩
theorem heldPs_own {w : World} {B C : Nat} {u : Value} {l : List Pb} (h : OwnT OPs w B C u (markL markP cntP 1 l)) (hl : l.length ≤ 2097152) :
    Calls Tryz.prog 13 #[u, .int .i64 1] w fun e w' => e = .returned (.int .i64 ((1 + 4 * l.length : Nat) : Int)) ∧ Below w.heap.size w w' := by
  have hc := cntPS_eq l
  rw [← hc]
  exact heldPS_all w u l 1 (OPs.rows h) (Nat.le_refl _) (by omega)
end Go.Proofs.YtigfmdfgioccjaaGreatDoor
/-
  The law of Check, walked: at every row of modules.
-/
namespace Go.Proofs.YtigfmdfgioccjaaGreatDoor
open Go.ChangeShapes Go.WideShapes Go.ChangeAt Go.RowKit
set_option linter.unusedVariables false
set_option maxRecDepth 100000

theorem checkP_len (d : Nat) (ms : List Md) (h : wtS (wtMd d) ms ≤ 1048576) : (checkP d ms).length ≤ 2097152 := by
  unfold checkP
  split
  · have := allP_len ms ms d
    omega
  · simp

set_option maxHeartbeats 16000000 in
theorem fnExactCheck_walk (w : World) (d : Nat) (v : Value) (ms : List Md) (h : Rows w (fun g => g < w.heap.size) 3 (HMd w (fun g => g < w.heap.size) d) v ms) (hT : Tabs w) :
    Calls Tryz.prog 3 #[v] w fun e w' => e = .returned (.bool true) ∧ Below w.heap.size w w' := by
  have HTAB : Hid (Tabs w) := hT
  have Z : Hid (Rows w (fun g => g < w.heap.size) 3 (HMd w (fun g => g < w.heap.size) d) v ms) := h
  have H : Hid (∀ w', Below w.heap.size w w' → Rows w' All 3 (HMd w' All d) v ms) := fun w' hw => h.mono (SameOn.of_below hw) (fun _ _ => trivial) (fun _ _ _ h => h.mono (SameOn.of_below hw) (fun _ _ => trivial))
  obtain ⟨p, cap, rfl, -⟩ := h
  generalize hx : wtS (wtMd d) ms = x at *
  have HX : Hid (wtS (wtMd d) ms = x) := hx
  generalize hr0 : leftOf 1048576 x = r at *
  have SZ : Hid (Calls Tryz.prog 5 #[.slice p ms.length cap, .int .i64 1048576] w fun e w' => e = .returned (.int .i64 r) ∧ Below w.heap.size w w') := by
    have := (szModuleS_all (N := w.heap.size) d).at ms (1048576 : Int) 1048576 rfl Z.out (Nat.le_refl _)
    rw [HX.out, hr0] at this
    exact this
  by_cases hw : 1048576 < x
  · have hr : r = -1 := by rw [← hr0]; exact leftOf_lt hw
    subst hr
    go_enter Tryz.func3, Tryz.ntmps3
    go_wp2_with fail
    refine SZ.out.mono ?_
    rintro e w1 ⟨rfl, hb⟩
    have B1 : Hid (Below w.heap.size w w1) := hb
    clear hb
    go_wp2_with fail
    go_ret
    exact ⟨rfl, B1.out⟩
  · obtain ⟨q, rfl⟩ : ∃ q : Nat, r = (q : Int) := ⟨1048576 - x, by rw [← hr0]; exact leftOf_ge (by omega)⟩
    have HW : Hid (wtS (wtMd d) ms ≤ 1048576) := by show _ ≤ _; rw [HX.out]; omega
    have TO : Hid (∀ w', Below w.heap.size w w' → Calls Tryz.prog 7 #[.slice p ms.length cap] w' fun e w'' => ∃ pu cu fp, e = .returned (.slice pu ms.length cu) ∧ ORows w'' 42 3 (OMd w'' d) (.slice pu ms.length cu) ms fp ∧ fp.Nodup ∧ (∀ a ∈ fp, w'.heap.size ≤ a ∧ a < w''.heap.size) ∧ Below w'.heap.size w' w'') := fun w' hw => by
      refine (toModuleS_own d w' _ ms (H.out w' hw) HW.out).mono ?_
      rintro e w'' ⟨u, fp, rfl, ho, hn, hr, hb⟩
      obtain ⟨pu, cu, rfl, -⟩ := ho.shape
      exact ⟨pu, cu, fp, rfl, ho, hn, hr, hb⟩
    have HCN : Hid (1 + (ms.map (cntMS d)).sum ≤ 1099511627776) := by
      show _ ≤ _
      have := cntMS_le d ms
      have := HW.out
      omega
    have hl : Hid ((checkP d ms).length ≤ 2097152) := checkP_len d ms HW.out
    have SP : Hid (∀ w' v, Rows w' All 3 (HMd w' All d) v ms → Calls Tryz.prog 6 #[v] w' fun e w'' => ∃ u, e = .returned u ∧ OwnT OPs w'' w'.heap.size w''.heap.size u (checkP d ms) ∧ Below w'.heap.size w' w'') := fun w' v hr => by
      refine (specCheck_any d w' v ms hr HW.out).mono ?_
      rintro e w'' ⟨u, rfl, ho, hb⟩
      exact ⟨u, rfl, OPs.of ho, hb⟩
    have IM : Hid (∀ w' v, Below w.heap.size w w' → Rows w' All 3 (HMd w' All d) v ms → Calls Tryz.prog 8 #[v] w' fun e w'' => ∃ u, e = .returned u ∧ OwnT OPs w'' w'.heap.size w''.heap.size u (checkP d ms) ∧ Below w'.heap.size w' w'') := fun w' v hb hr => by
      refine (implCheck_any d w' v ms (HTAB.out.below hb) hr HW.out).mono ?_
      rintro e w'' ⟨u, rfl, ho, hb⟩
      exact ⟨u, rfl, OPs.of ho, hb⟩
    clear hr0 hx hw
    have hq : ¬ (q : Int) < 0 := by omega
    generalize hn : ms.length = n at *
    generalize hLF : checkP d ms = LF at *
    clear hn hLF
    go_enter Tryz.func3, Tryz.ntmps3
    go_wp2_with fail
    refine SZ.out.mono ?_
    rintro e w1 ⟨rfl, hb⟩
    have B1 : Hid (Below w.heap.size w w1) := hb
    clear hb
    go_wp2_with fail
    refine (TO.out _ (by first | exact B1.out | exact B1.out.drew)).mono ?_
    rintro e w2 ⟨pa, ca, fpa, rfl, ho, hnd, hrg, hb⟩
    have OXa2 : Hid (ORows w2 42 3 (OMd w2 d) (.slice pa n ca) ms fpa) := ho
    have RGa : Hid (fpa.Nodup ∧ ∀ a ∈ fpa, w1.heap.size ≤ a ∧ a < w2.heap.size) := (by first | exact ⟨hnd, hrg⟩ | exact ⟨hnd, fun a ha => hrg a ha⟩)
    have K2 : Hid (Below w1.heap.size w1 w2) := (by first | exact hb | exact ⟨hb.os, hb.tape, hb.output, hb.size, hb.block⟩)
    have B2 : Hid (Below w.heap.size w w2) := B1.out.trans (K2.out.mono B1.out.size)
    clear hb ho hnd hrg
    go_wp2_with fail
    refine (SP.out _ _ (oms_tree OXa2.out)).mono ?_
    rintro e w3 ⟨uw, rfl, ho, hb⟩
    have Ow3 : Hid (OwnT OPs w3 w2.heap.size w3.heap.size uw LF) := ho
    have K3 : Hid (Below w2.heap.size w2 w3) := (by first | exact hb | exact ⟨hb.os, hb.tape, hb.output, hb.size, hb.block⟩)
    have B3 : Hid (Below w.heap.size w w3) := B2.out.trans (K3.out.mono B2.out.size)
    clear hb ho
    go_wp2_with fail
    refine (TO.out _ (by first | exact B3.out | exact B3.out.drew)).mono ?_
    rintro e w4 ⟨pb, cb, fpb, rfl, ho, hnd, hrg, hb⟩
    have OXb4 : Hid (ORows w4 42 3 (OMd w4 d) (.slice pb n cb) ms fpb) := ho
    have RGb : Hid (fpb.Nodup ∧ ∀ a ∈ fpb, w3.heap.size ≤ a ∧ a < w4.heap.size) := (by first | exact ⟨hnd, hrg⟩ | exact ⟨hnd, fun a ha => hrg a ha⟩)
    have K4 : Hid (Below w3.heap.size w3 w4) := (by first | exact hb | exact ⟨hb.os, hb.tape, hb.output, hb.size, hb.block⟩)
    have B4 : Hid (Below w.heap.size w w4) := B3.out.trans (K4.out.mono B3.out.size)
    clear hb ho hnd hrg
    have Ow4 : Hid (OwnT OPs w4 w2.heap.size w3.heap.size uw LF) := OwnT.next OPs.keeps Ow3.out K4.out
    clear Ow3
    go_wp2_with fail
    refine (IM.out _ _ B4.out (oms_tree OXb4.out)).mono ?_
    rintro e w5 ⟨ug, rfl, ho, hb⟩
    have Og5 : Hid (OwnT OPs w5 w4.heap.size w5.heap.size ug LF) := ho
    have K5 : Hid (Below w4.heap.size w4 w5) := (by first | exact hb | exact ⟨hb.os, hb.tape, hb.output, hb.size, hb.block⟩)
    have B5 : Hid (Below w.heap.size w w5) := B4.out.trans (K5.out.mono B4.out.size)
    clear hb ho
    have Ow5 : Hid (OwnT OPs w5 w2.heap.size w3.heap.size uw LF) := OwnT.next OPs.keeps Ow4.out K5.out
    have OXb5 : Hid (ORows w5 42 3 (OMd w5 d) (.slice pb n cb) ms fpb) := oms_keep OXb4.out (KeepOn.below K5.out (fun a ha => oms_lt OXb4.out a ha))
    clear Ow4 OXb4
    go_wp2_with fail
    refine (eqPs_own Og5.out Ow5.out).mono ?_
    rintro e w6 ⟨rfl, hb⟩
    have K6 : Hid (Below w5.heap.size w5 w6) := (by first | exact hb | exact ⟨hb.os, hb.tape, hb.output, hb.size, hb.block⟩)
    have B6 : Hid (Below w.heap.size w w6) := B5.out.trans (K6.out.mono B5.out.size)
    clear hb
    have Ow6 : Hid (OwnT OPs w6 w2.heap.size w3.heap.size uw LF) := OwnT.next OPs.keeps Ow5.out K6.out
    have Og6 : Hid (OwnT OPs w6 w4.heap.size w5.heap.size ug LF) := OwnT.next OPs.keeps Og5.out K6.out
    have OXb6 : Hid (ORows w6 42 3 (OMd w6 d) (.slice pb n cb) ms fpb) := oms_keep OXb5.out (KeepOn.below K6.out (fun a ha => oms_lt OXb5.out a ha))
    clear Ow5 Og5 OXb5
    go_wp2_with fail
    refine (TO.out _ (by first | exact B6.out | exact B6.out.drew)).mono ?_
    rintro e w7 ⟨pc, cc, fpc, rfl, ho, hnd, hrg, hb⟩
    have OXc7 : Hid (ORows w7 42 3 (OMd w7 d) (.slice pc n cc) ms fpc) := ho
    have RGc : Hid (fpc.Nodup ∧ ∀ a ∈ fpc, w6.heap.size ≤ a ∧ a < w7.heap.size) := (by first | exact ⟨hnd, hrg⟩ | exact ⟨hnd, fun a ha => hrg a ha⟩)
    have K7 : Hid (Below w6.heap.size w6 w7) := (by first | exact hb | exact ⟨hb.os, hb.tape, hb.output, hb.size, hb.block⟩)
    have B7 : Hid (Below w.heap.size w w7) := B6.out.trans (K7.out.mono B6.out.size)
    clear hb ho hnd hrg
    have Ow7 : Hid (OwnT OPs w7 w2.heap.size w3.heap.size uw LF) := OwnT.next OPs.keeps Ow6.out K7.out
    have Og7 : Hid (OwnT OPs w7 w4.heap.size w5.heap.size ug LF) := OwnT.next OPs.keeps Og6.out K7.out
    have OXb7 : Hid (ORows w7 42 3 (OMd w7 d) (.slice pb n cb) ms fpb) := oms_keep OXb6.out (KeepOn.below K7.out (fun a ha => oms_lt OXb6.out a ha))
    clear Ow6 Og6 OXb6
    go_wp2_with fail
    refine (eqModuleS_all d _ _ _ ms (oms_tree OXb7.out) (oms_tree OXc7.out)).mono ?_
    rintro e w8 ⟨rfl, hb⟩
    have K8 : Hid (Below w7.heap.size w7 w8) := (by first | exact hb | exact ⟨hb.os, hb.tape, hb.output, hb.size, hb.block⟩)
    have B8 : Hid (Below w.heap.size w w8) := B7.out.trans (K8.out.mono B7.out.size)
    clear hb
    have Ow8 : Hid (OwnT OPs w8 w2.heap.size w3.heap.size uw LF) := OwnT.next OPs.keeps Ow7.out K8.out
    have Og8 : Hid (OwnT OPs w8 w4.heap.size w5.heap.size ug LF) := OwnT.next OPs.keeps Og7.out K8.out
    have OXb8 : Hid (ORows w8 42 3 (OMd w8 d) (.slice pb n cb) ms fpb) := oms_keep OXb7.out (KeepOn.below K8.out (fun a ha => oms_lt OXb7.out a ha))
    clear Ow7 Og7 OXb7
    go_wp2_with fail
    refine (markMS_all d _ _ ms fpb 1 OXb8.out RGb.out.1 (Nat.le_refl _) HCN.out).mono ?_
    rintro e w9 ⟨rfl, -, off9⟩
    have S3 : Hid (w.heap.size ≤ w3.heap.size) := B3.out.size
    have SZ89 : Hid (w8.heap.size ≤ w9.heap.size) := off9.size
    have OR9 : OffR w3.heap.size w4.heap.size w8 w9 := OffR.of off9 RGb.out.2
    have Ow9 : Hid (OwnT OPs w9 w2.heap.size w3.heap.size uw LF) := OwnT.offR OPs.keeps Ow8.out OR9 (.inl (Nat.le_refl _))
    have Og9 : Hid (OwnT OPs w9 w4.heap.size w5.heap.size ug LF) := OwnT.offR OPs.keeps Og8.out OR9 (.inr (Nat.le_refl _))
    have hb : Below w3.heap.size w8 w9 := OR9.below (Nat.le_refl _) (Nat.le_trans K4.out.size (Nat.le_trans K5.out.size (Nat.le_trans K6.out.size (Nat.le_trans K7.out.size K8.out.size))))
    have B9 : Hid (Below w.heap.size w w9) := B8.out.trans (hb.mono S3.out)
    have hkz0 : (0 : Int) ≤ ((1 + (ms.map (cntMS d)).sum : Nat) : Int) := by omega
    generalize ((1 + (ms.map (cntMS d)).sum : Nat) : Int) = kz at hkz0 ⊢
    have hkz : ¬ kz < 0 := by omega
    clear off9 OR9 hb OXb8 Ow8 Og8 hkz0
    go_wp2_with fail
    refine (eqPs_own Og9.out Ow9.out).mono ?_
    rintro e w10 ⟨rfl, hb⟩
    have K10 : Hid (Below w9.heap.size w9 w10) := (by first | exact hb | exact ⟨hb.os, hb.tape, hb.output, hb.size, hb.block⟩)
    have B10 : Hid (Below w.heap.size w w10) := B9.out.trans (K10.out.mono B9.out.size)
    clear hb
    have Ow10 : Hid (OwnT OPs w10 w2.heap.size w3.heap.size uw LF) := OwnT.next OPs.keeps Ow9.out K10.out
    have Og10 : Hid (OwnT OPs w10 w4.heap.size w5.heap.size ug LF) := OwnT.next OPs.keeps Og9.out K10.out
    clear Ow9 Og9
    go_wp2_with fail
    refine (markPs_own Og10.out hl.out).mono ?_
    rintro e w11 ⟨rfl, hm11, or11⟩
    have M11 : Hid (OwnT OPs w11 w4.heap.size w5.heap.size ug (markL markP cntP 1 LF)) := hm11
    have S4 : Hid (w3.heap.size ≤ w4.heap.size) := K4.out.size
    have Ow11 : Hid (OwnT OPs w11 w2.heap.size w3.heap.size uw LF) := OwnT.offR OPs.keeps Ow10.out or11 (.inl S4.out)
    have hb : Below w4.heap.size w10 w11 := or11.below (Nat.le_refl _) (Nat.le_trans K5.out.size (Nat.le_trans K6.out.size (Nat.le_trans K7.out.size (Nat.le_trans K8.out.size (Nat.le_trans SZ89.out K10.out.size)))))
    have B11 : Hid (Below w.heap.size w w11) := B10.out.trans (hb.mono (Nat.le_trans S3.out S4.out))
    clear hb or11 hm11 Ow10 Og10
    go_wp2_with fail
    refine (heldPs_own M11.out hl.out).mono ?_
    rintro e w12 ⟨rfl, hb⟩
    have K12 : Hid (Below w11.heap.size w11 w12) := (by first | exact hb | exact ⟨hb.os, hb.tape, hb.output, hb.size, hb.block⟩)
    have B12 : Hid (Below w.heap.size w w12) := B11.out.trans (K12.out.mono B11.out.size)
    clear hb
    have M12 : Hid (OwnT OPs w12 w4.heap.size w5.heap.size ug (markL markP cntP 1 LF)) := OwnT.next OPs.keeps M11.out K12.out
    have Ow12 : Hid (OwnT OPs w12 w2.heap.size w3.heap.size uw LF) := OwnT.next OPs.keeps Ow11.out K12.out
    clear M11 Ow11
    go_wp2_with fail
    refine (TO.out _ (by first | exact B12.out | exact B12.out.drew)).mono ?_
    rintro e w13 ⟨pd, cd, fpd, rfl, ho, hnd, hrg, hb⟩
    have OXd13 : Hid (ORows w13 42 3 (OMd w13 d) (.slice pd n cd) ms fpd) := ho
    have RGd : Hid (fpd.Nodup ∧ ∀ a ∈ fpd, w12.heap.size ≤ a ∧ a < w13.heap.size) := (by first | exact ⟨hnd, hrg⟩ | exact ⟨hnd, fun a ha => hrg a ha⟩)
    have K13 : Hid (Below w12.heap.size w12 w13) := (by first | exact hb | exact ⟨hb.os, hb.tape, hb.output, hb.size, hb.block⟩)
    have B13 : Hid (Below w.heap.size w w13) := B12.out.trans (K13.out.mono B12.out.size)
    clear hb ho hnd hrg
    have M13 : Hid (OwnT OPs w13 w4.heap.size w5.heap.size ug (markL markP cntP 1 LF)) := OwnT.next OPs.keeps M12.out K13.out
    have Ow13 : Hid (OwnT OPs w13 w2.heap.size w3.heap.size uw LF) := OwnT.next OPs.keeps Ow12.out K13.out
    clear M12 Ow12
    go_wp2_with fail
    refine (IM.out _ _ B13.out (oms_tree OXd13.out)).mono ?_
    rintro e w14 ⟨uh, rfl, ho, hb⟩
    have Oh14 : Hid (OwnT OPs w14 w13.heap.size w14.heap.size uh LF) := ho
    have K14 : Hid (Below w13.heap.size w13 w14) := (by first | exact hb | exact ⟨hb.os, hb.tape, hb.output, hb.size, hb.block⟩)
    have B14 : Hid (Below w.heap.size w w14) := B13.out.trans (K14.out.mono B13.out.size)
    clear hb ho
    have M14 : Hid (OwnT OPs w14 w4.heap.size w5.heap.size ug (markL markP cntP 1 LF)) := OwnT.next OPs.keeps M13.out K14.out
    have Ow14 : Hid (OwnT OPs w14 w2.heap.size w3.heap.size uw LF) := OwnT.next OPs.keeps Ow13.out K14.out
    clear M13 Ow13
    go_wp2_with fail
    refine (eqPs_own Oh14.out Ow14.out).mono ?_
    rintro e w15 ⟨rfl, hb⟩
    have K15 : Hid (Below w14.heap.size w14 w15) := (by first | exact hb | exact ⟨hb.os, hb.tape, hb.output, hb.size, hb.block⟩)
    have B15 : Hid (Below w.heap.size w w15) := B14.out.trans (K15.out.mono B14.out.size)
    clear hb
    have M15 : Hid (OwnT OPs w15 w4.heap.size w5.heap.size ug (markL markP cntP 1 LF)) := OwnT.next OPs.keeps M14.out K15.out
    clear M14
    go_wp2_with fail
    refine (heldPs_own M15.out hl.out).mono ?_
    rintro e w16 ⟨rfl, hb⟩
    have K16 : Hid (Below w15.heap.size w15 w16) := (by first | exact hb | exact ⟨hb.os, hb.tape, hb.output, hb.size, hb.block⟩)
    have B16 : Hid (Below w.heap.size w w16) := B15.out.trans (K16.out.mono B15.out.size)
    clear hb
    go_wp2
    go_ret
    exact ⟨rfl, B16.out⟩
end Go.Proofs.YtigfmdfgioccjaaGreatDoor
/-
  A row of modules that the statement's reader reads.
-/
namespace Go.Proofs.YtigfmdfgioccjaaGreatDoor
open Go.ChangeShapes Go.WideShapes Go.ChangeAt Go.RowKit
set_option linter.unusedVariables false
section
variable {H : Type} {enc : TypeId × Value → H} {P : Program} {w : World} {base : Nat} {sp : Nat → Bool} {held : Bool}
variable {tE tEs tC tCs tI tS tR tRs tF tFs tM : TypeId}

theorem open_md1 (T : MdTypes P tE tEs tC tCs tI tS tR tRs tF tFs tM) {fuel : Nat} {cs : List Value} {x : DataW H × List MemPlace} (h : DataW.trod enc P w base sp held fuel tM cs = some x) :
    ∃ m, HMd w (fun g => g < w.heap.size) fuel cs m := by
  cases fuel with
  | zero => simp [DataW.trod] at h
  | succ fuel =>
    obtain ⟨fs, hu, hfs⟩ := T.m
    obtain ⟨hl, hat⟩ := open_fields hu hfs h
    rw [T.cm] at hl
    obtain ⟨a, b, c, rfl⟩ := len3 hl
    obtain ⟨y0, h0⟩ := hat 0 _ _ rfl
    obtain ⟨y1, h1⟩ := hat 1 _ _ rfl
    obtain ⟨y2, h2⟩ := hat 2 _ _ rfl
    rw [T.cS] at h0
    rw [T.crs] at h1
    rw [T.cfs] at h2
    obtain ⟨s, rfl, hs⟩ := open_str1 T.s h0
    cases fuel with
    | zero => simp [DataW.trod] at h0
    | succ fuel =>
      obtain ⟨_, rs, hv, hr⟩ := open_rows (R := HRf) T.rs T.cr (by decide) (fun cs x hx => by
        cases fuel with
        | zero => simp [DataW.trod] at hx
        | succ fuel =>
          obtain ⟨fs, hu, hfs⟩ := T.r
          obtain ⟨hl, hat⟩ := open_fields hu hfs hx
          rw [T.cr] at hl
          obtain ⟨a, b, rfl⟩ := len2 hl
          obtain ⟨y0, h0⟩ := hat 0 _ _ rfl
          obtain ⟨y1, h1⟩ := hat 1 _ _ rfl
          rw [T.cS] at h0
          rw [T.ci] at h1
          obtain ⟨s, rfl, hs⟩ := open_str1 T.s h0
          obtain ⟨i, rfl, hi⟩ := open_int1 T.i h1
          exact ⟨⟨s, i⟩, rfl, hs, hi⟩) h1
      cases hv
      obtain ⟨_, fs, hv, hf⟩ := open_rows (R := HFn w (fun g => g < w.heap.size) (fuel + 1)) T.fs T.cf (by decide) (fun cs x hx => by
        cases fuel with
        | zero => simp [DataW.trod] at hx
        | succ fuel =>
          obtain ⟨fs, hu, hfs⟩ := T.f
          obtain ⟨hl, hat⟩ := open_fields hu hfs hx
          rw [T.cf] at hl
          obtain ⟨a, b, c, rfl⟩ := len3 hl
          obtain ⟨y0, h0⟩ := hat 0 _ _ rfl
          obtain ⟨y1, h1⟩ := hat 1 _ _ rfl
          obtain ⟨y2, h2⟩ := hat 2 _ _ rfl
          rw [T.cS] at h0
          rw [T.ci] at h1
          rw [T.ccs] at h2
          obtain ⟨s, rfl, hs⟩ := open_str1 T.s h0
          obtain ⟨i, rfl, hi⟩ := open_int1 T.i h1
          obtain ⟨cls, hcls⟩ := open_cls T.toExTypes (n := fuel + 1 + 1) (open_ex T.toExTypes (fuel + 1 + 1)) (by omega) h2
          exact ⟨⟨s, i, cls⟩, c, rfl, hs, hi, hcls⟩) h2
      cases hv
      exact ⟨⟨s, rs, fs⟩, HMd.deeper (d := fuel + 1) (by omega) ⟨b, c, rfl, hs, hr, hf⟩⟩

theorem open_mds (T : MdTypes P tE tEs tC tCs tI tS tR tRs tF tFs tM) {tMs : TypeId} (hMs : P.underlying tMs = some (.slice tM)) {v : Value} {dd : DataW H} {ps : List MemPlace} (hc : v.cells.toList = [v]) (h : DataW.Trod enc P w base sp held tMs v dd ps) :
    ∃ d ms, Rows w (fun g => g < w.heap.size) 3 (HMd w (fun g => g < w.heap.size) d) v ms := by
  obtain ⟨fuel, h⟩ := h
  cases fuel with
  | zero => simp [DataW.trod] at h
  | succ fuel =>
    obtain ⟨v', xs, hv, hr⟩ := open_rows (R := HMd w (fun g => g < w.heap.size) fuel) hMs T.cm (by decide) (fun cs x hx => open_md1 T hx) h
    rw [hc] at hv
    cases hv
    exact ⟨_, _, hr⟩
end
end Go.Proofs.YtigfmdfgioccjaaGreatDoor
/-
  Laws of no one function: what a law's statement asks behind the call, where nothing that was there has turned and the call answers true; a start that fits; what a listed array of texts holds.
-/
namespace Go.Proofs.YtigfmdfgioccjaaGreatDoor
open Go.ChangeShapes Go.WideShapes Go.ChangeAt Go.RowKit
set_option linter.unusedVariables false

theorem trodAll_below {H : Type} {enc : TypeId × Value → H} {P : Program} (hl : laidOutB P = true) {W W' : World} (hb : Below W.heap.size W W') :
    ∀ {ts : List TypeId} {vs : List Value} {ds : List (DataW H)} {ps : List MemPlace}, (ts.all fun t => P.readableRec t && decide (t < P.types.size)) = true →
      DataW.TrodAll enc P W 0 (fun _ => true) true ts vs ds ps → (∀ x ∈ ps, x.block < W.heap.size) → DataW.TrodAll enc P W' 0 (fun b => decide (b < W.heap.size)) true ts vs ds ps
  | [], _, _, _, _, h, _ => by
    obtain ⟨rfl, rfl, rfl⟩ := trodAll_nil h
    exact trodAll_mk0
  | t :: ts, vs, ds, ps, ht, h, hlt => by
    obtain ⟨v, vs', d, ds', p, q, rfl, rfl, rfl, h0, hs⟩ := trodAll_cons h
    simp only [List.all_cons, Bool.and_eq_true, decide_eq_true_eq] at ht
    exact trodAll_cons_mk (Below.trod hl ht.1.1 ht.1.2 h0 hb (fun x hx => hlt x (by simp [hx])))
      (trodAll_below hl hb ht.2 hs (fun x hx => hlt x (by simp [hx])))

/-- WHAT THE STATEMENT ASKS BEHIND THE CALL, of a law that answers true and turns nothing that was there. -/
theorem post_true {H : Type} {enc : TypeId × Value → H} {P : Program} {f : Func} {s : ChangeSpec} {W W' : World} {args : Array Value} {ds gs : List (DataW H)} {before : List MemPlace}
    (hl : laidOutB P = true) (hts : (f.params.toList.all fun t => P.readableRec t && decide (t < P.types.size)) = true) (hvs : varsRowed P s.vars = true) {tb : TypeId} (htb : P.underlying tb = some .bool)
    (hres : f.resultTypes = #[tb]) (hW : DataW.Whole enc P f.params.toList s.vars false W args.toList ds gs before)
    (hfn : s.fn H (ds ++ gs) = { results := [.lit (.bool true)], args := ds, vars := gs }) (hb : Below W.heap.size W W') :
    s.post enc P f false true false false W args (.bool true) W' := by
  have hlt : ∀ x ∈ before, x.block < W.heap.size := fun x hx => by simpa using hW.lt x hx
  have hW' := hW
  obtain ⟨p, q, hA, hV, rfl, hfz, hnd⟩ := hW
  refine ⟨ds, gs, p ++ q, [], p, q, hW', ?_, ?_, ?_, hb.frame _, fun h => by cases h⟩
  · rw [hfn, hres]
    exact trodAll_mk1 (shut_bool htb true)
  · rw [hfn]
    exact trodAll_below hl hb hts hA (fun x hx => hlt x (by simp [hx]))
  · rw [hfn]
    exact Below.trodVars hl hb hvs hV

/-- 'THERE IS AN INPUT THAT FITS', at a world whose shape is shown. -/
theorem witness_row_shaped {H : Type} {enc : TypeId × Value → H} {C : Checked} {os : Os} {f : FuncId} {fn : Func} {s : OpenSpec} {conds : List PathCond} {apart : Bool} {laid : List (String × DataW Unit)} (w0 : World) (args : Array Value) (hos : w0.os = os)
    (hsh : (w0.forCall (fun _ _ => 0) ⟨#[], args, []⟩).Shaped C.prog)
    (hok : Input.okWideB C.prog (w0.forCall (fun _ _ => 0) ⟨#[], args, []⟩) f ⟨#[], args, []⟩ = true)
    (hrow : s.preRow enc C.prog fn conds apart laid (w0.forCall (fun _ _ => 0) ⟨#[], args, []⟩).memory args) :
    ∃ (w : World) (tape : Tape) (i : Input), w.os = os ∧ (w.forCall tape i).Shaped C.prog ∧ i.vars = [] ∧ Input.okWide C.prog (w.forCall tape i) .any w.heap.size f i ∧
      s.preRow enc C.prog fn conds apart laid (w.forCall tape i).memory i.args ∧ ({} : Assume).holds C.prog (lone (Frame.enter C.prog f i.args .normal) [] (w.forCall tape i)) :=
  ⟨w0, fun _ _ => 0, ⟨#[], args, []⟩, hos, hsh, (Input.okWide_of_okWideB (base := 0) hok).1, (Input.okWide_of_okWideB hok).2, hrow, by
    simp [Assume.holds]⟩

/-- A listed array of texts, as a row lists it. -/
def strTab {H : Type} (ss : List (List UInt8)) : DataW H := .agg (ss.map fun s => .lit (.string s))

theorem cells_of_strTab {H : Type} {enc : TypeId × Value → H} {P : Program} {w : World} {base : Nat} {sp : Nat → Bool} {held : Bool} {fuel : Nat} {t e : TypeId} {n : Nat} {cs : List Value} {ss : List (List UInt8)} {p : List MemPlace}
    (ht : P.underlying t = some (.array n e)) (he : P.underlying e = some .string) (hce : P.cellsOf e = 1) (hct : P.cellsOf t = n)
    (h : DataW.trod enc P w base sp held fuel t cs = some (strTab ss, p)) : cs = ss.map fun s => Value.string ⟨s.toArray⟩ := by
  cases fuel with
  | zero => simp [DataW.trod] at h
  | succ fuel =>
    simp only [DataW.trod, ht, hce, hct, Nat.mul_one] at h
    split at h
    · rename_i hl
      obtain ⟨xs, hm, hx⟩ := Option.map_eq_some_iff.1 h
      have hxs : xs.map (·.1) = ss.map fun s => (DataW.lit (.string s) : DataW H) := by
        have := congrArg Prod.fst hx
        simpa [strTab] using this
      have hxl : xs.length = n := by simpa using Lib.mapM_length hm
      have hzl : ss.length = n := by
        have := congrArg List.length hxs
        simp at this
        omega
      apply List.ext_getElem?
      intro i
      by_cases hi : i < n
      · obtain ⟨b, hb, hf⟩ := Lib.mapM_at hm i i (by simp [hi])
        obtain ⟨z, hc, rfl, _⟩ := DataW.trod_string he hf
        have h1 : cs[i]? = some (.string z) := by
          have := congrArg (·[0]?) hc
          simpa [List.getElem?_take, List.getElem?_drop] using this
        have h2 : (xs.map (·.1))[i]? = some (DataW.lit (.string z.data.toList) : DataW H) := by simp [hb]
        rw [hxs] at h2
        simp only [List.getElem?_map, Option.map_eq_some_iff, DataW.lit.injEq, Lit.string.injEq] at h2
        obtain ⟨z', hz', rfl⟩ := h2
        simp [h1, hz']
      · rw [List.getElem?_eq_none (by omega), List.getElem?_eq_none (by simp; omega)]
    · cases h

/-- The variable NAME holds just these texts. -/
def StrIs (P : Program) (w : World) (name : String) (ss : List (List UInt8)) : Prop := w.var? P name = some (ss.map fun s => Value.string ⟨s.toArray⟩).toArray

theorem strIs_of_vars {P : Program} {W : World} {name : String} {ss : List (List UInt8)} {rest : List (String × DataW Unit)} {ps : List MemPlace} {g : Nat} {t e : TypeId} {n : Nat}
    (hg : P.globalNamed name = some g) (hty : (P.globals[g]?).map (·.type) = some t) (ht : P.underlying t = some (.array n e)) (he : P.underlying e = some .string) (hce : P.cellsOf e = 1) (hct : P.cellsOf t = n)
    (h : DataW.LaidVars P W ((name, strTab ss) :: rest) ps) : StrIs P W name ss ∧ ∃ q, DataW.LaidVars P W rest q := by
  obtain ⟨g', t', cs, fuel, p, q, hg', ht', hvar, hd, hq, _⟩ := h
  obtain rfl := Option.some.inj (hg.symm.trans hg')
  obtain rfl := Option.some.inj (hty.symm.trans ht')
  refine ⟨?_, q, hq⟩
  unfold StrIs
  rw [hvar, ← cells_of_strTab ht he hce hct hd]

theorem tabIs_of_vars {P : Program} {W : World} {name : String} {k : IntKind} {zs : List Int} {rest : List (String × DataW Unit)} {ps : List MemPlace} {g : Nat} {t e : TypeId} {n : Nat}
    (hg : P.globalNamed name = some g) (hty : (P.globals[g]?).map (·.type) = some t) (ht : P.underlying t = some (.array n e)) (he : P.underlying e = some (.int k)) (hce : P.cellsOf e = 1) (hct : P.cellsOf t = n)
    (h : DataW.LaidVars P W ((name, Lib.tabData k zs) :: rest) ps) : Lib.TabIs P W name k zs ∧ ∃ q, DataW.LaidVars P W rest q := by
  obtain ⟨g', t', cs, fuel, p, q, hg', ht', hvar, hd, hq, _⟩ := h
  obtain rfl := Option.some.inj (hg.symm.trans hg')
  obtain rfl := Option.some.inj (hty.symm.trans ht')
  refine ⟨?_, q, hq⟩
  unfold Lib.TabIs
  rw [hvar, ← Lib.cells_of_tab ht he hce hct hd]

theorem StrIs.cell {P : Program} {W : World} {name : String} {ss : List (List UInt8)} {g : Nat} (h : StrIs P W name ss) (hg : P.globalNamed name = some g) (i : Nat) (hi : i < ss.length) :
    W.cell? ⟨g, i, none⟩ = some (.string ⟨(ss.getD i []).toArray⟩) := by
  have := World.var?_cell hg h i
  simpa [List.getD, hi] using this

theorem trodVars_length {H : Type} {enc : TypeId × Value → H} {P : Program} {w : World} {sp : Nat → Bool} :
    ∀ {ns : List String} {gs : List (DataW H)} {ps : List MemPlace}, DataW.TrodVars enc P w sp ns gs ps → gs.length = ns.length
  | [], [], _, _ => rfl
  | [], _ :: _, _, h => h.elim
  | _ :: _, [], _, h => h.elim
  | n :: ns, d :: ds, ps, h => by
    obtain ⟨g, t, cs, fuel, p, q, h1, h2, h3, h4, hs, e⟩ := h
    simp [trodVars_length hs]

/-- The premises at a start, by closed facts: for the first form (k: always true) and for the second (k: its bound). -/
theorem preRow_of_bool {H : Type} {enc : TypeId × Value → H} {P : Program} {f : Func} {s : OpenSpec} {conds : List PathCond} {apart : Bool} {laid : List (String × DataW Unit)} {w : World} {args : Array Value} (fuel : Nat)
    (k : (H : Type) → List (DataW H) → Bool) (hk : ∀ k', s.cond = some k' → k' = k)
    (hx : ((DataW.whole enc P w f.params.toList s.vars apart args.toList fuel).any fun x => conds.all (PathCond.test P ⟨f.params.toList, x.1, s.bare.plain.varTypes P, x.2.1⟩) && k H (x.1 ++ x.2.1)) = true)
    (hsz : s.bare.sizedB enc P f apart w args fuel = true) (hl : laidMetH P laid w) : s.preRow enc P f conds apart laid w args := by
  cases h : DataW.whole enc P w f.params.toList s.vars apart args.toList fuel with
  | none => rw [h] at hx; cases hx
  | some x =>
    rw [h] at hx
    simp only [Option.any_some, Bool.and_eq_true] at hx
    exact OpenSpec.preRow_of_cond fuel h hx.1 (fun k' hk' => by rw [hk k' hk']; exact hx.2) hsz hl
end Go.Proofs.YtigfmdfgioccjaaGreatDoor
/-
  What a listed array of structs of integers holds.
-/
namespace Go.Proofs.YtigfmdfgioccjaaGreatDoor
open Go.ChangeShapes Go.WideShapes Go.ChangeAt Go.RowKit
set_option linter.unusedVariables false

/-- A listed array of structs of integers, as a row lists it. -/
def gridTab {H : Type} (rs : List (List Int)) : DataW H := .agg (rs.map fun r => .agg (r.map fun z => .lit (.int .i64 z)))

theorem cells_of_grid {H : Type} {enc : TypeId × Value → H} {P : Program} {w : World} {base : Nat} {sp : Nat → Bool} {held : Bool} {fuel : Nat} {t e ti : TypeId} {n c : Nat} {fs : Array Field} {cs : List Value} {rs : List (List Int)} {p : List MemPlace}
    (ht : P.underlying t = some (.array n e)) (he : P.underlying e = some (.struct fs)) (hti : P.underlying ti = some (.int .i64)) (hfs : (fs.toList.map fun f => (f.type, f.offset)) = (List.range c).map fun j => (ti, j)) (hci : P.cellsOf ti = 1) (hce : P.cellsOf e = c)
    (h : DataW.trod enc P w base sp held fuel t cs = some (gridTab rs, p)) : ∀ i r j z, rs[i]? = some r → r[j]? = some z → cs[i * c + j]? = some (.int .i64 z) := by
  intro i r j z hi hj
  cases fuel with
  | zero => simp [DataW.trod] at h
  | succ fuel =>
    simp only [DataW.trod, ht] at h
    split at h
    · obtain ⟨xs, hm, hx⟩ := Option.map_eq_some_iff.1 h
      have hxs : xs.map (·.1) = rs.map fun r => (DataW.agg (r.map fun z => .lit (.int .i64 z)) : DataW H) := by
        have := congrArg Prod.fst hx
        simpa [gridTab] using this
      have hxl : xs.length = n := by simpa using Lib.mapM_length hm
      have hil : i < n := by
        have h1 := congrArg List.length hxs
        have h2 := (List.getElem?_eq_some_iff.1 hi).1
        simp at h1
        omega
      obtain ⟨b, hb, hf⟩ := Lib.mapM_at hm i i (by simp [hil])
      have hb1 : b.1 = .agg (r.map fun z => .lit (.int .i64 z)) := by
        have := congrArg (·[i]?) hxs
        simp [hb, hi] at this
        exact this
      rw [hce] at hf
      cases fuel with
      | zero => simp [DataW.trod] at hf
      | succ fuel =>
        simp only [DataW.trod, he] at hf
        split at hf
        · obtain ⟨ys, hm2, hy⟩ := Option.map_eq_some_iff.1 hf
          have hys : ys.map (·.1) = r.map fun z => (DataW.lit (.int .i64 z) : DataW H) := by
            have := congrArg Prod.fst hy
            rw [hb1] at this
            simpa using this
          have hyl : ys.length = fs.toList.length := Lib.mapM_length hm2
          have hjl : j < fs.toList.length := by
            have h1 := congrArg List.length hys
            have h2 := (List.getElem?_eq_some_iff.1 hj).1
            simp at h1 hyl ⊢
            omega
          obtain ⟨f, hfj⟩ : ∃ f, fs.toList[j]? = some f := ⟨_, List.getElem?_eq_getElem hjl⟩
          obtain ⟨y, hyj, hty⟩ := Lib.mapM_at hm2 j f hfj
          have hfe : f.type = ti ∧ f.offset = j ∧ j < c := by
            have h1 := congrArg (·[j]?) hfs
            simp only [List.getElem?_map, hfj, Option.map_some] at h1
            have hjc : j < c := by
              have h2 := congrArg List.length hfs
              simp at h2 hjl
              omega
            rw [List.getElem?_range hjc] at h1
            simp at h1
            exact ⟨h1.1, h1.2, hjc⟩
          rw [hfe.1, hfe.2.1, hci] at hty
          obtain ⟨z', hc, rfl, _⟩ := DataW.trod_int hti hty
          have h2 := congrArg (·[j]?) hys
          simp [hyj, hj] at h2
          subst h2
          have h3 := congrArg (·[0]?) hc
          simp only [List.getElem?_take, List.getElem?_drop, List.getElem?_cons_zero] at h3
          simpa [hfe.2.2] using h3
        · cases hf
    · cases h

theorem gridIs_of_vars {P : Program} {W : World} {name : String} {rs : List (List Int)} {rest : List (String × DataW Unit)} {ps : List MemPlace} {g : Nat} {t e ti : TypeId} {n c : Nat} {fs : Array Field}
    (hg : P.globalNamed name = some g) (hty : (P.globals[g]?).map (·.type) = some t) (ht : P.underlying t = some (.array n e)) (he : P.underlying e = some (.struct fs)) (hti : P.underlying ti = some (.int .i64)) (hfs : (fs.toList.map fun f => (f.type, f.offset)) = (List.range c).map fun j => (ti, j))
    (hci : P.cellsOf ti = 1) (hce : P.cellsOf e = c) (h : DataW.LaidVars P W ((name, gridTab rs) :: rest) ps) : ∀ i r j z, rs[i]? = some r → r[j]? = some z → W.cell? ⟨g, i * c + j, none⟩ = some (.int .i64 z) := by
  obtain ⟨g', t', cs, fuel, p, q, hg', ht', hvar, hd, hq, _⟩ := h
  obtain rfl := Option.some.inj (hg.symm.trans hg')
  obtain rfl := Option.some.inj (hty.symm.trans ht')
  intro i r j z hi hj
  have h1 := cells_of_grid ht he hti hfs hci hce hd i r j z hi hj
  have h2 := World.var?_cell hg hvar (i * c + j)
  rw [h2]
  simpa using h1
end Go.Proofs.YtigfmdfgioccjaaGreatDoor
