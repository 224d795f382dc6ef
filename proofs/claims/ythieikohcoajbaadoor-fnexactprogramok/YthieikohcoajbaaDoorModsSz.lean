/-
  The laws' szModuleS: the weight of a row of modules.
-/
import Derived.Test.YthieikohcoajbaaDoorSize
namespace Go.Proofs.YthieikohcoajbaaDoor
open Go.ChangeShapes Go.WideShapes Go.ChangeAt Go.RowKit
set_option linter.unusedVariables false

section
variable {N : Nat}

set_option maxHeartbeats 2000000 in
theorem szModuleS_of {d : Nat} (hE : SzC 14 (fun w v e => ∃ cs, v = .agg cs.toArray ∧ HMd w (fun g => g < N) d cs e) (wtMd d)) :
    SzC 5 (fun w v es => Rows w (fun g => g < N) 3 (HMd w (fun g => g < N) d) v es) (wtS (wtMd d)) := by
  intro w v es left h hl
  obtain ⟨p, cap, rfl, hcl, hcm, hx⟩ := h
  generalize hn : es.length = n at *
  have HN : Hid (es.length = n) := hn
  have HX : Hid _ := hx
  have hnb : n ≤ 9223372036854775807 := by unfold maxLen at hcm; omega
  clear hx hn
  by_cases h0 : left < n
  · have hr : leftOf left (wtS (wtMd d) es) = -1 := leftOf_lt (by unfold wtS; rw [HN.out]; omega)
    have HR : Hid (leftOf left (wtS (wtMd d) es) = -1) := hr
    clear hr
    go_enter Tryd.func5, Tryd.ntmps5
    go_wp2
    go_ret
    exact ⟨by rw [HR.out]; rfl, Below.refl _ _⟩
  · go_enter Tryd.func5, Tryd.ntmps5
    go_wp2
    go_loopw [1, 5] (fun lv iv wr => ∃ k r : Nat, k ≤ n ∧ iv = .int .i64 k ∧ lv = .int .i64 r ∧ Hid (r + n + ((es.take k).map (wtMd d)).sum = left) ∧ Below w.heap.size w wr) (fun _ iv _ => n - (intOf iv).toNat)
    case atStart => exact ⟨0, left - n, Nat.zero_le _, rfl, by go_num, (by show left - n + n + _ = left; simp; omega), Below.refl _ _⟩
    case round =>
      obtain ⟨k, r, hk, rfl, rfl, hrs, hb⟩ := hrel
      have HB : Hid (Below w.heap.size w wr) := hb
      by_cases hlt : k < n
      · obtain ⟨x, hxk⟩ : ∃ x, es[k]? = some x := ⟨es[k]'(by rw [HN.out]; exact hlt), List.getElem?_eq_getElem _⟩
        obtain ⟨g, off, rfl, hg, hgl, hat⟩ := HX.out (by intro h; rw [h] at hxk; simp at hxk)
        obtain ⟨cs, hcl6, hcs, hex⟩ := hat k x hxk
        have hex' : HMd wr (fun g => g < N) d cs x := hex.mono (SameOn.of_below hb) (fun _ h => h)
        obtain ⟨c0, c1, c2, rfl⟩ := len3 hcl6
        have a0 := hcs 0 (by omega)
        have a1 := hcs 1 (by omega)
        have a2 := hcs 2 (by omega)
        rw [← hb.cell (p := ⟨g, _, none⟩) hgl] at a0 a1 a2
        simp at a0 a1 a2
        clear hb hcs hat hex hcl6
        have hrb : r ≤ 1048576 := by have := hrs.out; omega
        have hst := sum_take_succ (wtMd d) es k x hxk
        have HST : Hid (((es.take (k + 1)).map (wtMd d)).sum = ((es.take k).map (wtMd d)).sum + wtMd d x) := hst
        have hle := sum_take_le (wtMd d) es (k + 1)
        have HLE : Hid (((es.take (k + 1)).map (wtMd d)).sum ≤ (es.map (wtMd d)).sum) := hle
        clear hst hle
        generalize hwx : wtMd d x = y at *
        have HY : Hid (wtMd d x = y) := hwx
        by_cases hy : r < y
        · have hr : leftOf left (wtS (wtMd d) es) = -1 := leftOf_lt (by unfold wtS; have := hrs.out; have := HLE.out; have := HST.out; rw [HN.out]; omega)
          have HR : Hid (leftOf left (wtS (wtMd d) es) = -1) := hr
          have hr2 : leftOf r y = -1 := leftOf_lt hy
          clear hr hwx
          go_wp2_with (go_at_call 14; go_must (refine (hE _ _ x r ⟨_, rfl, hex'⟩ hrb).mono ?_; rintro e w1 ⟨rfl, hb1⟩; rw [HY.out, hr2]; have HB1 : Hid _ := hb1; clear hb1))
          go_ret
          exact ⟨by rw [HR.out]; rfl, HB.out.trans (HB1.out.mono HB.out.size)⟩
        · have hr2 : leftOf r y = ((r - y : Nat) : Int) := leftOf_ge (by omega)
          clear hwx
          go_wp2_with (go_at_call 14; go_must (refine (hE _ _ x r ⟨_, rfl, hex'⟩ hrb).mono ?_; rintro e w1 ⟨rfl, hb1⟩; rw [HY.out, hr2]; have HB1 : Hid _ := hb1; clear hb1))
          exact ⟨⟨k + 1, r - y, by omega, by go_num, rfl, (by have := hrs.out; have := HST.out; show r - y + n + _ = left; omega), HB.out.trans (HB1.out.mono HB.out.size)⟩, by simp [intOf]; omega⟩
      · have hr : leftOf left (wtS (wtMd d) es) = (r : Int) := by
          have h1 := hrs.out
          rw [List.take_of_length_le (by rw [HN.out]; omega)] at h1
          rw [leftOf_ge (by unfold wtS; rw [HN.out]; omega)]
          unfold wtS; rw [HN.out]; omega
        have HR : Hid (leftOf left (wtS (wtMd d) es) = (r : Int)) := hr
        clear hr
        go_wp2
        go_ret
        exact ⟨by rw [HR.out]; rfl, HB.out⟩

theorem szModuleS_all (d : Nat) : SzC 5 (fun w v es => Rows w (fun g => g < N) 3 (HMd w (fun g => g < N) d) v es) (wtS (wtMd d)) := szModuleS_of (szModule_all d)
end
end Go.Proofs.YthieikohcoajbaaDoor
