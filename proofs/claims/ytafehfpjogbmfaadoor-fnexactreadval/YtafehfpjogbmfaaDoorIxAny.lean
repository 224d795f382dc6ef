/-
  strings.IndexAny of the six signs that end a name or a number, in any text: by contract.
-/
import Derived.Test.YtafehfpjogbmfaaDoorIxRune
namespace Go.Proofs.YtafehfpjogbmfaaDoor
open Go.ChangeShapes Go.WideShapes Go.ChangeAt Go.RowKit
set_option linter.unusedVariables false
set_option linter.unusedSimpArgs false
set_option maxRecDepth 100000

theorem dlB_ascii : ∀ x ∈ dlB.data.toList, x.toNat < 128 := by decide
theorem noAny_more {s : ByteArray} {i k : Nat} (h : Lib.NoAny s.data.toList dlB.data.toList i) (hk : ∀ j, j < k → i + j < s.size ∧ 128 ≤ (s.get! (i + j)).toNat) : Lib.NoAny s.data.toList dlB.data.toList (i + k) := by
  intro j b hj hb
  by_cases hlt : j < i
  · exact h j b hlt hb
  · obtain ⟨m, rfl⟩ : ∃ m, j = i + m := ⟨j - i, by omega⟩
    obtain ⟨h1, h2⟩ := hk m (by omega)
    rw [getb_at s _ h1] at h2
    have hb' : s.data.toList[i + m]? = some (s[i + m]'h1) := Lib.data_getElem? s (i + m) h1
    rw [hb'] at hb
    cases hb
    cases hc : dlB.data.toList.contains (s[i + m]'h1) with
    | false => rfl
    | true =>
      have := dlB_ascii _ (List.contains_iff_mem.1 hc)
      omega
theorem iter_moved {w wr : World} {s : ByteArray} {i k : Nat} (hit : wr.heap[w.heap.size]? = some (.stringIter s i)) (hb : Below w.heap.size w wr) :
    ({ wr with heap := wr.heap.setIfInBounds w.heap.size (.stringIter s k) } : World).heap[w.heap.size]? = some (.stringIter s k) ∧ Below w.heap.size w { wr with heap := wr.heap.setIfInBounds w.heap.size (.stringIter s k) } := by
  have hlt : w.heap.size < wr.heap.size := (Array.getElem?_eq_some_iff.1 hit).1
  refine ⟨?_, hb.os, hb.tape, hb.output, ?_, fun j hj => ?_⟩
  · show (wr.heap.setIfInBounds w.heap.size (.stringIter s k))[w.heap.size]? = _
    simp [hlt]
  · show w.heap.size ≤ (wr.heap.setIfInBounds w.heap.size (.stringIter s k)).size
    simpa using hb.size
  · show (wr.heap.setIfInBounds w.heap.size (.stringIter s k))[j]? = _
    rw [Array.getElem?_setIfInBounds_ne (by omega)]
    exact hb.block j hj
set_option maxHeartbeats 8000000 in
theorem indexAny_short (s : ByteArray) (w : World) (h8 : s.size ≤ 8) :
    Calls Tryd.prog 31 #[.string s, .string dlB] w fun e w' => e = .returned (.int .i64 (Lib.indexAny s.data.toList dlB.data.toList)) ∧ Below w.heap.size w w' := by
  have hemp : dlB.toList.isEmpty = false := by decide +kernel
  have hn1 : ((dlB.size : Int) == 1) = false := by decide
  have h8z : decide ((8 : Int) < (s.size : Int)) = false := decide_eq_false (by omega)
  go_enter Tryd.func31, Tryd.ntmps31
  go_wp2_with (go_at_call 42; go_must (refine (Tryd.strings_shouldUseASCIISet _ _).mono ?_; rintro e w' ⟨rfl, hw⟩; rw [hw, h8z]))
  go_loopg [9, 10] s.size (fun g _ _ wx => ∃ i : Nat, s.size ≤ i + g ∧ i ≤ s.size ∧ wx.heap[w.heap.size]? = some (.stringIter s i) ∧ Below w.heap.size w wx ∧ Lib.NoAny s.data.toList dlB.data.toList i)
  case atStart => exact ⟨0, by omega, Nat.zero_le _, World.iter_heap _ _ _, iter_below _ _ _, Lib.NoAny.zero _ _⟩
  case round =>
    obtain ⟨i, hig, hi, hit, hb, hno⟩ := hrel
    have HN : Hid (Lib.NoAny s.data.toList dlB.data.toList i) := hno
    have HI : Hid (wr.heap[w.heap.size]? = some (.stringIter s i)) := hit
    have HB : Hid (Below w.heap.size w wr) := hb
    clear hno hit hb
    by_cases hlt : i < s.size
    · obtain ⟨g, rfl⟩ : ∃ g, gk = g + 1 := ⟨gk - 1, by omega⟩
      obtain ⟨x, hx⟩ : ∃ x : UInt8, s[i]'hlt = x := ⟨_, rfl⟩
      have hxl : s.data.toList[i]? = some x := by rw [← hx]; exact Lib.data_getElem? s i hlt
      by_cases h128 : x.toNat < 128
      · have hdec : Utf8.decode s i = (x.toNat, 1) := by rw [decode_ascii s i hlt (by rw [hx]; exact h128), hx]
        have hnx := fun ty => next_at (P := Tryd.prog) wr w.heap.size s i ty HI.out hlt
        rw [hdec] at hnx
        simp only at hnx
        obtain ⟨w1, hw1⟩ : ∃ w1, w1 = { wr with heap := wr.heap.setIfInBounds w.heap.size (.stringIter s (i + 1)) } := ⟨_, rfl⟩
        obtain ⟨m1, m2⟩ := iter_moved (k := i + 1) HI.out HB.out
        rw [← hw1] at m1 m2 hnx
        have HX : Hid (s.data.toList[i]? = some x) := hxl
        have M1 : Hid (w1.heap[w.heap.size]? = some (.stringIter s (i + 1))) := m1
        have M2 : Hid (Below w.heap.size w w1) := m2
        clear hxl hx hw1 m1 m2 hdec
        have hcon := Lib.contains_iff_indexByte dlB.data.toList x
        have hback : ((x.toNat : Int)).toNat.toUInt8 = x := by simp
        cases hin : dlB.data.toList.contains x with
        | false =>
          rw [hin] at hcon
          have hge : ¬ ((0 : Int) ≤ Lib.indexByte dlB.data.toList x) := of_decide_eq_false hcon.symm
          clear hcon
          go_wp2_with (go_at_call 41; go_must (refine (Tryd.strings_IndexRune_ascii _ _ _ (by omega) (by omega)).mono ?_; rintro e w' ⟨rfl, hw⟩; rw [hw, hback]))
          go_roundg g
          case measure => omega
          case rel => exact ⟨i + 1, by omega, by omega, M1.out, M2.out, HN.out.succ HX.out hin⟩
        | true =>
          rw [hin] at hcon
          have hge : (0 : Int) ≤ Lib.indexByte dlB.data.toList x := of_decide_eq_true hcon.symm
          clear hcon
          go_wp2_with (go_at_call 41; go_must (refine (Tryd.strings_IndexRune_ascii _ _ _ (by omega) (by omega)).mono ?_; rintro e w' ⟨rfl, hw⟩; rw [hw, hback]))
          go_ret
          exact ⟨by rw [Lib.indexAny_hit HN.out HX.out hin]; rfl, M2.out⟩
      · have hsk := decode_skip s i hlt (by rw [hx]; omega)
        have hhi := decode_high s i hlt (by rw [hx]; omega)
        have hnx := fun ty => next_at (P := Tryd.prog) wr w.heap.size s i ty HI.out hlt
        obtain ⟨c, k, hdec⟩ : ∃ c k, Utf8.decode s i = (c, k) := ⟨_, _, rfl⟩
        rw [hdec] at hnx hsk hhi
        simp only at hnx hsk hhi
        obtain ⟨hc, hk⟩ := hhi
        have hik : i + k ≤ s.size := by have := (hsk (k - 1) (by omega)).1; omega
        have HN2 : Hid (Lib.NoAny s.data.toList dlB.data.toList (i + k)) := noAny_more HN.out hsk
        obtain ⟨w1, hw1⟩ : ∃ w1, w1 = { wr with heap := wr.heap.setIfInBounds w.heap.size (.stringIter s (i + k)) } := ⟨_, rfl⟩
        obtain ⟨m1, m2⟩ := iter_moved (k := i + k) HI.out HB.out
        rw [← hw1] at m1 m2 hnx
        have M1 : Hid (w1.heap[w.heap.size]? = some (.stringIter s (i + k))) := m1
        have M2 : Hid (Below w.heap.size w w1) := m2
        have ML : w.heap.size < w1.heap.size := (Array.getElem?_eq_some_iff.1 m1).1
        have IR : Hid (Calls Tryd.prog 41 #[.string dlB, .int .i32 (c : Nat)] w1 fun e w' => e = .returned (.int .i64 (-1)) ∧ Below w1.heap.size w1 w') := indexRune_high _ _ (by omega)
        clear hxl hx hw1 m1 m2 hdec hsk
        go_wp2_with (go_at_call 41; go_must (refine IR.out.mono ?_; rintro e w' ⟨rfl, hb2⟩; have HB2 : Hid (Below w1.heap.size w1 w') := hb2; clear hb2))
        go_roundg g
        case measure => omega
        case rel => exact ⟨i + k, by omega, hik, (HB2.out.block _ ML).trans M1.out, M2.out.trans (HB2.out.mono (by omega)), HN2.out⟩
    · obtain rfl : i = s.size := by omega
      have hnx := fun ty => next_end (P := Tryd.prog) wr w.heap.size s s.size ty HI.out (by omega)
      go_wp2
      go_ret
      exact ⟨by rw [Lib.indexAny_none (by rw [← Lib.size_eq]; exact HN.out)]; rfl, HB.out⟩
/-- The answer of strings.IndexAny of the six signs, in any text. -/
theorem indexAny_any (s : ByteArray) (w : World) (hs : s.size ≤ 1048576) :
    Calls Tryd.prog 31 #[.string s, .string dlB] w fun e w' => e = .returned (.int .i64 (Lib.indexAny s.data.toList dlB.data.toList)) ∧ Below w.heap.size w w' := by
  by_cases h8 : s.size ≤ 8
  · exact indexAny_short s w h8
  · have hz : ∀ w, (zeroValue 56).run Tryd.prog w = .ok (.agg (Array.replicate 256 (.bool false))) w := (zero_of_info (by kernel_rfl : (Tryd.prog.info? 56).map (fun i => (i.zero, i.size)) = some (some (.agg (Array.replicate 256 (.bool false))), 256))).1
    refine (Tryd.strings_IndexAny_long hz s dlB w (by decide) (by omega) (by omega) (by decide) (fun j b hb => dlB_ascii b (List.mem_of_getElem? hb))).mono fun e w' ⟨h1, h2⟩ => ⟨h1, ?_⟩
    rw [h2]
    exact ((Below.refl _ _).alloc (Nat.le_refl _) _).alloc (by simp) _
end Go.Proofs.YtafehfpjogbmfaaDoor
