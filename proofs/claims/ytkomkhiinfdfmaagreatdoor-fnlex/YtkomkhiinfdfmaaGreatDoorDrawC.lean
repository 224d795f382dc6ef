/-
  The small draws of chapter 1: each answers a short text or a number, and turns nothing that was there. Condition: the code is no longer than the law lets it be.
-/
import Derived.Test.YtkomkhiinfdfmaaGreatDoorDrawB
import Derived.Test.YtkomkhiinfdfmaaGreatDoorSpecDec
import Derived.Test.YtkomkhiinfdfmaaGreatDoorJoinMath
namespace Go.Proofs.YtkomkhiinfdfmaaGreatDoor
open Go.ChangeShapes Go.WideShapes Go.ChangeAt Go.RowKit
set_option linter.unusedVariables false
set_option maxRecDepth 100000

theorem intP_new {w : World} {p : Nat} (xs : List Int) (hc : Cur w p) (hm : xs.length ≤ 100) :
    Rows (w.alloc (.cells (xs.map (Value.int .i64)).toArray 3)) (fun g => g ≠ p) 1 HInt (.slice (some ⟨w.heap.size, 0, none⟩) xs.length xs.length) xs := by
  refine ⟨_, _, rfl, Nat.le_refl _, Nat.le_trans hm (by unfold maxLen; omega), fun hne => ⟨w.heap.size, 0, rfl, by have := hc.lt; omega, ?_, fun i x hi => ⟨[.int .i64 x], rfl, fun j hj => ?_, rfl⟩⟩⟩
  · exact (Blk.new (w := w)).lt
  · obtain rfl : j = 0 := by omega
    rw [show 0 + i * 1 + 0 = i by omega]
    exact (Blk.new (w := w)).cell i _ (by simp [hi])

set_option maxHeartbeats 2000000 in
theorem drawAtomOk_any (cv : Value) (xs : List Nat) (w : World) (hx : xs.length ≤ 1048576) (hr : Rows w All 1 HByte cv xs) :
    Calls Tryz.prog 14 #[cv] w fun e w' => ∃ s : ByteArray, s.size ≤ 100 ∧ e = .returned (.string s) ∧ Below w.heap.size w w' := by
  have L : ∀ x ∈ ([⟨#[97]⟩, ⟨#[97, 66, 95, 49]⟩, ⟨#[65]⟩, ⟨#[95]⟩, ⟨#[]⟩, ⟨#[99, 97, 115, 101]⟩, ⟨#[111, 102]⟩, ⟨#[101, 110, 100]⟩, ⟨#[97, 98, 99, 100, 101, 102, 103, 104, 105, 106]⟩, ⟨#[97, 98, 99, 100, 101, 102, 103, 104, 105, 106, 107]⟩, ⟨#[49, 97]⟩, ⟨#[97, 45, 98]⟩] : List ByteArray), x.size ≤ 100 := by decide
  go_enter Tryz.func14, Tryz.ntmps14
  go_wp2_with fail
  refine (l01New_any cv xs _ hx hr).mono ?_
  rintro e w1 ⟨p, rfl, hp, hc, hb⟩
  go_wp2_with fail
  refine (l01Pick_any p _ [⟨#[97]⟩, ⟨#[97, 66, 95, 49]⟩, ⟨#[65]⟩, ⟨#[95]⟩, ⟨#[]⟩, ⟨#[99, 97, 115, 101]⟩, ⟨#[111, 102]⟩, ⟨#[101, 110, 100]⟩, ⟨#[97, 98, 99, 100, 101, 102, 103, 104, 105, 106]⟩, ⟨#[97, 98, 99, 100, 101, 102, 103, 104, 105, 106, 107]⟩, ⟨#[49, 97]⟩, ⟨#[97, 45, 98]⟩] _ (hc.alloc _) (by decide) (by decide) (strP_new _ hc L (by decide))).mono ?_
  rintro e w2 ⟨s, hs, rfl, hc2, ho⟩
  go_wp2
  go_ret
  exact ⟨s, L s hs, rfl, Below.offP (hb.alloc hb.size _) ho hp (Nat.le_trans hb.size ((Below.refl _ _).alloc (Nat.le_refl _) _).size)⟩

set_option maxHeartbeats 2000000 in
theorem drawVarOk_any (cv : Value) (xs : List Nat) (w : World) (hx : xs.length ≤ 1048576) (hr : Rows w All 1 HByte cv xs) :
    Calls Tryz.prog 15 #[cv] w fun e w' => ∃ s : ByteArray, s.size ≤ 100 ∧ e = .returned (.string s) ∧ Below w.heap.size w w' := by
  have L : ∀ x ∈ ([⟨#[65]⟩, ⟨#[65, 66, 95, 49]⟩, ⟨#[97]⟩, ⟨#[95]⟩, ⟨#[]⟩, ⟨#[88]⟩, ⟨#[65, 98, 99, 100, 101, 102, 103, 104, 105, 106]⟩, ⟨#[65, 98, 99, 100, 101, 102, 103, 104, 105, 106, 107]⟩, ⟨#[49, 65]⟩] : List ByteArray), x.size ≤ 100 := by decide
  go_enter Tryz.func15, Tryz.ntmps15
  go_wp2_with fail
  refine (l01New_any cv xs _ hx hr).mono ?_
  rintro e w1 ⟨p, rfl, hp, hc, hb⟩
  go_wp2_with fail
  refine (l01Pick_any p _ [⟨#[65]⟩, ⟨#[65, 66, 95, 49]⟩, ⟨#[97]⟩, ⟨#[95]⟩, ⟨#[]⟩, ⟨#[88]⟩, ⟨#[65, 98, 99, 100, 101, 102, 103, 104, 105, 106]⟩, ⟨#[65, 98, 99, 100, 101, 102, 103, 104, 105, 106, 107]⟩, ⟨#[49, 65]⟩] _ (hc.alloc _) (by decide) (by decide) (strP_new _ hc L (by decide))).mono ?_
  rintro e w2 ⟨s, hs, rfl, hc2, ho⟩
  go_wp2
  go_ret
  exact ⟨s, L s hs, rfl, Below.offP (hb.alloc hb.size _) ho hp (Nat.le_trans hb.size ((Below.refl _ _).alloc (Nat.le_refl _) _).size)⟩

set_option maxHeartbeats 2000000 in
theorem drawDecText_any (cv : Value) (xs : List Nat) (w : World) (hx : xs.length ≤ 1048576) (hr : Rows w All 1 HByte cv xs) :
    Calls Tryz.prog 16 #[cv] w fun e w' => ∃ n : Int, -9223372036854775808 ≤ n ∧ n ≤ 9223372036854775807 ∧ e = .returned (.int .i64 n) ∧ Below w.heap.size w w' := by
  go_enter Tryz.func16, Tryz.ntmps16
  go_wp2_with fail
  refine (l01New_any cv xs _ hx hr).mono ?_
  rintro e w1 ⟨p, rfl, hp, hc, hb⟩
  go_wp2_with fail
  refine (l01Below_any p 100000 _ hc (by decide) (by decide)).mono ?_
  rintro e w2 ⟨x, hx, rfl, hc2, ho2⟩
  go_wp2_with fail
  have hb2 : Below w.heap.size w w2 := Below.offP hb ho2 hp hb.size
  refine (l01PickInt_any p _ [0, -1, 10, 9223372036854775807, -9223372036854775808, (x : Int)] _ (hc2.alloc _) (by simp) (by simp) (intP_new _ hc2 (by simp))).mono ?_
  rintro e w3 ⟨n, hn, rfl, hc3, ho3⟩
  go_wp2
  go_ret
  refine ⟨n, ?_, ?_, rfl, Below.offP (hb2.alloc hb2.size _) ho3 hp (Nat.le_trans hb2.size ((Below.refl _ _).alloc (Nat.le_refl _) _).size)⟩
  all_goals (simp only [List.mem_cons, List.not_mem_nil, or_false] at hn; omega)

set_option maxHeartbeats 2000000 in
theorem drawReadDec_any (cv : Value) (xs : List Nat) (w : World) (hx : xs.length ≤ 1048576) (hr : Rows w All 1 HByte cv xs) :
    Calls Tryz.prog 17 #[cv] w fun e w' => ∃ s : ByteArray, s.size ≤ 100 ∧ e = .returned (.string s) ∧ Below w.heap.size w w' := by
  have L : ∀ x ∈ ([⟨#[]⟩, ⟨#[45, 49]⟩, ⟨#[48, 48]⟩, ⟨#[48, 49]⟩, ⟨#[49, 120]⟩, ⟨#[57, 57, 57, 57, 57, 57]⟩, ⟨#[49, 48, 48, 48, 48, 48, 48]⟩] : List ByteArray), x.size ≤ 100 := by decide
  go_enter Tryz.func17, Tryz.ntmps17
  go_wp2_with fail
  refine (l01New_any cv xs _ hx hr).mono ?_
  rintro e w1 ⟨p, rfl, hp, hc, hb⟩
  go_wp2_with fail
  refine (l01Once_any p 3 _ hc (by decide) (by decide)).mono ?_
  rintro e w2 ⟨b, rfl, hc2, ho2⟩
  have hb2 : Below w.heap.size w w2 := Below.offP hb ho2 hp hb.size
  cases b with
  | true =>
    go_wp2_with fail
    refine (l01Pick_any p _ [⟨#[]⟩, ⟨#[45, 49]⟩, ⟨#[48, 48]⟩, ⟨#[48, 49]⟩, ⟨#[49, 120]⟩, ⟨#[57, 57, 57, 57, 57, 57]⟩, ⟨#[49, 48, 48, 48, 48, 48, 48]⟩] _ (hc2.alloc _) (by decide) (by decide) (strP_new _ hc2 L (by decide))).mono ?_
    rintro e w3 ⟨s, hs, rfl, hc3, ho3⟩
    go_wp2
    go_ret
    exact ⟨s, L s hs, rfl, Below.offP (hb2.alloc hb2.size _) ho3 hp (Nat.le_trans hb2.size ((Below.refl _ _).alloc (Nat.le_refl _) _).size)⟩
  | false =>
    go_wp2_with fail
    refine (l01Below_any p 100000 _ hc2 (by decide) (by decide)).mono ?_
    rintro e w3 ⟨x, hx, rfl, hc3, ho3⟩
    have hb3 : Below w.heap.size w w3 := Below.offP hb2 ho3 hp hb2.size
    go_wp2_with fail
    refine (specDecText_any x w3 (by omega) (by omega)).mono ?_
    rintro e w4 ⟨rfl, rfl⟩
    go_wp2
    go_ret
    have hl := itoa_len x (by omega) (by omega)
    exact ⟨_, by show (Lib.itoa (x : Int)).toArray.size ≤ 100; rw [List.size_toArray]; omega, rfl, hb3⟩

set_option maxHeartbeats 2000000 in
theorem drawWords_any (cv : Value) (xs : List Nat) (w : World) (hx : xs.length ≤ 1048576) (hr : Rows w All 1 HByte cv xs) :
    Calls Tryz.prog 18 #[cv] w fun e w' => ∃ s : ByteArray, s.size ≤ 1000 ∧ e = .returned (.string s) ∧ Below w.heap.size w w' := by
  have L : ∀ x ∈ ([⟨#[97]⟩, ⟨#[32]⟩, ⟨#[98, 99]⟩, ⟨#[32]⟩, ⟨#[]⟩] : List ByteArray), x.size ≤ 2 := by decide
  go_enter Tryz.func18, Tryz.ntmps18
  go_wp2_with fail
  refine (l01New_any cv xs _ hx hr).mono ?_
  rintro e w1 ⟨p, rfl, hp, hc, hb⟩
  go_wp2_with fail
  refine (l01Below_any p 6 _ hc (by decide) (by decide)).mono ?_
  rintro e w2 ⟨n, hn, rfl, hc2, ho2⟩
  have hb2 : Below w.heap.size w w2 := Below.offP hb ho2 hp hb.size
  have HB : Hid (Below w.heap.size w w2) := hb2
  have HC : Hid (Cur w2 p) := hc2
  clear hb2 hc2 hc hb ho2
  go_wp2_with fail
  go_loopw [4, 6] (fun sv iv wr => ∃ (k : Nat) (s : ByteArray), k ≤ n ∧ s.size ≤ 2 * k ∧ sv = .string s ∧ iv = .int .i64 k ∧ Cur wr p ∧ Below w.heap.size w wr) (fun _ iv _ => n - (intOf iv).toNat)
  case atStart => exact ⟨0, ⟨#[]⟩, Nat.zero_le _, Nat.le_refl _, rfl, rfl, HC.out, HB.out⟩
  case round =>
    obtain ⟨k, s, hk, hs, rfl, rfl, hc3, hb3⟩ := hrel
    by_cases hlt : k < n
    · go_wp2_with fail
      refine (l01Pick_any p _ [⟨#[97]⟩, ⟨#[32]⟩, ⟨#[98, 99]⟩, ⟨#[32]⟩, ⟨#[]⟩] _ (hc3.alloc _) (by decide) (by decide) (strP_new _ hc3 (fun x hx => Nat.le_trans (L x hx) (by decide)) (by decide))).mono ?_
      rintro e w4 ⟨t, ht, rfl, hc4, ho4⟩
      have hL := L t ht
      have hb4 := Below.offP (hb3.alloc hb3.size _) ho4 hp (Nat.le_trans hb3.size ((Below.refl _ _).alloc (Nat.le_refl _) _).size)
      go_wp2
      trace_state
      exact ⟨⟨k + 1, s ++ t, by omega, by rw [ByteArray.size_append]; omega, rfl, by go_num, hc4, hb4⟩, by simp [intOf]; omega⟩
    · go_wp2_with fail
      go_ret
      exact ⟨s, by omega, rfl, hb3⟩
end Go.Proofs.YtkomkhiinfdfmaaGreatDoor
