/-
  The drawn module's text of chapter 1, and the drawn text for Lex: not long; nothing but the cursor turns.
-/
import Derived.Test.YtkomkhiinfdfmaaGreatDoorDrawD
import Derived.Deep.RegionLaw
namespace Go.Proofs.YtkomkhiinfdfmaaGreatDoor
open Go.ChangeShapes Go.WideShapes Go.ChangeAt Go.RowKit
set_option linter.unusedVariables false
set_option maxRecDepth 100000

theorem StrP.some {w : World} {p : Nat} {v : Value} {xs : List ByteArray} {m : Nat} (h : StrP w p v xs) (hs : smallS m xs) : ∃ rg ro cap, v = .slice (Option.some ⟨rg, ro, none⟩) xs.length cap ∧ xs.length ≤ cap ∧ cap ≤ maxLen := by
  obtain ⟨sp, cap, rfl, h1, h2, hrow⟩ := h
  obtain ⟨rg, ro, rfl, -⟩ := hrow (by intro e; have := hs.1.1; rw [e] at this; simp at this)
  exact ⟨rg, ro, cap, rfl, h1, h2⟩

theorem cur_heap {w w' : World} {p : Nat} (h : Cur w p) (e : w'.heap = w.heap) : Cur w' p := by
  obtain ⟨cv, xs, i, h, hb', hi, hx, hr⟩ := h
  exact ⟨cv, xs, i, h, by unfold Blk at *; rw [e]; exact hb', hi, hx, Rows.mono hr ⟨by rw [e]; exact Nat.le_refl _, fun g _ _ => by rw [e]⟩ (fun _ h => h) (fun _ _ _ h => h)⟩
theorem strP_heap {w w' : World} {p : Nat} {v : Value} {xs : List ByteArray} (h : StrP w p v xs) (e : w'.heap = w.heap) : StrP w' p v xs :=
  Rows.mono h ⟨by rw [e]; exact Nat.le_refl _, fun g _ _ => by rw [e]⟩ (fun _ h => h) (fun _ _ _ h => h)

set_option maxHeartbeats 8000000 in
theorem l01Body_any (p : Nat) (v : Value) (xs : List ByteArray) (w : World) (hc : Cur w p) (hr : StrP w p v xs) (hs : smallS 12 xs) :
    Calls Tryz.prog 84 #[.pointer (some ⟨p, 0, none⟩), v] w fun e w' => ∃ s : ByteArray, s.size ≤ 5000 ∧ e = .returned (.string s) ∧ Cur w' p ∧ Off [p] w w' := by
  obtain ⟨i, hi, hz0, hz1, hz2⟩ := info_parts info_str
  have HR : Hid (StrP w p v xs) := hr
  have HS : Hid (smallS 12 xs) := hs
  clear hr hs
  go_enter Tryz.func84, Tryz.ntmps84
  go_wp2_with fail
  refine (l01Below_any p 3 _ hc (by decide) (by decide)).mono ?_
  rintro e w2 ⟨n, hn, rfl, hc2, ho2⟩
  have HC2 : Hid (Cur w2 p) := hc2
  have HO2 : Hid (Off [p] w w2) := ho2
  clear hc2 ho2 hc
  go_wp2_with fail
  go_loopw [1, 5, 7] (fun vv ov iv wr => ∃ (k : Nat) (s : ByteArray) (ys : List ByteArray), k ≤ n ∧ s.size ≤ 700 * k ∧ ov = .string s ∧ iv = .int .i64 k ∧ Hid (StrP wr p vv ys) ∧ Hid (smallS (12 + k) ys) ∧ Hid (Cur wr p) ∧ Hid (Off [p] w wr)) (fun _ _ iv _ => n - (intOf iv).toNat)
  case atStart => exact ⟨0, ⟨#[]⟩, xs, Nat.zero_le _, Nat.le_refl _, rfl, rfl, Rows.off HR.out HO2.out, HS.out, HC2.out, HO2.out⟩
  case round =>
    obtain ⟨k, s, ys, hk, hsz, rfl, rfl, RY, SY, CY, OY⟩ := hrel
    by_cases hlt : k < n
    · obtain ⟨rg, ro, cap, rfl, hcap, hcap2⟩ := StrP.some RY.out SY.out
      have hyl := SY.out.1.2
      rcases (by omega : k = 0 ∨ k = 1) with rfl | rfl
      · go_wp2_with fail
        refine (l01Once_any p 3 _ (CY.out.alloc _) (by decide) (by decide)).mono ?_
        rintro e w3 ⟨b, rfl, hc3, ho3⟩
        have hO3 : Off [p] w w3 := (OY.out.trans (Off.of_below ((Below.refl _ _).alloc (Nat.le_refl _) _))).trans ho3
        have R3 : Hid (StrP w3 p (.slice (some ⟨rg, ro, none⟩) ys.length cap) ys) := Rows.off (Rows.off RY.out (Off.of_below ((Below.refl _ _).alloc (Nat.le_refl _) _))) ho3
        cases b with
        | true =>
          go_wp2_with fail
          refine (exp_2 p _ ys _ hc3 R3.out (SY.out.more (by omega))).mono ?_
          rintro e w4 ⟨t, ht, rfl, hc4, ho4⟩
          go_wp2_with fail
          exact ⟨⟨0 + 1, _, ys, by omega, by simp only [ByteArray.size_append]; show _ + _ + 2 ≤ _; omega, rfl, by go_num, Rows.off R3.out ho4, SY.out.more (by omega), hc4, hO3.trans ho4⟩, by simp [intOf]; omega⟩
        | false =>
          go_wp2_with fail
          refine (exp_2 p _ ys _ hc3 R3.out (SY.out.more (by omega))).mono ?_
          rintro e w4 ⟨t, ht, rfl, hc4, ho4⟩
          have R4 : Hid (StrP w4 p (.slice (some ⟨rg, ro, none⟩) ys.length cap) ys) := Rows.off R3.out ho4
          have O4 : Hid (OwnS (w4.alloc (.cells (strs [⟨#[80]⟩]).toArray 9)) w4.heap.size (.slice (some ⟨w4.heap.size, 0, none⟩) 1 1) [⟨#[80]⟩]) := OwnS.lit [⟨#[80]⟩] (by decide)
          have N4 : Hid (∀ j u, (strs ys)[j]? = some u → (w4.alloc (.cells (strs [⟨#[80]⟩]).toArray 9)).cell? ((⟨rg, ro, none⟩ : Addr).add j) = some u) := StrP.news (Rows.off R4.out (Off.of_below ((Below.refl _ _).alloc (Nat.le_refl _) _)))
          go_wp2_with (first | (at_builtin; refine wpList_append_own _ rfl _ _ 46 rfl w4.heap.size 9 i (.string ⟨#[]⟩) 1 16 Tryz.underlying46 hi hz0 hz1 hz2 rfl (by decide) _ _ _ rfl O4.out.1 _ ys.length cap (strs ys) rfl (by rw [strs_length]; omega) N4.out (strs_oneCell _) (by unfold maxLen; simp only [List.length_cons, List.length_nil]; omega) (by simp only [List.length_cons, List.length_nil]; omega) O4.out.2 ?_))
          intro u5 w5 hown5 hgr5 _
          obtain ⟨hc5, ho5, hr5⟩ := after_append (y := ⟨#[80]⟩) hc4 (by decide) SY.out hown5 hgr5
          clear hown5 hgr5 O4 N4
          have R5 : Hid (StrP w5 p u5 (⟨#[80]⟩ :: ys)) := hr5
          clear hr5
          go_wp2_with fail
          exact ⟨⟨0 + 1, _, ⟨#[80]⟩ :: ys, by omega, by simp only [ByteArray.size_append]; show _ + 1 + 3 + _ + 2 ≤ _; omega, rfl, by go_num, R5.out, SY.out.cons (by decide), hc5, (hO3.trans ho4).trans ho5⟩, by simp [intOf]; omega⟩
      · go_wp2_with fail
        refine (l01Once_any p 3 _ (CY.out.alloc _) (by decide) (by decide)).mono ?_
        rintro e w3 ⟨b, rfl, hc3, ho3⟩
        have hO3 : Off [p] w w3 := (OY.out.trans (Off.of_below ((Below.refl _ _).alloc (Nat.le_refl _) _))).trans ho3
        have R3 : Hid (StrP w3 p (.slice (some ⟨rg, ro, none⟩) ys.length cap) ys) := Rows.off (Rows.off RY.out (Off.of_below ((Below.refl _ _).alloc (Nat.le_refl _) _))) ho3
        cases b with
        | true =>
          go_wp2_with fail
          refine (exp_2 p _ ys _ hc3 R3.out (SY.out.more (by omega))).mono ?_
          rintro e w4 ⟨t, ht, rfl, hc4, ho4⟩
          go_wp2_with fail
          exact ⟨⟨1 + 1, _, ys, by omega, by simp only [ByteArray.size_append]; show _ + _ + 2 ≤ _; omega, rfl, by go_num, Rows.off R3.out ho4, SY.out.more (by omega), hc4, hO3.trans ho4⟩, by simp [intOf]; omega⟩
        | false =>
          go_wp2_with fail
          refine (exp_2 p _ ys _ hc3 R3.out (SY.out.more (by omega))).mono ?_
          rintro e w4 ⟨t, ht, rfl, hc4, ho4⟩
          have R4 : Hid (StrP w4 p (.slice (some ⟨rg, ro, none⟩) ys.length cap) ys) := Rows.off R3.out ho4
          have O4 : Hid (OwnS (w4.alloc (.cells (strs [⟨#[81]⟩]).toArray 9)) w4.heap.size (.slice (some ⟨w4.heap.size, 0, none⟩) 1 1) [⟨#[81]⟩]) := OwnS.lit [⟨#[81]⟩] (by decide)
          have N4 : Hid (∀ j u, (strs ys)[j]? = some u → (w4.alloc (.cells (strs [⟨#[81]⟩]).toArray 9)).cell? ((⟨rg, ro, none⟩ : Addr).add j) = some u) := StrP.news (Rows.off R4.out (Off.of_below ((Below.refl _ _).alloc (Nat.le_refl _) _)))
          go_wp2_with (first | (at_builtin; refine wpList_append_own _ rfl _ _ 46 rfl w4.heap.size 9 i (.string ⟨#[]⟩) 1 16 Tryz.underlying46 hi hz0 hz1 hz2 rfl (by decide) _ _ _ rfl O4.out.1 _ ys.length cap (strs ys) rfl (by rw [strs_length]; omega) N4.out (strs_oneCell _) (by unfold maxLen; simp only [List.length_cons, List.length_nil]; omega) (by simp only [List.length_cons, List.length_nil]; omega) O4.out.2 ?_))
          intro u5 w5 hown5 hgr5 _
          obtain ⟨hc5, ho5, hr5⟩ := after_append (y := ⟨#[81]⟩) hc4 (by decide) SY.out hown5 hgr5
          clear hown5 hgr5 O4 N4
          have R5 : Hid (StrP w5 p u5 (⟨#[81]⟩ :: ys)) := hr5
          clear hr5
          go_wp2_with fail
          exact ⟨⟨1 + 1, _, ⟨#[81]⟩ :: ys, by omega, by simp only [ByteArray.size_append]; show _ + 1 + 3 + _ + 2 ≤ _; omega, rfl, by go_num, R5.out, SY.out.cons (by decide), hc5, (hO3.trans ho4).trans ho5⟩, by simp [intOf]; omega⟩
    · go_wp2_with fail
      refine (exp_3 p _ ys _ CY.out RY.out (SY.out.more (by omega))).mono ?_
      rintro e w4 ⟨t, ht, rfl, hc4, ho4⟩
      go_wp2
      go_ret
      exact ⟨_, by simp only [ByteArray.size_append]; omega, rfl, hc4, OY.out.trans ho4⟩

set_option maxHeartbeats 8000000 in
theorem l01Module_any (p : Nat) (w : World) (hc : Cur w p) :
    Calls Tryz.prog 43 #[.pointer (some ⟨p, 0, none⟩)] w fun e w' => ∃ s : ByteArray, s.size ≤ 6000 ∧ e = .returned (.string s) ∧ Cur w' p ∧ Off [p] w w' := by
  go_enter Tryz.func43, Tryz.ntmps43
  go_wp2_with fail
  refine (l01Once_any p 2 _ hc (by decide) (by decide)).mono ?_
  rintro e w1 ⟨b1, rfl, hc1, ho1⟩
  have SA : smallS 12 [(⟨#[65]⟩ : ByteArray)] := ⟨by decide, by decide⟩
  cases b1
  all_goals (
    go_wp2_with fail
    refine (l01Once_any p 3 _ hc1 (by decide) (by decide)).mono ?_
    rintro e w2 ⟨b2, rfl, hc2, ho2⟩
    cases b2)
  all_goals (
    go_wp2_with fail
    refine (l01Body_any p _ [⟨#[65]⟩] _ (hc2.alloc _) (strP_new [⟨#[65]⟩] hc2 (by decide) (by decide)) SA).mono ?_
    rintro e w3 ⟨t, ht, rfl, hc3, ho3⟩
    go_wp2
    go_ret
    exact ⟨_, by rw [ByteArray.size_append, ByteArray.size_append]; exact Nat.le_trans (Nat.add_le_add (Nat.add_le_add (Nat.le_of_ble_eq_true rfl : _ ≤ 300) ht) (Nat.le_of_ble_eq_true rfl : _ ≤ 2)) (by decide), rfl, hc3, ((ho1.trans ho2).trans (Off.of_below ((Below.refl _ _).alloc (Nat.le_refl _) _))).trans ho3⟩)

set_option maxHeartbeats 8000000 in
theorem l01Spoil_any (p : Nat) (s : ByteArray) (w : World) (hc : Cur w p) (hs : s.size ≤ 6000) :
    Calls Tryz.prog 45 #[.pointer (some ⟨p, 0, none⟩), .string s] w fun e w' => ∃ s : ByteArray, s.size ≤ 7000 ∧ e = .returned (.string s) ∧ Cur w' p ∧ Off [p] w w' := by
  have L : ∀ x ∈ ([⟨#[32]⟩, ⟨#[48]⟩, ⟨#[120]⟩, ⟨#[88]⟩, ⟨#[33]⟩, ⟨#[40]⟩, ⟨#[44, 32]⟩, ⟨#[46]⟩, ⟨#[95]⟩, ⟨#[37]⟩] : List ByteArray), x.size ≤ 10 := by decide
  go_enter Tryz.func45, Tryz.ntmps45
  go_wp2_with fail
  refine (l01Below_any p (s.size + 1) _ hc (by omega) (by omega)).mono ?_
  rintro e w1 ⟨i, hi, rfl, hc1, ho1⟩
  go_wp2_with fail
  refine (l01Below_any p 6 _ hc1 (by decide) (by decide)).mono ?_
  rintro e w2 ⟨x, hx, rfl, hc2, ho2⟩
  rcases (by omega : x = 0 ∨ x = 1 ∨ 2 ≤ x) with rfl | rfl | h2
  · go_wp2
    go_ret
    exact ⟨_, by simp only [ByteArray.size_extract]; omega, rfl, hc2, ho1.trans ho2⟩
  · go_wp2_with fail
    have hi1 : i ≤ s.size := by omega
    go_region_law (first | (go_simp; go_at_call 46; go_must (refine (l01Pick_any p _ [⟨#[32]⟩, ⟨#[48]⟩, ⟨#[120]⟩, ⟨#[88]⟩, ⟨#[33]⟩, ⟨#[40]⟩, ⟨#[44, 32]⟩, ⟨#[46]⟩, ⟨#[95]⟩, ⟨#[37]⟩] (w2.alloc (.cells (strs [⟨#[32]⟩, ⟨#[48]⟩, ⟨#[120]⟩, ⟨#[88]⟩, ⟨#[33]⟩, ⟨#[40]⟩, ⟨#[44, 32]⟩, ⟨#[46]⟩, ⟨#[95]⟩, ⟨#[37]⟩]).toArray 9)).drew (cur_heap (hc2.alloc _) rfl) (by decide) (by decide) (strP_heap (strP_new _ hc2 (fun x hx => Nat.le_trans (L x hx) (by decide)) (by decide)) rfl)).mono ?_; rintro e w3 ⟨t, ht, rfl, hc3, ho3⟩; have hL := L t ht; have q1 : ¬ 9223372036854775807 < i + t.size := (by omega); have q2 : ¬ 9223372036854775807 < i + t.size + (s.size - i) := (by omega); dsimp only)))
    go_wp2
    go_ret
    exact ⟨_, by simp only [ByteArray.size_append, ByteArray.size_extract]; omega, rfl, hc3, ((ho1.trans ho2).trans (Off.of_below (below_drewN ((Below.refl _ _).alloc (Nat.le_refl _) _) 1))).trans ho3⟩
  · go_wp2
    go_ret
    exact ⟨s, by omega, rfl, hc2, ho1.trans ho2⟩

def strLen : Value → Nat
  | .string s => s.size
  | _ => 0

set_option maxHeartbeats 8000000 in
theorem drawLex_any (cv : Value) (xs : List Nat) (w : World) (hx : xs.length ≤ 1048576) (hr : Rows w All 1 HByte cv xs) :
    Calls Tryz.prog 11 #[cv] w fun e w' => ∃ s : ByteArray, s.size ≤ 7000 ∧ e = .returned (.string s) ∧ Below w.heap.size w w' := by
  have L : ∀ x ∈ ([⟨#[57, 57, 57, 57, 57, 57, 57, 57, 57]⟩, ⟨#[49, 48, 48, 48, 48, 48, 48, 48, 48, 48]⟩, ⟨#[95, 120]⟩, ⟨#[37, 32, 97, 108, 108, 32, 37, 32, 111, 102, 32, 105, 116]⟩, ⟨#[97, 37, 98, 10, 99]⟩, ⟨#[61, 61]⟩, ⟨#[45, 62, 45]⟩, ⟨#[95]⟩] : List ByteArray), x.size ≤ 20 := by decide
  go_enter Tryz.func11, Tryz.ntmps11
  go_wp2_with fail
  refine (l01New_any cv xs _ hx hr).mono ?_
  rintro e w1 ⟨p, rfl, hp, hc1, hb1⟩
  go_wp2_with fail
  refine (l01Module_any p _ hc1).mono ?_
  rintro e w2 ⟨s, hs, rfl, hc2, ho2⟩
  have hb2 := Below.offP hb1 ho2 hp hb1.size
  go_wp2_with fail
  refine (l01Below_any p 12 _ hc2 (by decide) (by decide)).mono ?_
  rintro e w3 ⟨x, hx, rfl, hc3, ho3⟩
  have hb3 := Below.offP hb2 ho3 hp hb2.size
  clear hb1 hb2 ho2 ho3 hc1 hc2
  rcases (by omega : x = 0 ∨ x = 1 ∨ x = 2 ∨ 3 ≤ x) with rfl | rfl | rfl | h3
  · go_wp2_with fail
    refine (l01Spoil_any p s _ hc3 hs).mono ?_
    rintro e w4 ⟨t, ht, rfl, hc4, ho4⟩
    go_wp2
    go_ret
    exact ⟨t, ht, rfl, Below.offP hb3 ho4 hp hb3.size⟩
  · have HC3 : Hid (Cur w3 p) := hc3
    have HB3 : Hid (Below w.heap.size w w3) := hb3
    clear hc3 hb3
    go_wp2_with fail
    go_loopw [4] (fun sv wr => ∃ t : ByteArray, t.size ≤ 6500 ∧ sv = .string t ∧ Hid (Cur wr p) ∧ Hid (Below w.heap.size w wr)) (fun sv _ => 4002 - strLen sv)
    case atStart => exact ⟨s, by omega, rfl, HC3.out, HB3.out⟩
    case round =>
      obtain ⟨t, ht, rfl, CT, BT⟩ := hrel
      go_wp2_with fail
      refine (l01Below_any p 2 _ CT.out (by decide) (by decide)).mono ?_
      rintro e w4 ⟨x, hx, rfl, hc4, ho4⟩
      have hb4 := Below.offP BT.out ho4 hp BT.out.size
      by_cases hlt : t.size < 4000 + x
      · have hlt' : (t.size : Int) < 4000 + (x : Int) := by omega
        go_wp2_with fail
        exact ⟨⟨_, by rw [ByteArray.size_append]; show _ + 1 ≤ _; omega, rfl, hc4, hb4⟩, by simp only [strLen, ByteArray.size_append]; show 4002 - (t.size + 1) < _; omega⟩
      · have hlt' : ¬ (t.size : Int) < 4000 + (x : Int) := by omega
        go_wp2_with fail
        go_ret
        exact ⟨t, by omega, rfl, hb4⟩
  · go_wp2_with fail
    refine (l01Pick_any p _ [⟨#[57, 57, 57, 57, 57, 57, 57, 57, 57]⟩, ⟨#[49, 48, 48, 48, 48, 48, 48, 48, 48, 48]⟩, ⟨#[95, 120]⟩, ⟨#[37, 32, 97, 108, 108, 32, 37, 32, 111, 102, 32, 105, 116]⟩, ⟨#[97, 37, 98, 10, 99]⟩, ⟨#[61, 61]⟩, ⟨#[45, 62, 45]⟩, ⟨#[95]⟩] _ (hc3.alloc _) (by decide) (by decide) (strP_new _ hc3 (fun x hx => Nat.le_trans (L x hx) (by decide)) (by decide))).mono ?_
    rintro e w4 ⟨t, ht, rfl, hc4, ho4⟩
    have hL := L t ht
    go_wp2
    go_ret
    exact ⟨_, by simp only [ByteArray.size_append]; omega, rfl, Below.offP (hb3.alloc hb3.size _) ho4 hp (Nat.le_trans hb3.size ((Below.refl _ _).alloc (Nat.le_refl _) _).size)⟩
  · go_wp2
    go_ret
    exact ⟨s, by omega, rfl, hb3⟩
end Go.Proofs.YtkomkhiinfdfmaaGreatDoor
