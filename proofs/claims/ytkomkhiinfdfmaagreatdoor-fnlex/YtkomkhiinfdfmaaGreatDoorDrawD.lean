/-
  The drawn expression of chapter 1: a text that is not long; nothing but the cursor turns.
-/
import Derived.Test.YtkomkhiinfdfmaaGreatDoorDrawB
import Derived.Laws.AppendOwn
namespace Go.Proofs.YtkomkhiinfdfmaaGreatDoor
open Go.ChangeShapes Go.WideShapes Go.ChangeAt Go.RowKit
set_option linter.unusedVariables false
set_option maxRecDepth 100000

def eb : Nat → Nat
  | 0 => 10
  | d + 1 => 4 * eb d + 100
def smallS (m : Nat) (xs : List ByteArray) : Prop := (0 < xs.length ∧ xs.length ≤ m) ∧ ∀ x ∈ xs, x.size ≤ 10
theorem smallS.cons {m : Nat} {xs : List ByteArray} {y : ByteArray} (h : smallS m xs) (hy : y.size ≤ 10) : smallS (m + 1) (y :: xs) :=
  ⟨⟨by simp, by simpa using h.1.2⟩, fun x hx => by rcases List.mem_cons.1 hx with rfl | hx; exact hy; exact h.2 x hx⟩
theorem OwnS.lit {w : World} (xs : List ByteArray) (hm : xs.length ≤ 100) : OwnS (w.alloc (.cells (strs xs).toArray 9)) w.heap.size (.slice (some ⟨w.heap.size, 0, none⟩) xs.length xs.length) xs := by
  refine ⟨?_, ((Below.refl _ _).alloc (Nat.le_refl _) _).size⟩
  have := World.ownsRow_lit (e := 9) (size := 1) w (strs xs).toArray xs.length (Nat.le_refl _) (Nat.le_trans hm (by unfold maxLen; omega)) (by rw [List.size_toArray, strs_length]; omega)
  simpa using this
theorem StrP.news {w : World} {p n cap : Nat} {ad : Addr} {xs : List ByteArray} (h : StrP w p (.slice (some ad) n cap) xs) : ∀ j u, (strs xs)[j]? = some u → w.cell? (ad.add j) = some u := by
  intro j u hj
  obtain ⟨sp, cap', e, _, _, hat⟩ := StrP.at h
  obtain ⟨s, hs, rfl⟩ : ∃ s, xs[j]? = some s ∧ u = .string s := by
    simp only [strs, List.getElem?_map, Option.map_eq_some_iff] at hj
    obtain ⟨s, hs, e⟩ := hj
    exact ⟨s, hs, e.symm⟩
  obtain ⟨g, off, e2, hcell, _⟩ := hat j s hs
  subst e2
  simp only [Value.slice.injEq, Option.some.injEq] at e
  have ea : (⟨g, off, none⟩ : Addr).add j = ⟨g, off + j, none⟩ := by cases j <;> simp [Addr.add]
  rw [e.1, ea]
  exact hcell
theorem after_append {w w' : World} {p : Nat} {y : ByteArray} {xs : List ByteArray} {v' : Value} {m : Nat} (hc : Cur w p) (hy : y.size ≤ 10) (hs : smallS m xs)
    (hown : w'.ownsRow w.heap.size 9 1 v' ([y].length + xs.length) (strs [y] ++ strs xs)) (hg : (w.alloc (.cells (strs [y]).toArray 9)).grownBy w' (some w.heap.size)) : Cur w' p ∧ Off [p] w w' ∧ StrP w' p v' (y :: xs) := by
  have hB : Below w.heap.size w w' := by
    have h1 : Below w.heap.size w (w.alloc (.cells (strs [y]).toArray 9)) := (Below.refl _ _).alloc (Nat.le_refl _) _
    exact h1.trans ⟨hg.os, hg.tape, hg.output, hg.size, fun j hj => hg.block j (Nat.lt_of_lt_of_le hj h1.size) (by simp; omega)⟩
  refine ⟨hc.next hB, Off.of_below hB, ?_⟩
  have ho : OwnS w' w.heap.size v' ([y] ++ xs) := OwnS.of hown (by simp; omega) rfl hB.size
  have hlt := hc.lt
  refine Rows.mono (ho.rows (fun x hx => ?_)) ⟨Nat.le_refl _, fun _ _ _ => rfl⟩ (fun g (hg : w.heap.size ≤ g) => by omega) (fun _ _ _ h => h)
  rcases List.mem_append.1 hx with hx | hx
  · simp at hx; subst hx; exact okS_small (by omega)
  · exact okS_small (Nat.le_trans (hs.2 x hx) (by decide))

set_option maxHeartbeats 4000000 in
theorem l01Exp_zero (p : Nat) (v : Value) (xs : List ByteArray) (deep : Int) (w : World) (hd : deep ≤ 0) (hd' : -2 ≤ deep) (hc : Cur w p) (hr : StrP w p v xs) (hs : smallS 20 xs) :
    Calls Tryz.prog 113 #[.pointer (some ⟨p, 0, none⟩), v, .int .i64 deep] w fun e w' => ∃ s : ByteArray, s.size ≤ 10 ∧ e = .returned (.string s) ∧ Cur w' p ∧ Off [p] w w' := by
  have L : ∀ x ∈ ([⟨#[49]⟩, ⟨#[50]⟩, ⟨#[48]⟩, ⟨#[111, 107]⟩, ⟨#[91, 93]⟩, ⟨#[110, 111]⟩, ⟨#[55]⟩] : List ByteArray), x.size ≤ 10 := by decide
  have HR : Hid (StrP w p v xs) := hr
  obtain ⟨⟨h0, hl⟩, hsz⟩ := hs
  have HS : Hid (∀ x ∈ xs, x.size ≤ 10) := hsz
  obtain ⟨sp, cap, rfl, hl1, hl2, -⟩ := hr
  clear hsz
  · go_enter Tryz.func113, Tryz.ntmps113
    go_wp2_with fail
    refine (l01Once_any p 3 _ hc (by decide) (by decide)).mono ?_
    rintro e w2 ⟨b, rfl, hc2, ho2⟩
    cases b with
    | true =>
      go_wp2_with fail
      refine (l01Pick_any p _ [⟨#[49]⟩, ⟨#[50]⟩, ⟨#[48]⟩, ⟨#[111, 107]⟩, ⟨#[91, 93]⟩, ⟨#[110, 111]⟩, ⟨#[55]⟩] _ (hc2.alloc _) (by decide) (by decide) (strP_new _ hc2 (fun x hx => Nat.le_trans (L x hx) (by decide)) (by decide))).mono ?_
      rintro e w3 ⟨s, hs, rfl, hc3, ho3⟩
      go_wp2
      go_ret
      exact ⟨s, L s hs, rfl, hc3, (ho2.trans (Off.of_below ((Below.refl _ _).alloc (Nat.le_refl _) _))).trans ho3⟩
    | false =>
      go_wp2_with fail
      refine (l01Pick_any p _ xs _ hc2 (by omega) h0 (HR.out.off ho2)).mono ?_
      rintro e w3 ⟨s, hs, rfl, hc3, ho3⟩
      go_wp2
      go_ret
      exact ⟨s, HS.out s hs, rfl, hc3, ho2.trans ho3⟩

def ExpC (m E : Nat) (deep : Int) : Prop := ∀ (p : Nat) (v : Value) (xs : List ByteArray) (w : World), Cur w p → StrP w p v xs → smallS m xs →
    Calls Tryz.prog 113 #[.pointer (some ⟨p, 0, none⟩), v, .int .i64 deep] w fun e w' => ∃ s : ByteArray, s.size ≤ E ∧ e = .returned (.string s) ∧ Cur w' p ∧ Off [p] w w'
theorem smallS.more {m m' : Nat} {xs : List ByteArray} (h : smallS m xs) (hm : m ≤ m') : smallS m' xs := ⟨⟨h.1.1, Nat.le_trans h.1.2 hm⟩, h.2⟩

set_option maxHeartbeats 8000000 in
theorem l01Exp_step (m E : Nat) (deep : Int) (hd : 1 ≤ deep) (hd2 : deep ≤ 10) (hm : m ≤ 20) (hE : E ≤ 20000) (IH1 : ExpC (m + 1) E (deep - 1)) (IH2 : ExpC (m + 1) E (deep - 2)) : ExpC m (4 * E + 100) deep := by
  intro p v xs w hc hr hs
  have HR : Hid (StrP w p v xs) := hr
  have HS : Hid (smallS m xs) := hs
  have I1 : Hid (ExpC (m + 1) E (deep - 1)) := IH1
  have I2 : Hid (ExpC (m + 1) E (deep - 2)) := IH2
  have hl := hs.1.2
  have h0 := hs.1.1
  clear IH1 IH2 hs
  obtain ⟨sp, cap, rfl, hl1, hl2, hrow⟩ := hr
  obtain ⟨rg, ro, rfl, -⟩ := hrow (by intro e; rw [e] at h0; simp at h0)
  obtain ⟨i, hi, hz0, hz1, hz2⟩ := info_parts info_str
  go_enter Tryz.func113, Tryz.ntmps113
  go_wp2_with fail
  refine (I1.out p _ xs _ hc HR.out (HS.out.more (Nat.le_succ _))).mono ?_
  rintro e w1 ⟨a, ha, rfl, hc1, ho1⟩
  go_wp2_with fail
  refine (l01Below_any p 12 _ hc1 (by decide) (by decide)).mono ?_
  rintro e w2 ⟨x, hx, rfl, hc2, ho2⟩
  have ho02 := ho1.trans ho2
  have HR2 : Hid (StrP w2 p (.slice (some ⟨rg, ro, none⟩) xs.length cap) xs) := HR.out.off ho02
  have HC2 : Hid (Cur w2 p) := hc2
  have HO2 : Hid (Off [p] w w2) := ho02
  clear ho02 ho1 ho2 hc1 hc2 hc HR
  rcases (by omega : x = 0 ∨ x = 1 ∨ x = 2 ∨ x = 3 ∨ x = 4 ∨ x = 5 ∨ x = 6 ∨ x = 7 ∨ x = 8 ∨ 9 ≤ x) with rfl | rfl | rfl | rfl | rfl | rfl | rfl | rfl | rfl | h9
  · go_wp2_with fail
    refine (l01Pick_any p _ [⟨#[32, 43, 32]⟩, ⟨#[32, 45, 32]⟩, ⟨#[32, 42, 32]⟩, ⟨#[32, 61, 61, 32]⟩, ⟨#[32, 60, 32]⟩] _ (HC2.out.alloc _) (by decide) (by decide) (strP_new _ HC2.out (by decide) (by decide))).mono ?_
    rintro e w3 ⟨t, ht, rfl, hc3, ho3⟩
    have hO3 := (HO2.out.trans (Off.of_below ((Below.refl _ _).alloc (Nat.le_refl _) _))).trans ho3
    have ht4 : t.size ≤ 4 := (by decide : ∀ x ∈ ([⟨#[32, 43, 32]⟩, ⟨#[32, 45, 32]⟩, ⟨#[32, 42, 32]⟩, ⟨#[32, 61, 61, 32]⟩, ⟨#[32, 60, 32]⟩] : List ByteArray), x.size ≤ 4) t ht
    clear ht
    go_wp2_with fail
    refine (I2.out p _ xs _ hc3 ((Rows.off HR2.out (Off.of_below ((Below.refl _ _).alloc (Nat.le_refl _) _))).off ho3) (HS.out.more (Nat.le_succ _))).mono ?_
    rintro e w4 ⟨b, hb, rfl, hc4, ho4⟩
    go_wp2
    go_ret
    exact ⟨_, by simp only [ByteArray.size_append]; show 1 + _ + _ + _ + 1 ≤ _; omega, rfl, hc4, hO3.trans ho4⟩
  · go_wp2_with fail
    refine (l01Pick_any p _ [⟨#[32, 43, 32]⟩, ⟨#[32, 45, 32]⟩, ⟨#[32, 42, 32]⟩, ⟨#[32, 61, 61, 32]⟩, ⟨#[32, 60, 32]⟩] _ (HC2.out.alloc _) (by decide) (by decide) (strP_new _ HC2.out (by decide) (by decide))).mono ?_
    rintro e w3 ⟨t, ht, rfl, hc3, ho3⟩
    have hO3 := (HO2.out.trans (Off.of_below ((Below.refl _ _).alloc (Nat.le_refl _) _))).trans ho3
    have ht4 : t.size ≤ 4 := (by decide : ∀ x ∈ ([⟨#[32, 43, 32]⟩, ⟨#[32, 45, 32]⟩, ⟨#[32, 42, 32]⟩, ⟨#[32, 61, 61, 32]⟩, ⟨#[32, 60, 32]⟩] : List ByteArray), x.size ≤ 4) t ht
    clear ht
    go_wp2_with fail
    refine (I2.out p _ xs _ hc3 ((Rows.off HR2.out (Off.of_below ((Below.refl _ _).alloc (Nat.le_refl _) _))).off ho3) (HS.out.more (Nat.le_succ _))).mono ?_
    rintro e w4 ⟨b, hb, rfl, hc4, ho4⟩
    go_wp2
    go_ret
    exact ⟨_, by simp only [ByteArray.size_append]; show 1 + _ + _ + _ + 1 ≤ _; omega, rfl, hc4, hO3.trans ho4⟩
  · go_wp2_with fail
    refine (I2.out p _ xs _ HC2.out HR2.out (HS.out.more (Nat.le_succ _))).mono ?_
    rintro e w4 ⟨b, hb, rfl, hc4, ho4⟩
    go_wp2
    go_ret
    exact ⟨_, by simp only [ByteArray.size_append]; show 1 + _ + 2 + _ + 1 ≤ _; omega, rfl, hc4, HO2.out.trans ho4⟩
  · go_wp2_with fail
    refine (I2.out p _ xs _ HC2.out HR2.out (HS.out.more (Nat.le_succ _))).mono ?_
    rintro e w4 ⟨b, hb, rfl, hc4, ho4⟩
    go_wp2
    go_ret
    exact ⟨_, by simp only [ByteArray.size_append]; show 1 + _ + 3 + _ + 1 ≤ _; omega, rfl, hc4, HO2.out.trans ho4⟩
  · go_wp2
    go_ret
    exact ⟨_, by simp only [ByteArray.size_append]; show 4 + _ + 1 ≤ _; omega, rfl, HC2.out, HO2.out⟩
  · go_wp2
    go_ret
    exact ⟨_, by simp only [ByteArray.size_append]; show 4 + _ + 1 ≤ _; omega, rfl, HC2.out, HO2.out⟩
  · go_wp2_with fail
    refine (I2.out p _ xs _ HC2.out HR2.out (HS.out.more (Nat.le_succ _))).mono ?_
    rintro e w4 ⟨b, hb, rfl, hc4, ho4⟩
    go_wp2
    go_ret
    exact ⟨_, by simp only [ByteArray.size_append]; show 5 + _ + 2 + _ + 1 ≤ _; omega, rfl, hc4, HO2.out.trans ho4⟩
  · go_wp2
    go_ret
    exact ⟨_, by simp only [ByteArray.size_append]; show 8 + _ + 1 ≤ _; omega, rfl, HC2.out, HO2.out⟩
  · go_wp2_with fail
    refine (I1.out p _ xs _ HC2.out HR2.out (HS.out.more (Nat.le_succ _))).mono ?_
    rintro e w3 ⟨b1, hb1, rfl, hc3, ho3⟩
    have R3 : Hid (StrP w3 p (.slice (some ⟨rg, ro, none⟩) xs.length cap) xs) := Rows.off HR2.out ho3
    have O3 : Hid (OwnS (w3.alloc (.cells (strs [⟨#[75]⟩]).toArray 9)) w3.heap.size (.slice (some ⟨w3.heap.size, 0, none⟩) 1 1) [⟨#[75]⟩]) := OwnS.lit [⟨#[75]⟩] (by decide)
    have N3 : Hid (∀ j u, (strs xs)[j]? = some u → (w3.alloc (.cells (strs [⟨#[75]⟩]).toArray 9)).cell? ((⟨rg, ro, none⟩ : Addr).add j) = some u) := StrP.news (Rows.off R3.out (Off.of_below ((Below.refl _ _).alloc (Nat.le_refl _) _)))
    go_wp2_with (first | (at_builtin; refine wpList_append_own _ rfl _ _ 46 rfl w3.heap.size 9 i (.string ⟨#[]⟩) 1 16 Tryz.underlying46 hi hz0 hz1 hz2 rfl (by decide) _ _ _ rfl O3.out.1 _ xs.length cap (strs xs) rfl (by rw [strs_length]; omega) N3.out (strs_oneCell _) (by unfold maxLen; simp only [List.length_cons, List.length_nil]; omega) (by simp only [List.length_cons, List.length_nil]; omega) O3.out.2 ?_))
    intro u3 w4 hown3 hgr3 _
    obtain ⟨hcA3, hoA3, hrA3⟩ := after_append (y := ⟨#[75]⟩) hc3 (by decide) HS.out hown3 hgr3
    have RA3 : Hid (StrP w4 p u3 (⟨#[75]⟩ :: xs)) := hrA3
    clear hown3 hgr3 hrA3 O3 N3
    go_wp2_with fail
    refine (I1.out p _ _ _ hcA3 RA3.out (HS.out.cons (by decide))).mono ?_
    rintro e w5 ⟨b2, hb2, rfl, hc5, ho5⟩
    have R5 : Hid (StrP w5 p (.slice (some ⟨rg, ro, none⟩) xs.length cap) xs) := Rows.off (Rows.off R3.out hoA3) ho5
    have O5 : Hid (OwnS (w5.alloc (.cells (strs [⟨#[90]⟩]).toArray 9)) w5.heap.size (.slice (some ⟨w5.heap.size, 0, none⟩) 1 1) [⟨#[90]⟩]) := OwnS.lit [⟨#[90]⟩] (by decide)
    have N5 : Hid (∀ j u, (strs xs)[j]? = some u → (w5.alloc (.cells (strs [⟨#[90]⟩]).toArray 9)).cell? ((⟨rg, ro, none⟩ : Addr).add j) = some u) := StrP.news (Rows.off R5.out (Off.of_below ((Below.refl _ _).alloc (Nat.le_refl _) _)))
    go_wp2_with (first | (at_builtin; refine wpList_append_own _ rfl _ _ 46 rfl w5.heap.size 9 i (.string ⟨#[]⟩) 1 16 Tryz.underlying46 hi hz0 hz1 hz2 rfl (by decide) _ _ _ rfl O5.out.1 _ xs.length cap (strs xs) rfl (by rw [strs_length]; omega) N5.out (strs_oneCell _) (by unfold maxLen; simp only [List.length_cons, List.length_nil]; omega) (by simp only [List.length_cons, List.length_nil]; omega) O5.out.2 ?_))
    intro u5 w6 hown5 hgr5 _
    obtain ⟨hcA5, hoA5, hrA5⟩ := after_append (y := ⟨#[90]⟩) hc5 (by decide) HS.out hown5 hgr5
    have RA5 : Hid (StrP w6 p u5 (⟨#[90]⟩ :: xs)) := hrA5
    clear hown5 hgr5 hrA5 O5 N5
    go_wp2_with fail
    refine (I1.out p _ _ _ hcA5 RA5.out (HS.out.cons (by decide))).mono ?_
    rintro e w7 ⟨b3, hb3, rfl, hc7, ho7⟩
    have hO7 : Off [p] w w7 := ((((HO2.out.trans ho3).trans hoA3).trans ho5).trans hoA5).trans ho7
    go_wp2
    go_ret
    exact ⟨_, by simp only [ByteArray.size_append]; show 5 + _ + 9 + _ + 12 + _ + 26 + _ + 4 ≤ _; omega, rfl, hc7, hO7⟩
  · go_wp2
    go_ret
    exact ⟨a, by omega, rfl, HC2.out, HO2.out⟩

theorem ExpC.weak {m m' E E' : Nat} {deep : Int} (h : ExpC m E deep) (hm : m' ≤ m) (hE : E ≤ E') : ExpC m' E' deep := fun p v xs w hc hr hs =>
  (h p v xs w hc hr (hs.more hm)).mono fun e w' ⟨s, h1, h2⟩ => ⟨s, Nat.le_trans h1 hE, h2⟩
theorem exp_0 : ExpC 20 10 0 := fun p v xs w hc hr hs => l01Exp_zero p v xs 0 w (by decide) (by decide) hc hr hs
theorem exp_neg : ExpC 20 10 (-1) := fun p v xs w hc hr hs => l01Exp_zero p v xs (-1) w (by decide) (by decide) hc hr hs
theorem exp_1 : ExpC 19 140 1 := l01Exp_step 19 10 1 (by decide) (by decide) (by decide) (by decide) exp_0 exp_neg
theorem exp_2 : ExpC 18 660 2 := l01Exp_step 18 140 2 (by decide) (by decide) (by decide) (by decide) exp_1 (exp_0.weak (by decide) (by decide))
theorem exp_3 : ExpC 17 2740 3 := l01Exp_step 17 660 3 (by decide) (by decide) (by decide) (by decide) exp_2 (exp_1.weak (by decide) (by decide))
theorem exp_4 : ExpC 16 11060 4 := l01Exp_step 16 2740 4 (by decide) (by decide) (by decide) (by decide) exp_3 (exp_2.weak (by decide) (by decide))
end Go.Proofs.YtkomkhiinfdfmaaGreatDoor
