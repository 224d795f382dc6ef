/-
  The specification's ModuleOk, by contract: l02Plain.
-/
import Derived.Test.YthieikohcoajbaaDoorModOkSpecA
namespace Go.Proofs.YthieikohcoajbaaDoor
open Go.ChangeShapes Go.WideShapes Go.ChangeAt Go.RowKit
set_option linter.unusedVariables false

theorem ops_at (W : World) (g : Nat) (hg : g = W.heap.size) : ∀ i x, opsL[i]? = some x → (W.alloc (.cells #[.string ⟨#[61, 61]⟩, .string ⟨#[60]⟩, .string ⟨#[43]⟩, .string ⟨#[45]⟩, .string ⟨#[42]⟩] 9)).cell? ⟨g, i, none⟩ = some (.string x) := by
  subst hg
  intro i x h
  match i, h with
  | 0, h => simp [opsL] at h; subst h; exact cell_new W _ _ 0 _ rfl
  | 1, h => simp [opsL] at h; subst h; exact cell_new W _ _ 1 _ rfl
  | 2, h => simp [opsL] at h; subst h; exact cell_new W _ _ 2 _ rfl
  | 3, h => simp [opsL] at h; subst h; exact cell_new W _ _ 3 _ rfl
  | 4, h => simp [opsL] at h; subst h; exact cell_new W _ _ 4 _ rfl
  | i + 5, h => simp [opsL] at h

set_option maxHeartbeats 8000000 in
set_option maxRecDepth 100000 in
theorem plainS_any (k n : Int) (t m : ByteArray) (p q : Option Addr) (nk c nc c' : Nat) (w : World) (hts : t.size ≤ maxLen) (hms : m.size ≤ maxLen) (hnk : nk ≤ 9223372036854775807) (hnc : nc ≤ 9223372036854775807) :
    Calls Tryd.prog 59 #[.agg #[.int .i64 k, .int .i64 n, .string t, .string m, .slice p nk c, .slice q nc c']] w fun e w' => e = .returned (.bool (plainB k n t m nk nc)) ∧ Below w.heap.size w w' := by
  by_cases c1 : ¬ k = 0 ∧ ¬ n = 0
  · obtain ⟨c1a, c1b⟩ := c1
    have HS : Hid (plainB k n t m nk nc = false) := by
      show _ = _
      simp [plainB, numB, c1a, c1b]
    have BL : Hid (Below w.heap.size w (w.alloc (.cells #[.int .i64 k, .int .i64 n, .string t, .string m, .slice p nk c, .slice q nc c'] 82))) := (Below.refl _ _).alloc (Nat.le_refl _) _
    go_enter Tryd.func59, Tryd.ntmps59
    go_wp2
    go_ret
    exact ⟨by rw [HS.out]; rfl, by first | exact BL.out | exact BL.out.alloc BL.out.size _⟩
  by_cases c2 : ¬ k = 8 ∧ ¬ m.toList = []
  · obtain ⟨c2a, c2b⟩ := c2
    have hm2 : (m.toList == []) = false := by simpa using c2b
    by_cases k0 : k = 0
    · subst k0
      have HS : Hid (plainB 0 n t m nk nc = false) := by
        show _ = _
        simp [plainB, modB, c2b]
      have BL : Hid (Below w.heap.size w (w.alloc (.cells #[.int .i64 0, .int .i64 n, .string t, .string m, .slice p nk c, .slice q nc c'] 82))) := (Below.refl _ _).alloc (Nat.le_refl _) _
      go_enter Tryd.func59, Tryd.ntmps59
      go_wp2
      go_ret
      exact ⟨by rw [HS.out]; rfl, by first | exact BL.out | exact BL.out.alloc BL.out.size _⟩
    · have n0 : n = 0 := Classical.byContradiction fun h => c1 ⟨k0, h⟩
      subst n0
      clear c1
      have HS : Hid (plainB k 0 t m nk nc = false) := by
        show _ = _
        simp [plainB, modB, c2a, c2b]
      have BL : Hid (Below w.heap.size w (w.alloc (.cells #[.int .i64 k, .int .i64 0, .string t, .string m, .slice p nk c, .slice q nc c'] 82))) := (Below.refl _ _).alloc (Nat.le_refl _) _
      go_enter Tryd.func59, Tryd.ntmps59
      go_wp2
      go_ret
      exact ⟨by rw [HS.out]; rfl, by first | exact BL.out | exact BL.out.alloc BL.out.size _⟩
  by_cases c3 : ¬ k = 10 ∧ ¬ nc = 0
  · obtain ⟨c3a, c3b⟩ := c3
    have hnc1 : (0 : Int) < (nc : Int) := by omega
    have hcl : inB nc (clsLo k) (clsHi k) = false := by simp [inB, clsLo, clsHi, c3a]; omega
    by_cases k0 : k = 0
    · subst k0
      have hm : m.toList = [] := Classical.byContradiction fun h => c2 ⟨by omega, h⟩
      have hm2 : (m.toList == []) = true := by simpa using hm
      clear c1 c2 hm
      have HS : Hid (plainB 0 n t m nk nc = false) := by
        show _ = _
        simp only [plainB, hcl]; simp
      have BL : Hid (Below w.heap.size w (w.alloc (.cells #[.int .i64 0, .int .i64 n, .string t, .string m, .slice p nk c, .slice q nc c'] 82))) := (Below.refl _ _).alloc (Nat.le_refl _) _
      go_enter Tryd.func59, Tryd.ntmps59
      go_wp2
      go_ret
      exact ⟨by rw [HS.out]; rfl, by first | exact BL.out | exact BL.out.alloc BL.out.size _⟩
    · have n0 : n = 0 := Classical.byContradiction fun h => c1 ⟨k0, h⟩
      subst n0
      clear c1
      by_cases k8 : k = 8
      · subst k8
        clear c2
        have HS : Hid (plainB 8 0 t m nk nc = false) := by
          show _ = _
          simp only [plainB, hcl]; simp
        have BL : Hid (Below w.heap.size w (w.alloc (.cells #[.int .i64 8, .int .i64 0, .string t, .string m, .slice p nk c, .slice q nc c'] 82))) := (Below.refl _ _).alloc (Nat.le_refl _) _
        go_enter Tryd.func59, Tryd.ntmps59
        go_wp2
        go_ret
        exact ⟨by rw [HS.out]; rfl, by first | exact BL.out | exact BL.out.alloc BL.out.size _⟩
      · have c3c : (k != 10) = true := by simpa using c3a
        have hnc2 : 0 < nc := by omega
        have hm : m.toList = [] := Classical.byContradiction fun h => c2 ⟨k8, h⟩
        have hm2 : (m.toList == []) = true := by simpa using hm
        clear c2 hm
        have HS : Hid (plainB k 0 t m nk nc = false) := by
          show _ = _
          simp only [plainB, hcl]; simp
        have BL : Hid (Below w.heap.size w (w.alloc (.cells #[.int .i64 k, .int .i64 0, .string t, .string m, .slice p nk c, .slice q nc c'] 82))) := (Below.refl _ _).alloc (Nat.le_refl _) _
        go_enter Tryd.func59, Tryd.ntmps59
        go_wp2
        go_ret
        exact ⟨by rw [HS.out]; rfl, by first | exact BL.out | exact BL.out.alloc BL.out.size _⟩
  have hm : k ≠ 8 → m.toList = [] := fun h8 => Classical.byContradiction fun h => c2 ⟨h8, h⟩
  have hn0 : k ≠ 0 → n = 0 := fun h0 => Classical.byContradiction fun h => c1 ⟨h0, h⟩
  have hc0 : k ≠ 10 → nc = 0 := fun h0 => Classical.byContradiction fun h => c3 ⟨h0, h⟩
  clear c1 c2 c3
  by_cases k0 : k = 0
  · subst k0
    obtain rfl := hc0 (by omega)
    have hm1 := hm (by omega)
    have hm2 : (m.toList == []) = true := by simpa using hm1
    clear hm hn0 hc0
    by_cases ht : t.toList = []
    · have ht2 : (t.toList == []) = true := by simpa using ht
      by_cases hk : nk = 0
      · subst hk
        have HS : Hid (plainB 0 n t m 0 0 = inB n 0 999999999) := by
          show _ = _
          (rw [Bool.eq_iff_iff]; simp [plainB, numB, modB, txtB, txtK, tkB, kidLo, kidHi, clsLo, clsHi, inB, ht, hm1])
        have BL : Hid (Below w.heap.size w (w.alloc (.cells #[.int .i64 0, .int .i64 n, .string t, .string m, .slice p 0 c, .slice q 0 c'] 82))) := (Below.refl _ _).alloc (Nat.le_refl _) _
        go_enter Tryd.func59, Tryd.ntmps59
        go_wp2_with (first | (go_at_call 23; go_must (refine (specAtomOk_any _ _ (by assumption)).mono ?_; rintro e w9 ⟨rfl, rfl⟩)) | (go_at_call 72; go_must (refine (specVarOk_any _ _ (by assumption)).mono ?_; rintro e w9 ⟨rfl, rfl⟩)) | (go_at_call 24; go_must (refine (l01In_any _ _ _ _).mono ?_; rintro e w9 ⟨rfl, rfl⟩)))
        go_ret
        exact ⟨by rw [HS.out]; rfl, by first | exact BL.out | exact BL.out.alloc BL.out.size _⟩
      · have hk2 : ((nk : Int) == 0) = false := by simp; omega
        have HS : Hid (plainB 0 n t m nk 0 = false) := by
          show _ = _
          (simp [plainB, numB, modB, txtB, txtK, tkB, kidLo, kidHi, clsLo, clsHi, inB, ht, hm1]; omega)
        have BL : Hid (Below w.heap.size w (w.alloc (.cells #[.int .i64 0, .int .i64 n, .string t, .string m, .slice p nk c, .slice q 0 c'] 82))) := (Below.refl _ _).alloc (Nat.le_refl _) _
        go_enter Tryd.func59, Tryd.ntmps59
        go_wp2_with (first | (go_at_call 23; go_must (refine (specAtomOk_any _ _ (by assumption)).mono ?_; rintro e w9 ⟨rfl, rfl⟩)) | (go_at_call 72; go_must (refine (specVarOk_any _ _ (by assumption)).mono ?_; rintro e w9 ⟨rfl, rfl⟩)) | (go_at_call 24; go_must (refine (l01In_any _ _ _ _).mono ?_; rintro e w9 ⟨rfl, rfl⟩)))
        go_ret
        exact ⟨by rw [HS.out]; rfl, by first | exact BL.out | exact BL.out.alloc BL.out.size _⟩
    · have ht2 : (t.toList == []) = false := by simpa using ht
      have HS : Hid (plainB 0 n t m nk 0 = false) := by
        show _ = _
        simp [plainB, numB, modB, txtB, txtK, tkB, kidLo, kidHi, clsLo, clsHi, inB, ht, hm1]
      have BL : Hid (Below w.heap.size w (w.alloc (.cells #[.int .i64 0, .int .i64 n, .string t, .string m, .slice p nk c, .slice q 0 c'] 82))) := (Below.refl _ _).alloc (Nat.le_refl _) _
      go_enter Tryd.func59, Tryd.ntmps59
      go_wp2
      go_ret
      exact ⟨by rw [HS.out]; rfl, by first | exact BL.out | exact BL.out.alloc BL.out.size _⟩
  by_cases k1 : k = 1
  · subst k1
    obtain rfl := hn0 (by omega)
    obtain rfl := hc0 (by omega)
    have hm1 := hm (by omega)
    have hm2 : (m.toList == []) = true := by simpa using hm1
    clear hm hn0 hc0
    cases ha : atomB t with
    | true =>
      have HS : Hid (plainB 1 0 t m nk 0 = ((nk : Int) == 0)) := by
        show _ = _
        (rw [Bool.eq_iff_iff]; simp [plainB, numB, modB, txtB, txtK, tkB, kidLo, kidHi, clsLo, clsHi, inB, ha, hm1] <;> omega)
      have BL : Hid (Below w.heap.size w (w.alloc (.cells #[.int .i64 1, .int .i64 0, .string t, .string m, .slice p nk c, .slice q 0 c'] 82))) := (Below.refl _ _).alloc (Nat.le_refl _) _
      go_enter Tryd.func59, Tryd.ntmps59
      go_wp2_with (first | (go_at_call 23; go_must (refine (specAtomOk_any _ _ (by assumption)).mono ?_; rintro e w9 ⟨rfl, rfl⟩; rw [ha])))
      go_ret
      exact ⟨by rw [HS.out]; rfl, by first | exact BL.out | exact BL.out.alloc BL.out.size _⟩
    | false =>
      have HS : Hid (plainB 1 0 t m nk 0 = false) := by
        show _ = _
        (simp [plainB, numB, modB, txtB, txtK, tkB, kidLo, kidHi, clsLo, clsHi, inB, ha])
      have BL : Hid (Below w.heap.size w (w.alloc (.cells #[.int .i64 1, .int .i64 0, .string t, .string m, .slice p nk c, .slice q 0 c'] 82))) := (Below.refl _ _).alloc (Nat.le_refl _) _
      go_enter Tryd.func59, Tryd.ntmps59
      go_wp2_with (first | (go_at_call 23; go_must (refine (specAtomOk_any _ _ (by assumption)).mono ?_; rintro e w9 ⟨rfl, rfl⟩; rw [ha])))
      go_ret
      exact ⟨by rw [HS.out]; rfl, by first | exact BL.out | exact BL.out.alloc BL.out.size _⟩
  by_cases k2 : k = 2
  · subst k2
    obtain rfl := hn0 (by omega)
    obtain rfl := hc0 (by omega)
    have hm1 := hm (by omega)
    have hm2 : (m.toList == []) = true := by simpa using hm1
    clear hm hn0 hc0
    cases ha : varB t with
    | true =>
      have HS : Hid (plainB 2 0 t m nk 0 = ((nk : Int) == 0)) := by
        show _ = _
        (rw [Bool.eq_iff_iff]; simp [plainB, numB, modB, txtB, txtK, tkB, kidLo, kidHi, clsLo, clsHi, inB, ha, hm1] <;> omega)
      have BL : Hid (Below w.heap.size w (w.alloc (.cells #[.int .i64 2, .int .i64 0, .string t, .string m, .slice p nk c, .slice q 0 c'] 82))) := (Below.refl _ _).alloc (Nat.le_refl _) _
      go_enter Tryd.func59, Tryd.ntmps59
      go_wp2_with (first | (go_at_call 72; go_must (refine (specVarOk_any _ _ (by assumption)).mono ?_; rintro e w9 ⟨rfl, rfl⟩; rw [ha])))
      go_ret
      exact ⟨by rw [HS.out]; rfl, by first | exact BL.out | exact BL.out.alloc BL.out.size _⟩
    | false =>
      have HS : Hid (plainB 2 0 t m nk 0 = false) := by
        show _ = _
        (simp [plainB, numB, modB, txtB, txtK, tkB, kidLo, kidHi, clsLo, clsHi, inB, ha])
      have BL : Hid (Below w.heap.size w (w.alloc (.cells #[.int .i64 2, .int .i64 0, .string t, .string m, .slice p nk c, .slice q 0 c'] 82))) := (Below.refl _ _).alloc (Nat.le_refl _) _
      go_enter Tryd.func59, Tryd.ntmps59
      go_wp2_with (first | (go_at_call 72; go_must (refine (specVarOk_any _ _ (by assumption)).mono ?_; rintro e w9 ⟨rfl, rfl⟩; rw [ha])))
      go_ret
      exact ⟨by rw [HS.out]; rfl, by first | exact BL.out | exact BL.out.alloc BL.out.size _⟩
  by_cases k3 : k = 3
  · subst k3
    obtain rfl := hn0 (by omega)
    obtain rfl := hc0 (by omega)
    have hm1 := hm (by omega)
    have hm2 : (m.toList == []) = true := by simpa using hm1
    clear hm hn0 hc0
    by_cases ht : t.toList = []
    · have ht2 : (t.toList == []) = true := by simpa using ht
      have HS : Hid (plainB 3 0 t m nk 0 = ((nk : Int) == 0)) := by
        show _ = _
        (rw [Bool.eq_iff_iff]; simp [plainB, numB, modB, txtB, txtK, tkB, kidLo, kidHi, clsLo, clsHi, inB, ht, hm1] <;> omega)
      have BL : Hid (Below w.heap.size w (w.alloc (.cells #[.int .i64 3, .int .i64 0, .string t, .string m, .slice p nk c, .slice q 0 c'] 82))) := (Below.refl _ _).alloc (Nat.le_refl _) _
      go_enter Tryd.func59, Tryd.ntmps59
      go_wp2
      go_ret
      exact ⟨by rw [HS.out]; rfl, by first | exact BL.out | exact BL.out.alloc BL.out.size _⟩
    · have ht2 : (t.toList == []) = false := by simpa using ht
      have HS : Hid (plainB 3 0 t m nk 0 = false) := by
        show _ = _
        simp [plainB, numB, modB, txtB, txtK, tkB, kidLo, kidHi, clsLo, clsHi, inB, ht, hm1]
      have BL : Hid (Below w.heap.size w (w.alloc (.cells #[.int .i64 3, .int .i64 0, .string t, .string m, .slice p nk c, .slice q 0 c'] 82))) := (Below.refl _ _).alloc (Nat.le_refl _) _
      go_enter Tryd.func59, Tryd.ntmps59
      go_wp2
      go_ret
      exact ⟨by rw [HS.out]; rfl, by first | exact BL.out | exact BL.out.alloc BL.out.size _⟩
  by_cases k4 : k = 4
  · subst k4
    obtain rfl := hn0 (by omega)
    obtain rfl := hc0 (by omega)
    have hm1 := hm (by omega)
    have hm2 : (m.toList == []) = true := by simpa using hm1
    clear hm hn0 hc0
    by_cases ht : t.toList = []
    · have ht2 : (t.toList == []) = true := by simpa using ht
      have HS : Hid (plainB 4 0 t m nk 0 = inB nk 1 20) := by
        show _ = _
        (rw [Bool.eq_iff_iff]; simp [plainB, numB, modB, txtB, txtK, tkB, kidLo, kidHi, clsLo, clsHi, inB, ht, hm1] <;> omega)
      have BL : Hid (Below w.heap.size w (w.alloc (.cells #[.int .i64 4, .int .i64 0, .string t, .string m, .slice p nk c, .slice q 0 c'] 82))) := (Below.refl _ _).alloc (Nat.le_refl _) _
      go_enter Tryd.func59, Tryd.ntmps59
      go_wp2_with (first | (go_at_call 23; go_must (refine (specAtomOk_any _ _ (by assumption)).mono ?_; rintro e w9 ⟨rfl, rfl⟩)) | (go_at_call 72; go_must (refine (specVarOk_any _ _ (by assumption)).mono ?_; rintro e w9 ⟨rfl, rfl⟩)) | (go_at_call 24; go_must (refine (l01In_any _ _ _ _).mono ?_; rintro e w9 ⟨rfl, rfl⟩)))
      go_ret
      exact ⟨by rw [HS.out]; rfl, by first | exact BL.out | exact BL.out.alloc BL.out.size _⟩
    · have ht2 : (t.toList == []) = false := by simpa using ht
      have HS : Hid (plainB 4 0 t m nk 0 = false) := by
        show _ = _
        simp [plainB, numB, modB, txtB, txtK, tkB, kidLo, kidHi, clsLo, clsHi, inB, ht, hm1]
      have BL : Hid (Below w.heap.size w (w.alloc (.cells #[.int .i64 4, .int .i64 0, .string t, .string m, .slice p nk c, .slice q 0 c'] 82))) := (Below.refl _ _).alloc (Nat.le_refl _) _
      go_enter Tryd.func59, Tryd.ntmps59
      go_wp2
      go_ret
      exact ⟨by rw [HS.out]; rfl, by first | exact BL.out | exact BL.out.alloc BL.out.size _⟩
  by_cases k5 : k = 5
  · subst k5
    obtain rfl := hn0 (by omega)
    obtain rfl := hc0 (by omega)
    have hm1 := hm (by omega)
    have hm2 : (m.toList == []) = true := by simpa using hm1
    clear hm hn0 hc0
    by_cases ht : t.toList = []
    · have ht2 : (t.toList == []) = true := by simpa using ht
      have HS : Hid (plainB 5 0 t m nk 0 = ((nk : Int) == 0)) := by
        show _ = _
        (rw [Bool.eq_iff_iff]; simp [plainB, numB, modB, txtB, txtK, tkB, kidLo, kidHi, clsLo, clsHi, inB, ht, hm1] <;> omega)
      have BL : Hid (Below w.heap.size w (w.alloc (.cells #[.int .i64 5, .int .i64 0, .string t, .string m, .slice p nk c, .slice q 0 c'] 82))) := (Below.refl _ _).alloc (Nat.le_refl _) _
      go_enter Tryd.func59, Tryd.ntmps59
      go_wp2
      go_ret
      exact ⟨by rw [HS.out]; rfl, by first | exact BL.out | exact BL.out.alloc BL.out.size _⟩
    · have ht2 : (t.toList == []) = false := by simpa using ht
      have HS : Hid (plainB 5 0 t m nk 0 = false) := by
        show _ = _
        simp [plainB, numB, modB, txtB, txtK, tkB, kidLo, kidHi, clsLo, clsHi, inB, ht, hm1]
      have BL : Hid (Below w.heap.size w (w.alloc (.cells #[.int .i64 5, .int .i64 0, .string t, .string m, .slice p nk c, .slice q 0 c'] 82))) := (Below.refl _ _).alloc (Nat.le_refl _) _
      go_enter Tryd.func59, Tryd.ntmps59
      go_wp2
      go_ret
      exact ⟨by rw [HS.out]; rfl, by first | exact BL.out | exact BL.out.alloc BL.out.size _⟩
  by_cases k6 : k = 6
  · subst k6
    obtain rfl := hn0 (by omega)
    obtain rfl := hc0 (by omega)
    have hm1 := hm (by omega)
    have hm2 : (m.toList == []) = true := by simpa using hm1
    clear hm hn0 hc0
    by_cases ht : t.toList = []
    · have ht2 : (t.toList == []) = true := by simpa using ht
      have HS : Hid (plainB 6 0 t m nk 0 = ((nk : Int) == 2)) := by
        show _ = _
        (rw [Bool.eq_iff_iff]; simp [plainB, numB, modB, txtB, txtK, tkB, kidLo, kidHi, clsLo, clsHi, inB, ht, hm1] <;> omega)
      have BL : Hid (Below w.heap.size w (w.alloc (.cells #[.int .i64 6, .int .i64 0, .string t, .string m, .slice p nk c, .slice q 0 c'] 82))) := (Below.refl _ _).alloc (Nat.le_refl _) _
      go_enter Tryd.func59, Tryd.ntmps59
      go_wp2
      go_ret
      exact ⟨by rw [HS.out]; rfl, by first | exact BL.out | exact BL.out.alloc BL.out.size _⟩
    · have ht2 : (t.toList == []) = false := by simpa using ht
      have HS : Hid (plainB 6 0 t m nk 0 = false) := by
        show _ = _
        simp [plainB, numB, modB, txtB, txtK, tkB, kidLo, kidHi, clsLo, clsHi, inB, ht, hm1]
      have BL : Hid (Below w.heap.size w (w.alloc (.cells #[.int .i64 6, .int .i64 0, .string t, .string m, .slice p nk c, .slice q 0 c'] 82))) := (Below.refl _ _).alloc (Nat.le_refl _) _
      go_enter Tryd.func59, Tryd.ntmps59
      go_wp2
      go_ret
      exact ⟨by rw [HS.out]; rfl, by first | exact BL.out | exact BL.out.alloc BL.out.size _⟩
  by_cases k7 : k = 7
  · subst k7
    obtain rfl := hn0 (by omega)
    obtain rfl := hc0 (by omega)
    have hm1 := hm (by omega)
    have hm2 : (m.toList == []) = true := by simpa using hm1
    clear hm hn0 hc0
    cases ha : opB t with
    | true =>
      have HOP : Hid (∀ i x, opsL[i]? = some x → ((w.alloc (.cells #[.int .i64 7, .int .i64 0, .string t, .string m, .slice p nk c, .slice q 0 c'] 82)).alloc (.cells #[.string ⟨#[61, 61]⟩, .string ⟨#[60]⟩, .string ⟨#[43]⟩, .string ⟨#[45]⟩, .string ⟨#[42]⟩] 9)).cell? ⟨w.heap.size + 1, i, none⟩ = some (.string x)) := ops_at _ _ (by simp only [alloc_hs])
      have HS : Hid (plainB 7 0 t m nk 0 = ((nk : Int) == 2)) := by
        show _ = _
        (rw [Bool.eq_iff_iff]; simp [plainB, numB, modB, txtB, txtK, tkB, kidLo, kidHi, clsLo, clsHi, inB, ha, hm1] <;> omega)
      have BL : Hid (Below w.heap.size w (w.alloc (.cells #[.int .i64 7, .int .i64 0, .string t, .string m, .slice p nk c, .slice q 0 c'] 82))) := (Below.refl _ _).alloc (Nat.le_refl _) _
      go_enter Tryd.func59, Tryd.ntmps59
      go_wp2_with (first | (go_at_call 73; go_must (refine (l01Has_any _ _ _ opsL t (by decide) (by exact HOP.out)).mono ?_; rintro e w9 ⟨rfl, rfl⟩; rw [opsL_any, ha])))
      go_ret
      exact ⟨by rw [HS.out]; rfl, by first | exact BL.out | exact BL.out.alloc BL.out.size _⟩
    | false =>
      have HOP : Hid (∀ i x, opsL[i]? = some x → ((w.alloc (.cells #[.int .i64 7, .int .i64 0, .string t, .string m, .slice p nk c, .slice q 0 c'] 82)).alloc (.cells #[.string ⟨#[61, 61]⟩, .string ⟨#[60]⟩, .string ⟨#[43]⟩, .string ⟨#[45]⟩, .string ⟨#[42]⟩] 9)).cell? ⟨w.heap.size + 1, i, none⟩ = some (.string x)) := ops_at _ _ (by simp only [alloc_hs])
      have HS : Hid (plainB 7 0 t m nk 0 = false) := by
        show _ = _
        (simp [plainB, numB, modB, txtB, txtK, tkB, kidLo, kidHi, clsLo, clsHi, inB, ha])
      have BL : Hid (Below w.heap.size w (w.alloc (.cells #[.int .i64 7, .int .i64 0, .string t, .string m, .slice p nk c, .slice q 0 c'] 82))) := (Below.refl _ _).alloc (Nat.le_refl _) _
      go_enter Tryd.func59, Tryd.ntmps59
      go_wp2_with (first | (go_at_call 73; go_must (refine (l01Has_any _ _ _ opsL t (by decide) (by exact HOP.out)).mono ?_; rintro e w9 ⟨rfl, rfl⟩; rw [opsL_any, ha])))
      go_ret
      exact ⟨by rw [HS.out]; rfl, by first | exact BL.out | exact BL.out.alloc BL.out.size _⟩
  by_cases k8 : k = 8
  · subst k8
    obtain rfl := hn0 (by omega)
    obtain rfl := hc0 (by omega)
    clear hm hn0 hc0
    cases ha : atomB t with
    | true =>
      by_cases hk : nk ≤ 6
      · have hk2 : (nk : Int) ≤ 6 := by omega
        by_cases hm1 : m.toList = []
        · have hm2 : (m.toList == []) = true := by simpa using hm1
          have HS : Hid (plainB 8 0 t m nk 0 = true) := by
            show _ = _
            (simp [plainB, numB, modB, txtB, txtK, tkB, kidLo, kidHi, clsLo, clsHi, inB, ha, hm1]; omega)
          have BL : Hid (Below w.heap.size w (w.alloc (.cells #[.int .i64 8, .int .i64 0, .string t, .string m, .slice p nk c, .slice q 0 c'] 82))) := (Below.refl _ _).alloc (Nat.le_refl _) _
          go_enter Tryd.func59, Tryd.ntmps59
          go_wp2_with (first | (go_at_call_of 23 t; go_must (refine (specAtomOk_any _ _ hts).mono ?_; rintro e w9 ⟨rfl, rfl⟩; rw [ha])))
          go_ret
          exact ⟨by rw [HS.out]; rfl, by first | exact BL.out | exact BL.out.alloc BL.out.size _⟩
        · have hm2 : (m.toList == []) = false := by simpa using hm1
          have HS : Hid (plainB 8 0 t m nk 0 = atomB m) := by
            show _ = _
            (rw [Bool.eq_iff_iff]; simp [plainB, numB, modB, txtB, txtK, tkB, kidLo, kidHi, clsLo, clsHi, inB, ha, hm1]; omega)
          have BL : Hid (Below w.heap.size w (w.alloc (.cells #[.int .i64 8, .int .i64 0, .string t, .string m, .slice p nk c, .slice q 0 c'] 82))) := (Below.refl _ _).alloc (Nat.le_refl _) _
          go_enter Tryd.func59, Tryd.ntmps59
          go_wp2_with (first | (go_at_call_of 23 t; go_must (refine (specAtomOk_any _ _ hts).mono ?_; rintro e w9 ⟨rfl, rfl⟩; rw [ha])) | (go_at_call_of 23 m; go_must (refine (specAtomOk_any _ _ hms).mono ?_; rintro e w9 ⟨rfl, rfl⟩)))
          go_ret
          exact ⟨by rw [HS.out]; rfl, by first | exact BL.out | exact BL.out.alloc BL.out.size _⟩
      · have hk2 : (6 : Int) < (nk : Int) := by omega
        have HS : Hid (plainB 8 0 t m nk 0 = false) := by
          show _ = _
          (simp [plainB, numB, modB, txtB, txtK, tkB, kidLo, kidHi, clsLo, clsHi, inB, ha]; omega)
        have BL : Hid (Below w.heap.size w (w.alloc (.cells #[.int .i64 8, .int .i64 0, .string t, .string m, .slice p nk c, .slice q 0 c'] 82))) := (Below.refl _ _).alloc (Nat.le_refl _) _
        go_enter Tryd.func59, Tryd.ntmps59
        go_wp2_with (first | (go_at_call_of 23 t; go_must (refine (specAtomOk_any _ _ hts).mono ?_; rintro e w9 ⟨rfl, rfl⟩; rw [ha])))
        go_ret
        exact ⟨by rw [HS.out]; rfl, by first | exact BL.out | exact BL.out.alloc BL.out.size _⟩
    | false =>
      have HS : Hid (plainB 8 0 t m nk 0 = false) := by
        show _ = _
        (simp [plainB, numB, modB, txtB, txtK, tkB, kidLo, kidHi, clsLo, clsHi, inB, ha])
      have BL : Hid (Below w.heap.size w (w.alloc (.cells #[.int .i64 8, .int .i64 0, .string t, .string m, .slice p nk c, .slice q 0 c'] 82))) := (Below.refl _ _).alloc (Nat.le_refl _) _
      go_enter Tryd.func59, Tryd.ntmps59
      go_wp2_with (first | (go_at_call_of 23 t; go_must (refine (specAtomOk_any _ _ hts).mono ?_; rintro e w9 ⟨rfl, rfl⟩; rw [ha])))
      go_ret
      exact ⟨by rw [HS.out]; rfl, by first | exact BL.out | exact BL.out.alloc BL.out.size _⟩
  by_cases k9 : k = 9
  · subst k9
    obtain rfl := hn0 (by omega)
    obtain rfl := hc0 (by omega)
    have hm1 := hm (by omega)
    have hm2 : (m.toList == []) = true := by simpa using hm1
    clear hm hn0 hc0
    by_cases ht : t.toList = []
    · have ht2 : (t.toList == []) = true := by simpa using ht
      have HS : Hid (plainB 9 0 t m nk 0 = ((nk : Int) == 2)) := by
        show _ = _
        (rw [Bool.eq_iff_iff]; simp [plainB, numB, modB, txtB, txtK, tkB, kidLo, kidHi, clsLo, clsHi, inB, ht, hm1] <;> omega)
      have BL : Hid (Below w.heap.size w (w.alloc (.cells #[.int .i64 9, .int .i64 0, .string t, .string m, .slice p nk c, .slice q 0 c'] 82))) := (Below.refl _ _).alloc (Nat.le_refl _) _
      go_enter Tryd.func59, Tryd.ntmps59
      go_wp2
      go_ret
      exact ⟨by rw [HS.out]; rfl, by first | exact BL.out | exact BL.out.alloc BL.out.size _⟩
    · have ht2 : (t.toList == []) = false := by simpa using ht
      have HS : Hid (plainB 9 0 t m nk 0 = false) := by
        show _ = _
        simp [plainB, numB, modB, txtB, txtK, tkB, kidLo, kidHi, clsLo, clsHi, inB, ht, hm1]
      have BL : Hid (Below w.heap.size w (w.alloc (.cells #[.int .i64 9, .int .i64 0, .string t, .string m, .slice p nk c, .slice q 0 c'] 82))) := (Below.refl _ _).alloc (Nat.le_refl _) _
      go_enter Tryd.func59, Tryd.ntmps59
      go_wp2
      go_ret
      exact ⟨by rw [HS.out]; rfl, by first | exact BL.out | exact BL.out.alloc BL.out.size _⟩
  by_cases k10 : k = 10
  · subst k10
    obtain rfl := hn0 (by omega)
    have hm1 := hm (by omega)
    have hm2 : (m.toList == []) = true := by simpa using hm1
    clear hm hn0 hc0
    by_cases ht : t.toList = []
    · have ht2 : (t.toList == []) = true := by simpa using ht
      by_cases hk : nk = 1
      · subst hk
        have HS : Hid (plainB 10 0 t m 1 nc = inB nc 1 20) := by
          show _ = _
          (rw [Bool.eq_iff_iff]; simp [plainB, numB, modB, txtB, txtK, tkB, kidLo, kidHi, clsLo, clsHi, inB, ht, hm1])
        have BL : Hid (Below w.heap.size w (w.alloc (.cells #[.int .i64 10, .int .i64 0, .string t, .string m, .slice p 1 c, .slice q nc c'] 82))) := (Below.refl _ _).alloc (Nat.le_refl _) _
        go_enter Tryd.func59, Tryd.ntmps59
        go_wp2_with (first | (go_at_call 23; go_must (refine (specAtomOk_any _ _ (by assumption)).mono ?_; rintro e w9 ⟨rfl, rfl⟩)) | (go_at_call 72; go_must (refine (specVarOk_any _ _ (by assumption)).mono ?_; rintro e w9 ⟨rfl, rfl⟩)) | (go_at_call 24; go_must (refine (l01In_any _ _ _ _).mono ?_; rintro e w9 ⟨rfl, rfl⟩)))
        go_ret
        exact ⟨by rw [HS.out]; rfl, by first | exact BL.out | exact BL.out.alloc BL.out.size _⟩
      · have hk2 : ((nk : Int) == 1) = false := by simp; omega
        have HS : Hid (plainB 10 0 t m nk nc = false) := by
          show _ = _
          (simp [plainB, numB, modB, txtB, txtK, tkB, kidLo, kidHi, clsLo, clsHi, inB, ht, hm1]; omega)
        have BL : Hid (Below w.heap.size w (w.alloc (.cells #[.int .i64 10, .int .i64 0, .string t, .string m, .slice p nk c, .slice q nc c'] 82))) := (Below.refl _ _).alloc (Nat.le_refl _) _
        go_enter Tryd.func59, Tryd.ntmps59
        go_wp2_with (first | (go_at_call 23; go_must (refine (specAtomOk_any _ _ (by assumption)).mono ?_; rintro e w9 ⟨rfl, rfl⟩)) | (go_at_call 72; go_must (refine (specVarOk_any _ _ (by assumption)).mono ?_; rintro e w9 ⟨rfl, rfl⟩)) | (go_at_call 24; go_must (refine (l01In_any _ _ _ _).mono ?_; rintro e w9 ⟨rfl, rfl⟩)))
        go_ret
        exact ⟨by rw [HS.out]; rfl, by first | exact BL.out | exact BL.out.alloc BL.out.size _⟩
    · have ht2 : (t.toList == []) = false := by simpa using ht
      have HS : Hid (plainB 10 0 t m nk nc = false) := by
        show _ = _
        simp [plainB, numB, modB, txtB, txtK, tkB, kidLo, kidHi, clsLo, clsHi, inB, ht, hm1]
      have BL : Hid (Below w.heap.size w (w.alloc (.cells #[.int .i64 10, .int .i64 0, .string t, .string m, .slice p nk c, .slice q nc c'] 82))) := (Below.refl _ _).alloc (Nat.le_refl _) _
      go_enter Tryd.func59, Tryd.ntmps59
      go_wp2
      go_ret
      exact ⟨by rw [HS.out]; rfl, by first | exact BL.out | exact BL.out.alloc BL.out.size _⟩
  obtain rfl := hn0 k0
  obtain rfl := hc0 k10
  have hm1 := hm k8
  have hm2 : (m.toList == []) = true := by simpa using hm1
  clear hm hn0 hc0 hm1
  have HS : Hid (plainB k 0 t m nk 0 = false) := by
    show _ = _
    (have : inB k 0 10 = false := by (simp [inB]; omega)); simp [plainB, this]
  have BL : Hid (Below w.heap.size w (w.alloc (.cells #[.int .i64 k, .int .i64 0, .string t, .string m, .slice p nk c, .slice q 0 c'] 82))) := (Below.refl _ _).alloc (Nat.le_refl _) _
  go_enter Tryd.func59, Tryd.ntmps59
  go_wp2
  go_ret
  exact ⟨by rw [HS.out]; rfl, by first | exact BL.out | exact BL.out.alloc BL.out.size _⟩
end Go.Proofs.YthieikohcoajbaaDoor
