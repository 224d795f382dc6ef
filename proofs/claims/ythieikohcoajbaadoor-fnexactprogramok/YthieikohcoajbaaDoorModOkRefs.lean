/-
  The program's and the specification's ModuleOk, by contract: names with their numbers.
-/
import Derived.Test.YthieikohcoajbaaDoorOrdBase
import Derived.Test.YthieikohcoajbaaDoorModOkImplA
namespace Go.Proofs.YthieikohcoajbaaDoor
open Go.ChangeShapes Go.WideShapes Go.ChangeAt Go.RowKit
set_option linter.unusedVariables false

def cmpRf (a b : Rf) : Int := or2 (cmpS a.name b.name) (cmpI a.arity b.arity)
def lessB (a b : Rf) : Bool := decide (cmpRf a b < 0)
def refB (r : Rf) : Bool := atomB r.name && inB r.arity 0 6
def sameR (r : Rf) (f : Fn') : Bool := f.name.toList == r.name.toList && f.arity == r.arity

set_option maxHeartbeats 2000000 in
theorem l02Less_any (a b : Rf) (w : World) : Calls Tryd.prog 25 #[.agg #[.string a.name, .int .i64 a.arity], .agg #[.string b.name, .int .i64 b.arity]] w fun e w' => e = .returned (.bool (lessB a b)) ∧ Below w.heap.size w w' := by
  obtain ⟨s, m⟩ := a
  obtain ⟨t, n⟩ := b
  have BL : Hid (Below w.heap.size w ((w.alloc (.cells #[.string s, .int .i64 m] 51)).alloc (.cells #[.string t, .int .i64 n] 51))) := ((Below.refl _ _).alloc (Nat.le_refl _) _).alloc (by simp) _
  simp only
  cases hb : Op.bytesLess s.toList t.toList with
  | true =>
    have HS : Hid (lessB ⟨s, m⟩ ⟨t, n⟩ = true) := by show _ = _; simp [lessB, cmpRf, or2, cmpS_lt hb]
    go_enter Tryd.func25, Tryd.ntmps25
    go_wp2
    go_ret
    exact ⟨by rw [HS.out]; rfl, BL.out⟩
  | false =>
    by_cases he : s = t
    · subst he
      have HS : Hid (lessB ⟨s, m⟩ ⟨s, n⟩ = decide (m < n)) := by
        show _ = _
        simp only [lessB, cmpRf, or2, cmpS_self, if_true, cmpI]
        by_cases h1 : m < n
        · simp [h1]
        · by_cases h2 : n < m <;> simp [h1, h2]
      go_enter Tryd.func25, Tryd.ntmps25
      go_wp2
      go_ret
      exact ⟨by rw [HS.out]; rfl, BL.out⟩
    · have HS : Hid (lessB ⟨s, m⟩ ⟨t, n⟩ = false) := by show _ = _; simp [lessB, cmpRf, or2, cmpS_gt hb he]
      have hq1 := str_ne he
      have hq2 := str_neB he
      go_enter Tryd.func25, Tryd.ntmps25
      go_wp2
      go_ret
      exact ⟨by rw [HS.out]; rfl, BL.out⟩

set_option maxHeartbeats 4000000 in
theorem compareRef_any (a b : Rf) (w : World) : Calls Tryd.prog 49 #[.agg #[.string a.name, .int .i64 a.arity], .agg #[.string b.name, .int .i64 b.arity]] w fun e w' => e = .returned (.int .i64 (cmpRf a b)) ∧ Below w.heap.size w w' := by
  obtain ⟨s, m⟩ := a
  obtain ⟨t, n⟩ := b
  simp only
  obtain ⟨W2, hW2⟩ : ∃ W2, W2 = (w.alloc (.cells #[.string s, .int .i64 m] 51)).alloc (.cells #[.string t, .int .i64 n] 51) := ⟨_, rfl⟩
  have bA : Hid (Blk W2 w.heap.size #[.string s, .int .i64 m] 51) := by show Blk _ _ _ _; rw [hW2]; exact Blk.new.alloc
  have bB : Hid (Blk W2 (w.heap.size + 1) #[.string t, .int .i64 n] 51) := by
    show Blk _ _ _ _
    rw [hW2]
    have := Blk.new (w := w.alloc (.cells #[.string s, .int .i64 m] 51)) (cs := #[.string t, .int .i64 n]) (t := 51)
    rwa [alloc_hs] at this
  have HAL : Hid (Below w.heap.size w W2) := by show Below _ _ _; rw [hW2]; exact ((Below.refl _ _).alloc (Nat.le_refl _) _).alloc (by simp) _
  have HW2 : Hid (W2 = (w.alloc (.cells #[.string s, .int .i64 m] 51)).alloc (.cells #[.string t, .int .i64 n] 51)) := hW2
  clear hW2
  have a0 := bA.out.cell 0 _ rfl
  have a1 := bA.out.cell 1 _ rfl
  have b0 := bB.out.cell 0 _ rfl
  have b1 := bB.out.cell 1 _ rfl
  generalize ho : or2 (cmpS s t) (cmpI m n) = o
  have HO : Hid (or2 (cmpS s t) (cmpI m n) = o) := ho
  have HS : Hid (cmpRf ⟨s, m⟩ ⟨t, n⟩ = o) := ho
  clear ho
  go_enter Tryd.func49, Tryd.ntmps49
  go_wp2_with fail
  rw [← HW2.out]
  go_region_held3 (fun w' => w'.cell? ⟨w.heap.size, 0, none⟩ = some (.string s) ∧ w'.cell? ⟨w.heap.size, 1, none⟩ = some (.int .i64 m) ∧ w'.cell? ⟨w.heap.size + 1, 0, none⟩ = some (.string t) ∧ w'.cell? ⟨w.heap.size + 1, 1, none⟩ = some (.int .i64 n))
    (first | go_keep)
    (first
      | (go_at_call 65; refine (cmpInt_any _ _ _).mono ?_; rintro e w' ⟨rfl, rfl⟩)
      | (go_at_call 64; refine (stringsCompare_any _ _ _).mono ?_; rintro e w' ⟨rfl, rfl⟩)
      | (go_at_call 63; refine (cmpOr2_any (cmpS s t) (cmpI m n) _ _ (by exact cell_new _ _ _ 0 _ rfl) (by exact cell_new _ _ _ 1 _ rfl)).mono ?_; rintro e w' ⟨rfl, rfl⟩; rw [HO.out]))
  go_split_ands
  have K3 : Below W2.heap.size W2 ((W2.alloc (.cells #[.int .i64 (cmpS s t), .int .i64 (cmpI m n)] 3)).drew) := ((Below.refl _ _).alloc (Nat.le_refl _) _).drew
  have HB3 : Hid (Below w.heap.size w ((W2.alloc (.cells #[.int .i64 (cmpS s t), .int .i64 (cmpI m n)] 3)).drew)) := HAL.out.trans (K3.mono HAL.out.size)
  clear K3
  go_wp2
  go_ret
  exact ⟨by rw [HS.out]; rfl, HB3.out⟩

theorem refOk_any (r : Rf) (w : World) (hs : r.name.size ≤ maxLen) (hk : KeysAt w) : Calls Tryd.prog 48 #[.agg #[.string r.name, .int .i64 r.arity]] w fun e w' => e = .returned (.bool (refB r)) ∧ Below w.heap.size w w' := by
  obtain ⟨s, n⟩ := r
  simp only at *
  have BL : Hid (Below w.heap.size w (w.alloc (.cells #[.string s, .int .i64 n] 51))) := (Below.refl _ _).alloc (Nat.le_refl _) _
  have HK : Hid (KeysAt (w.alloc (.cells #[.string s, .int .i64 n] 51))) := ⟨cell_next BL.out hk.1, cell_next BL.out hk.2.1, cell_next BL.out hk.2.2⟩
  clear hk
  cases ha : atomB s with
  | true =>
    go_enter Tryd.func48, Tryd.ntmps48
    go_wp2_with (first | (go_at_call 30; go_must (refine (implAtomOk_any _ _ hs HK.out).mono ?_; rintro e w' ⟨rfl, rfl⟩; rw [ha])) | (go_at_call 50; go_must (refine (withinM_any _ _ _ _).mono ?_; rintro e w' ⟨rfl, rfl⟩)))
    go_ret
    exact ⟨by simp [refB, ha], BL.out⟩
  | false =>
    go_enter Tryd.func48, Tryd.ntmps48
    go_wp2_with (first | (go_at_call 30; go_must (refine (implAtomOk_any _ _ hs HK.out).mono ?_; rintro e w' ⟨rfl, rfl⟩; rw [ha])))
    go_ret
    exact ⟨by simp [refB, ha], BL.out⟩

theorem refOf_any (s : ByteArray) (n : Int) (p : Option Addr) (l c : Nat) (w : World) : Calls Tryd.prog 53 #[.agg #[.string s, .int .i64 n, .slice p l c]] w fun e w' => e = .returned (.agg #[.string s, .int .i64 n]) ∧ Below w.heap.size w w' := by
  go_enter Tryd.func53, Tryd.ntmps53
  go_wp2
  refine bodyPost_ret (v := .agg #[.string s, .int .i64 n]) (by simp [results, Tryd.results53, go_sem]) rfl ⟨rfl, ?_⟩
  first | exact (Below.refl _ _).alloc (Nat.le_refl _) _ | exact ((Below.refl _ _).alloc (Nat.le_refl _) _).alloc (by simp) _ | exact ((((Below.refl _ _).alloc (Nat.le_refl _) _).alloc (by simp) _).setCell (by simp) _).setCell (by simp) _
end Go.Proofs.YthieikohcoajbaaDoor
