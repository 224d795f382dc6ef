/-
  What a right module is, as plain mathematics: expressions, clauses, functions, modules.
-/
import Derived.Test.YthieikohcoajbaaDoorGen
import Derived.Test.YthieikohcoajbaaDoorAtomOk
namespace Go.Proofs.YthieikohcoajbaaDoor
open Go.ChangeShapes Go.WideShapes Go.ChangeAt Go.RowKit
set_option linter.unusedVariables false

def opB (t : ByteArray) : Bool := t.toList == [61, 61] || t.toList == [60] || t.toList == [43] || t.toList == [45] || t.toList == [42]
def numB (k n : Int) : Bool := if k = 0 then inB n 0 999999999 else decide (n = 0)
def modB (k : Int) (m : ByteArray) : Bool := decide (m.toList = []) || (decide (k = 8) && atomB m)
/-- What an expression's text is, by what its kind wants. -/
def tkB (k : Int) (t : ByteArray) : Bool := if k = 1 then atomB t else if k = 2 then varB t else if k = 3 then opB t else decide (t.toList = [])
def txtK (k : Int) : Int := if k = 1 ∨ k = 8 then 1 else if k = 2 then 2 else if k = 7 then 3 else 0
def txtB (k : Int) (t : ByteArray) : Bool := tkB (txtK k) t
/-- How many kids a kind has, the least and the most. -/
def kidLo (k : Int) : Int := if k = 4 ∨ k = 10 then 1 else if k = 6 ∨ k = 7 ∨ k = 9 then 2 else 0
def kidHi (k : Int) : Int := if k = 4 then 20 else if k = 6 ∨ k = 7 ∨ k = 9 then 2 else if k = 8 then 6 else if k = 10 then 1 else 0
def clsLo (k : Int) : Int := if k = 10 then 1 else 0
def clsHi (k : Int) : Int := if k = 10 then 20 else 0
/-- An expression's own parts. -/
def plainB (k n : Int) (t m : ByteArray) (nk nc : Nat) : Bool :=
  inB k 0 10 && (numB k n && (modB k m && (txtB k t && (inB nk (kidLo k) (kidHi k) && inB nc (clsLo k) (clsHi k)))))
/-- What a pattern may be, and what may be none. -/
def patB (k : Int) (pat : Bool) : Bool := if pat then decide (k ≤ 6) else !decide (k = 3)

def clB (f : Ex → Bool → Bool) (c : Cl) (pats : Int) : Bool := decide ((c.1.length : Int) = pats) && (inB c.2.length 1 20 && (c.1.all (fun y => f y true) && c.2.all (fun y => f y false)))
def kidsB (f : Ex → Bool → Bool) : List Ex → Bool → Bool → Bool
  | [], _, _ => true
  | x :: xs, p0, p => f x p0 && xs.all (fun y => f y p)
def exOk : Nat → Ex → Bool → Int → Bool
  | 0, _, _, _ => false
  | d + 1, .mk k n t m ks cs, pat, deep => decide (0 ≤ deep) && (plainB k n t m ks.length cs.length && (patB k pat && (kidsB (fun y q => exOk d y q (deep - 1)) ks (pat || decide (k = 9)) pat && cs.all (fun c => clB (fun y q => exOk d y q (deep - 1)) c 1))))

theorem kidsB_nil (f : Ex → Bool → Bool) (ks : List Ex) (p0 p : Bool) : kidsB f (ks.take 0) p0 p = true := by simp [kidsB]
theorem kidsB_succ (f : Ex → Bool → Bool) (ks : List Ex) (p0 p : Bool) (k : Nat) (x : Ex) (h : ks[k]? = some x) (ht : kidsB f (ks.take k) p0 p = true) (hx : f x (if k = 0 then p0 else p) = true) : kidsB f (ks.take (k + 1)) p0 p = true := by
  cases ks with
  | nil => simp at h
  | cons y ys =>
    cases k with
    | zero => simp at h hx; subst h; simp [kidsB, hx]
    | succ k =>
      simp only [List.getElem?_cons_succ] at h
      simp only [Nat.add_one_ne_zero, if_false] at hx
      simp only [List.take_succ_cons, kidsB, Bool.and_eq_true] at ht ⊢
      refine ⟨ht.1, ?_⟩
      rw [List.take_add_one, h, List.all_append, ht.2]
      simp [hx]
theorem kidsB_at (f : Ex → Bool → Bool) (ks : List Ex) (p0 p : Bool) (k : Nat) (x : Ex) (h : ks[k]? = some x) (hx : f x (if k = 0 then p0 else p) = false) : kidsB f ks p0 p = false := by
  cases ks with
  | nil => simp at h
  | cons y ys =>
    cases k with
    | zero => simp at h hx; subst h; simp [kidsB, hx]
    | succ k =>
      simp only [List.getElem?_cons_succ] at h
      simp only [Nat.add_one_ne_zero, if_false] at hx
      have : ys.all (fun y => f y p) = false := by rw [List.all_eq_false]; exact ⟨x, List.mem_of_getElem? h, by simp [hx]⟩
      simp [kidsB, this]
theorem kidsB_same (f : Ex → Bool → Bool) (ks : List Ex) (p : Bool) : kidsB f ks p p = ks.all (fun y => f y p) := by
  cases ks <;> simp [kidsB]
theorem allT_succ {α : Type} (f : α → Bool) (xs : List α) (k : Nat) (x : α) (h : xs[k]? = some x) (ht : (xs.take k).all f = true) (hx : f x = true) : (xs.take (k + 1)).all f = true := by
  rw [List.take_add_one, h, List.all_append, ht]; simp [hx]
theorem allT_at {α : Type} (f : α → Bool) (xs : List α) (k : Nat) (x : α) (h : xs[k]? = some x) (hx : f x = false) : xs.all f = false := by
  rw [List.all_eq_false]; exact ⟨x, List.mem_of_getElem? h, by simp [hx]⟩
theorem anyT_succ {α : Type} (f : α → Bool) (xs : List α) (k : Nat) (x : α) (h : xs[k]? = some x) (ht : (xs.take k).any f = false) (hx : f x = false) : (xs.take (k + 1)).any f = false := by
  rw [List.take_add_one, h, List.any_append, ht]; simp [hx]
theorem anyT_at {α : Type} (f : α → Bool) (xs : List α) (k : Nat) (x : α) (h : xs[k]? = some x) (hx : f x = true) : xs.any f = true := by
  rw [List.any_eq_true]; exact ⟨x, List.mem_of_getElem? h, hx⟩
theorem exOk_eq (d : Nat) (k n : Int) (t m : ByteArray) (ks : List Ex) (cs : List Cl) (pat : Bool) (deep : Int) :
    exOk (d + 1) (.mk k n t m ks cs) pat deep = (decide (0 ≤ deep) && (plainB k n t m ks.length cs.length && (patB k pat && (kidsB (fun y q => exOk d y q (deep - 1)) ks (pat || decide (k = 9)) pat && cs.all (fun c => clB (fun y q => exOk d y q (deep - 1)) c 1))))) := rfl
theorem plainB_range {k n : Int} {t m : ByteArray} {nk nc : Nat} (h : plainB k n t m nk nc = true) : 0 ≤ k ∧ k ≤ 10 := by
  unfold plainB at h
  rw [Bool.and_eq_true] at h
  have := h.1
  simp [inB] at this
  omega
end Go.Proofs.YthieikohcoajbaaDoor
