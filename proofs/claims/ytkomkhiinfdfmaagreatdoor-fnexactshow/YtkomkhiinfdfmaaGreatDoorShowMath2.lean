/-
  What a right module's text wants: plain mathematics.
-/
import Derived.Test.YtkomkhiinfdfmaaGreatDoorShowMath
import Derived.Test.YtkomkhiinfdfmaaGreatDoorModOkImplC
namespace Go.Proofs.YtkomkhiinfdfmaaGreatDoor
open Go.ChangeShapes Go.WideShapes Go.ChangeAt Go.RowKit
set_option linter.unusedVariables false

theorem atomB_size {s : ByteArray} (h : atomB s = true) : s.size ≤ 10 := by
  unfold atomB nameB at h
  simp only [Bool.and_eq_true, decide_eq_true_eq] at h
  exact h.1.1.2.2
/-- A function whose text can be told. -/
def fnShp (d : Nat) (f : Fn') : Prop := f.name.size ≤ 10 ∧ 1 ≤ f.clauses.length ∧ ∀ c ∈ f.clauses, c.1.all (shp d) = true ∧ c.2.all (shp d) = true
theorem fnShp_of {d : Nat} {m : Md} (h : mdOk d m = true) : ∀ f ∈ m.funs, fnShp d f := by
  intro f hf
  unfold mdOk fnsB at h
  simp only [Bool.and_eq_true] at h
  obtain ⟨_, _, _, h⟩ := h
  obtain ⟨i, hi⟩ := List.mem_iff_getElem?.1 hf
  have h1 := List.all_eq_true.1 h i (List.mem_range.2 (List.getElem?_eq_some_iff.1 hi).1)
  rw [fnsAt_eq hi] at h1
  simp only [Bool.and_eq_true] at h1
  obtain ⟨h1, _⟩ := h1
  unfold fnB refB at h1
  simp only [Bool.and_eq_true, inB, decide_eq_true_eq] at h1
  obtain ⟨⟨ha, _⟩, hc, hcl⟩ := h1
  refine ⟨atomB_size ha, by omega, fun c hcc => ?_⟩
  have h2 := List.all_eq_true.1 hcl c hcc
  unfold clB at h2
  simp only [Bool.and_eq_true] at h2
  exact ⟨all_of_all h2.2.2.1 (fun z hz => shp_of d z _ _ hz), all_of_all h2.2.2.2 (fun z hz => shp_of d z _ _ hz)⟩
theorem HFn.ints {w : World} {S : Nat → Prop} {d : Nat} {cs : List Value} {f : Fn'} (h : HFn w S d cs f) : ∀ c ∈ f.clauses, (∀ y ∈ c.1, exI d y) ∧ ∀ y ∈ c.2, exI d y := by
  obtain ⟨cv, _, _, _, f1⟩ := h
  intro c hc
  obtain ⟨_, pp, bb, _, g0, g1⟩ := rows_mem f1 c hc
  exact ⟨fun y hy => by obtain ⟨_, hv⟩ := rows_mem g0 y hy; exact hv.ints, fun y hy => by obtain ⟨_, hv⟩ := rows_mem g1 y hy; exact hv.ints⟩
theorem lines_len {d : Nat} {f : Fn'} (hs : fnShp d f) (hI : ∀ c ∈ f.clauses, (∀ y ∈ c.1, exI d y) ∧ ∀ y ∈ c.2, exI d y) (k : Nat) : (((f.clauses.take k).map fun c => lineT d f.name c ++ [59, 10]).flatten).length ≤ 50 * wtS (wtCl (wtEx d)) f.clauses := by
  have h1 := flat_len (fun c => lineT d f.name c ++ [59, 10]) (wtCl (wtEx d)) 50 (f.clauses.take k) (fun c hc => by
    have hm := List.mem_of_mem_take hc
    have := lineT_len (d := d) hs.1 (hI c hm) (hs.2.2 c hm).1 (hs.2.2 c hm).2
    simp only [List.length_append, List.length_cons, List.length_nil]
    omega)
  have h2 := wtS_take (wtCl (wtEx d)) f.clauses k
  omega
theorem funT_len {d : Nat} {f : Fn'} (hs : fnShp d f) (hI : ∀ c ∈ f.clauses, (∀ y ∈ c.1, exI d y) ∧ ∀ y ∈ c.2, exI d y) : (funT d f).length ≤ 1 + 50 * wtS (wtCl (wtEx d)) f.clauses := by
  have := joinT_wt (lineT d f.name) (wtCl (wtEx d)) 40 50 [59, 10] (by decide) f.clauses (fun c hc => lineT_len hs.1 (hI c hc) (hs.2.2 c hc).1 (hs.2.2 c hc).2)
  simp only [funT, List.length_append, List.length_cons, List.length_nil]
  omega
/-- The lines of a function as far as k of its clauses. -/
def partT (d : Nat) (f : Fn') (k : Nat) : List UInt8 := if k < f.clauses.length then ((f.clauses.take k).map fun c => lineT d f.name c ++ [59, 10]).flatten else funT d f ++ [10]
theorem partT_more {d : Nat} {f : Fn'} {k : Nat} {c : Cl} (h : f.clauses[k]? = some c) (hk : k + 1 < f.clauses.length) : partT d f (k + 1) = partT d f k ++ (lineT d f.name c ++ [59, 10]) := by
  unfold partT
  rw [if_pos hk, if_pos (by omega), List.take_add_one, h]
  simp
theorem partT_last {d : Nat} {f : Fn'} {k : Nat} {c : Cl} (h : f.clauses[k]? = some c) (hk : ¬ k + 1 < f.clauses.length) : partT d f (k + 1) = partT d f k ++ (lineT d f.name c ++ [46, 10]) := by
  have hl := (List.getElem?_eq_some_iff.1 h).1
  unfold partT
  rw [if_neg hk, if_pos hl]
  have h1 : f.clauses = f.clauses.take k ++ [c] := by
    have : f.clauses.take (k + 1) = f.clauses := List.take_of_length_le (by omega)
    rw [List.take_add_one, h] at this
    exact this.symm
  have h2 : f.clauses.map (lineT d f.name) = (f.clauses.take k).map (lineT d f.name) ++ [lineT d f.name c] := by
    conv => lhs; rw [h1]
    simp
  unfold funT
  rw [h2, joinT_end]
  simp [List.map_map, Function.comp_def]
theorem partT_len {d : Nat} {f : Fn'} (hs : fnShp d f) (hI : ∀ c ∈ f.clauses, (∀ y ∈ c.1, exI d y) ∧ ∀ y ∈ c.2, exI d y) (k : Nat) : (partT d f k).length ≤ 2 + 50 * wtS (wtCl (wtEx d)) f.clauses := by
  unfold partT
  split
  · have := lines_len hs hI k; omega
  · have := funT_len hs hI; simp only [List.length_append, List.length_cons, List.length_nil]; omega
end Go.Proofs.YtkomkhiinfdfmaaGreatDoor
