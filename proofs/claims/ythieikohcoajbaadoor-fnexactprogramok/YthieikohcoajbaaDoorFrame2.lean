/-
  What a listed array of structs of integers holds.
-/
import Derived.Test.YthieikohcoajbaaDoorFrame
namespace Go.Proofs.YthieikohcoajbaaDoor
open Go.ChangeShapes Go.WideShapes Go.ChangeAt Go.RowKit
set_option linter.unusedVariables false

/-- A listed array of structs of integers, as a row lists it. -/
def gridTab {H : Type} (rs : List (List Int)) : DataW H := .agg (rs.map fun r => .agg (r.map fun z => .lit (.int .i64 z)))

theorem cells_of_grid {H : Type} {enc : TypeId × Value → H} {P : Program} {w : World} {base : Nat} {sp : Nat → Bool} {held : Bool} {fuel : Nat} {t e ti : TypeId} {n c : Nat} {fs : Array Field} {cs : List Value} {rs : List (List Int)} {p : List MemPlace}
    (ht : P.underlying t = some (.array n e)) (he : P.underlying e = some (.struct fs)) (hti : P.underlying ti = some (.int .i64)) (hfs : (fs.toList.map fun f => (f.type, f.offset)) = (List.range c).map fun j => (ti, j)) (hci : P.cellsOf ti = 1) (hce : P.cellsOf e = c)
    (h : DataW.trod enc P w base sp held fuel t cs = some (gridTab rs, p)) : ∀ i r j z, rs[i]? = some r → r[j]? = some z → cs[i * c + j]? = some (.int .i64 z) := by
  intro i r j z hi hj
  cases fuel with
  | zero => simp [DataW.trod] at h
  | succ fuel =>
    simp only [DataW.trod, ht] at h
    split at h
    · obtain ⟨xs, hm, hx⟩ := Option.map_eq_some_iff.1 h
      have hxs : xs.map (·.1) = rs.map fun r => (DataW.agg (r.map fun z => .lit (.int .i64 z)) : DataW H) := by
        have := congrArg Prod.fst hx
        simpa [gridTab] using this
      have hxl : xs.length = n := by simpa using Lib.mapM_length hm
      have hil : i < n := by
        have h1 := congrArg List.length hxs
        have h2 := (List.getElem?_eq_some_iff.1 hi).1
        simp at h1
        omega
      obtain ⟨b, hb, hf⟩ := Lib.mapM_at hm i i (by simp [hil])
      have hb1 : b.1 = .agg (r.map fun z => .lit (.int .i64 z)) := by
        have := congrArg (·[i]?) hxs
        simp [hb, hi] at this
        exact this
      rw [hce] at hf
      cases fuel with
      | zero => simp [DataW.trod] at hf
      | succ fuel =>
        simp only [DataW.trod, he] at hf
        split at hf
        · obtain ⟨ys, hm2, hy⟩ := Option.map_eq_some_iff.1 hf
          have hys : ys.map (·.1) = r.map fun z => (DataW.lit (.int .i64 z) : DataW H) := by
            have := congrArg Prod.fst hy
            rw [hb1] at this
            simpa using this
          have hyl : ys.length = fs.toList.length := Lib.mapM_length hm2
          have hjl : j < fs.toList.length := by
            have h1 := congrArg List.length hys
            have h2 := (List.getElem?_eq_some_iff.1 hj).1
            simp at h1 hyl ⊢
            omega
          obtain ⟨f, hfj⟩ : ∃ f, fs.toList[j]? = some f := ⟨_, List.getElem?_eq_getElem hjl⟩
          obtain ⟨y, hyj, hty⟩ := Lib.mapM_at hm2 j f hfj
          have hfe : f.type = ti ∧ f.offset = j ∧ j < c := by
            have h1 := congrArg (·[j]?) hfs
            simp only [List.getElem?_map, hfj, Option.map_some] at h1
            have hjc : j < c := by
              have h2 := congrArg List.length hfs
              simp at h2 hjl
              omega
            rw [List.getElem?_range hjc] at h1
            simp at h1
            exact ⟨h1.1, h1.2, hjc⟩
          rw [hfe.1, hfe.2.1, hci] at hty
          obtain ⟨z', hc, rfl, _⟩ := DataW.trod_int hti hty
          have h2 := congrArg (·[j]?) hys
          simp [hyj, hj] at h2
          subst h2
          have h3 := congrArg (·[0]?) hc
          simp only [List.getElem?_take, List.getElem?_drop, List.getElem?_cons_zero] at h3
          simpa [hfe.2.2] using h3
        · cases hf
    · cases h

theorem gridIs_of_vars {P : Program} {W : World} {name : String} {rs : List (List Int)} {rest : List (String × DataW Unit)} {ps : List MemPlace} {g : Nat} {t e ti : TypeId} {n c : Nat} {fs : Array Field}
    (hg : P.globalNamed name = some g) (hty : (P.globals[g]?).map (·.type) = some t) (ht : P.underlying t = some (.array n e)) (he : P.underlying e = some (.struct fs)) (hti : P.underlying ti = some (.int .i64)) (hfs : (fs.toList.map fun f => (f.type, f.offset)) = (List.range c).map fun j => (ti, j))
    (hci : P.cellsOf ti = 1) (hce : P.cellsOf e = c) (h : DataW.LaidVars P W ((name, gridTab rs) :: rest) ps) : ∀ i r j z, rs[i]? = some r → r[j]? = some z → W.cell? ⟨g, i * c + j, none⟩ = some (.int .i64 z) := by
  obtain ⟨g', t', cs, fuel, p, q, hg', ht', hvar, hd, hq, _⟩ := h
  obtain rfl := Option.some.inj (hg.symm.trans hg')
  obtain rfl := Option.some.inj (hty.symm.trans ht')
  intro i r j z hi hj
  have h1 := cells_of_grid ht he hti hfs hci hce hd i r j z hi hj
  have h2 := World.var?_cell hg hvar (i * c + j)
  rw [h2]
  simpa using h1
end Go.Proofs.YthieikohcoajbaaDoor
