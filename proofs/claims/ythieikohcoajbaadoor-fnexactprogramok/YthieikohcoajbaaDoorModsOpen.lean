/-
  A row of modules that the statement's reader reads.
-/
import Derived.Test.YthieikohcoajbaaDoorBoxes
namespace Go.Proofs.YthieikohcoajbaaDoor
open Go.ChangeShapes Go.WideShapes Go.ChangeAt Go.RowKit
set_option linter.unusedVariables false
section
variable {H : Type} {enc : TypeId × Value → H} {P : Program} {w : World} {base : Nat} {sp : Nat → Bool} {held : Bool}
variable {tE tEs tC tCs tI tS tR tRs tF tFs tM : TypeId}

theorem open_md1 (T : MdTypes P tE tEs tC tCs tI tS tR tRs tF tFs tM) {fuel : Nat} {cs : List Value} {x : DataW H × List MemPlace} (h : DataW.trod enc P w base sp held fuel tM cs = some x) :
    ∃ m, HMd w (fun g => g < w.heap.size) fuel cs m := by
  cases fuel with
  | zero => simp [DataW.trod] at h
  | succ fuel =>
    obtain ⟨fs, hu, hfs⟩ := T.m
    obtain ⟨hl, hat⟩ := open_fields hu hfs h
    rw [T.cm] at hl
    obtain ⟨a, b, c, rfl⟩ := len3 hl
    obtain ⟨y0, h0⟩ := hat 0 _ _ rfl
    obtain ⟨y1, h1⟩ := hat 1 _ _ rfl
    obtain ⟨y2, h2⟩ := hat 2 _ _ rfl
    rw [T.cS] at h0
    rw [T.crs] at h1
    rw [T.cfs] at h2
    obtain ⟨s, rfl, hs⟩ := open_str1 T.s h0
    cases fuel with
    | zero => simp [DataW.trod] at h0
    | succ fuel =>
      obtain ⟨_, rs, hv, hr⟩ := open_rows (R := HRf) T.rs T.cr (by decide) (fun cs x hx => by
        cases fuel with
        | zero => simp [DataW.trod] at hx
        | succ fuel =>
          obtain ⟨fs, hu, hfs⟩ := T.r
          obtain ⟨hl, hat⟩ := open_fields hu hfs hx
          rw [T.cr] at hl
          obtain ⟨a, b, rfl⟩ := len2 hl
          obtain ⟨y0, h0⟩ := hat 0 _ _ rfl
          obtain ⟨y1, h1⟩ := hat 1 _ _ rfl
          rw [T.cS] at h0
          rw [T.ci] at h1
          obtain ⟨s, rfl, hs⟩ := open_str1 T.s h0
          obtain ⟨i, rfl, hi⟩ := open_int1 T.i h1
          exact ⟨⟨s, i⟩, rfl, hs, hi⟩) h1
      cases hv
      obtain ⟨_, fs, hv, hf⟩ := open_rows (R := HFn w (fun g => g < w.heap.size) (fuel + 1)) T.fs T.cf (by decide) (fun cs x hx => by
        cases fuel with
        | zero => simp [DataW.trod] at hx
        | succ fuel =>
          obtain ⟨fs, hu, hfs⟩ := T.f
          obtain ⟨hl, hat⟩ := open_fields hu hfs hx
          rw [T.cf] at hl
          obtain ⟨a, b, c, rfl⟩ := len3 hl
          obtain ⟨y0, h0⟩ := hat 0 _ _ rfl
          obtain ⟨y1, h1⟩ := hat 1 _ _ rfl
          obtain ⟨y2, h2⟩ := hat 2 _ _ rfl
          rw [T.cS] at h0
          rw [T.ci] at h1
          rw [T.ccs] at h2
          obtain ⟨s, rfl, hs⟩ := open_str1 T.s h0
          obtain ⟨i, rfl, hi⟩ := open_int1 T.i h1
          obtain ⟨cls, hcls⟩ := open_cls T.toExTypes (n := fuel + 1 + 1) (open_ex T.toExTypes (fuel + 1 + 1)) (by omega) h2
          exact ⟨⟨s, i, cls⟩, c, rfl, hs, hi, hcls⟩) h2
      cases hv
      exact ⟨⟨s, rs, fs⟩, HMd.deeper (d := fuel + 1) (by omega) ⟨b, c, rfl, hs, hr, hf⟩⟩

theorem open_mds (T : MdTypes P tE tEs tC tCs tI tS tR tRs tF tFs tM) {tMs : TypeId} (hMs : P.underlying tMs = some (.slice tM)) {v : Value} {dd : DataW H} {ps : List MemPlace} (hc : v.cells.toList = [v]) (h : DataW.Trod enc P w base sp held tMs v dd ps) :
    ∃ d ms, Rows w (fun g => g < w.heap.size) 3 (HMd w (fun g => g < w.heap.size) d) v ms := by
  obtain ⟨fuel, h⟩ := h
  cases fuel with
  | zero => simp [DataW.trod] at h
  | succ fuel =>
    obtain ⟨v', xs, hv, hr⟩ := open_rows (R := HMd w (fun g => g < w.heap.size) fuel) hMs T.cm (by decide) (fun cs x hx => open_md1 T hx) h
    rw [hc] at hv
    cases hv
    exact ⟨_, _, hr⟩
end
end Go.Proofs.YthieikohcoajbaaDoor
