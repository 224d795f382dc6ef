/-
  Lists of texts in memory: rows that are read, and rows that the call owns and grows by append.
-/
import Derived.Test.YtafehfpjogbmfaaDoorGen
import Derived.Laws.AppendOwn
import Derived.Laws.AppendOwnNone
import Derived.OwnWalk
namespace Go.Proofs.YtafehfpjogbmfaaDoor
open Go.ChangeShapes Go.WideShapes Go.ChangeAt Go.RowKit
set_option linter.unusedVariables false

/-- One cell that is a text. -/
def HStr (cs : List Value) (s : ByteArray) : Prop := cs = [.string s] ∧ okS s
abbrev StrR (w : World) (v : Value) (xs : List ByteArray) : Prop := Rows w All 1 HStr v xs
theorem StrR.mono {w w' : World} {v : Value} {xs : List ByteArray} (h : StrR w v xs) (hs : SameOn All w w') : StrR w' v xs := Rows.mono h hs (fun _ h => h) (fun _ _ _ h => h)
theorem StrR.okS {w : World} {v : Value} {xs : List ByteArray} (h : StrR w v xs) : ∀ x ∈ xs, Go.Proofs.YtafehfpjogbmfaaDoor.okS x := by
  intro x hx
  obtain ⟨p, cap, _, _, _, hr⟩ := h
  obtain ⟨i, hi⟩ := List.mem_iff_getElem?.1 hx
  obtain ⟨g, off, _, _, _, hat⟩ := hr (by intro e; rw [e] at hi; simp at hi)
  obtain ⟨cs, _, _, hv⟩ := hat i x hi
  exact hv.2

def strs (l : List ByteArray) : List Value := l.map Value.string
theorem strs_length (l : List ByteArray) : (strs l).length = l.length := by simp [strs]
theorem strs_append (a b : List ByteArray) : strs (a ++ b) = strs a ++ strs b := by simp [strs]
theorem strs_oneCell (l : List ByteArray) : ∀ u ∈ strs l, u.oneCell' = true := by
  intro u hu
  simp only [strs, List.mem_map] at hu
  obtain ⟨b, _, rfl⟩ := hu
  rfl
theorem info_str : (Tryd.prog.info? 9).map (fun i => (i.zero, i.size, i.bytes)) = some (some (.string ⟨#[]⟩), 1, 16) := by kernel_rfl

/-- The row v holds just the texts l; it lies in a block of its own at B or above. -/
def OwnS (w : World) (B : Nat) (v : Value) (l : List ByteArray) : Prop := w.ownsRow B 9 1 v l.length (strs l) ∧ B ≤ w.heap.size
theorem OwnS.next {w w' : World} {B : Nat} {v : Value} {l : List ByteArray} (h : OwnS w B v l) (hb : Below w.heap.size w w') : OwnS w' B v l := by
  refine ⟨⟨h.1.1, ?_⟩, Nat.le_trans h.2 hb.size⟩
  rcases h.1.2 with hn | ⟨g, cap, cur, hv, hB, hg, hr⟩
  · exact .inl hn
  · exact .inr ⟨g, cap, cur, hv, hB, (hb.block g (Array.getElem?_eq_some_iff.1 hg).1).trans hg, hr⟩
theorem OwnS.off {w : World} {B : Nat} {v : Value} {l : List ByteArray} (h : OwnS w B v l) {b : Nat} (hb : v.ownBlock = some b) : B ≤ b ∧ b < w.heap.size := by
  rcases h.1.2 with hn | ⟨g', cap', cur, hv', hB, hg, hr⟩
  · rw [hn.1] at hb; cases hb
  · rw [hv'] at hb
    simp [Value.ownBlock] at hb
    subst hb
    exact ⟨hB, (Array.getElem?_eq_some_iff.1 hg).1⟩
theorem OwnS.below {w w' : World} {B : Nat} {v : Value} {l : List ByteArray} (h : OwnS w B v l) (hg : w.grownBy w' v.ownBlock) : Below B w w' :=
  ⟨hg.os, hg.tape, hg.output, hg.size, fun j hj => hg.block j (by have := h.2; omega) (fun e => by have := (h.off e.symm).1; omega)⟩
theorem OwnS.blk {w w' : World} {B b : Nat} {v : Value} {l : List ByteArray} {cs : Array Value} {t : TypeId} (h : OwnS w B v l) (hg : w.grownBy w' v.ownBlock) (hb : Blk w b cs t) (hne : v.ownBlock ≠ some b) : Blk w' b cs t :=
  (hg.block b hb.lt (fun e => hne e.symm)).trans hb
theorem OwnS.of {w' : World} {B n : Nat} {v : Value} {l m : List ByteArray} {xs : List Value} (h : w'.ownsRow B 9 1 v n xs) (hn : n = (l ++ m).length) (hx : xs = strs l ++ strs m) (hB : B ≤ w'.heap.size) : OwnS w' B v (l ++ m) := by
  subst hn; subst hx; rw [← strs_append] at h; exact ⟨h, hB⟩
/-- The empty row that '[]string{}' makes. -/
theorem OwnS.fresh {w : World} : OwnS (w.alloc (.cells #[] 9)) w.heap.size (.slice (some ⟨w.heap.size, 0, none⟩) 0 0) [] := by
  refine ⟨⟨by simp [strs], .inr ⟨w.heap.size, 0, #[], rfl, Nat.le_refl _, ?_, Nat.le_refl _, Nat.zero_le _, rfl, rfl⟩⟩, by simp⟩
  exact Blk.new (w := w) (cs := #[]) (t := 9)
theorem OwnS.rows {w : World} {B : Nat} {v : Value} {l : List ByteArray} (h : OwnS w B v l) (ho : ∀ x ∈ l, okS x) : Rows w (fun g => B ≤ g) 1 HStr v l := by
  obtain ⟨h, _⟩ := h
  rcases h.2 with ⟨rfl, hn⟩ | ⟨g, cap, cur, rfl, hB, hg, h1, h2, h3, h4⟩
  · obtain rfl := List.length_eq_zero_iff.1 hn
    exact Rows.nil (Nat.zero_le _)
  · refine ⟨_, cap, rfl, h1, h2, fun hne => ⟨g, 0, rfl, hB, (Array.getElem?_eq_some_iff.1 hg).1, fun i x hi => ⟨[.string x], rfl, fun j hj => ?_, rfl, ho x (List.mem_of_getElem? hi)⟩⟩⟩
    obtain rfl : j = 0 := by omega
    rw [show 0 + i * 1 + 0 = i by omega]
    exact (h.cellAt i (by have := (List.getElem?_eq_some_iff.1 hi).1; omega)).trans (by simp [strs, hi])
theorem OwnS.strR {w : World} {B : Nat} {v : Value} {l : List ByteArray} (h : OwnS w B v l) (ho : ∀ x ∈ l, okS x) : StrR w v l := Rows.mono (h.rows ho) ⟨Nat.le_refl _, fun _ _ _ => rfl⟩ (fun _ _ => trivial) (fun _ _ _ h => h)

/-- A row that is nil where it has no memory. -/
def StrV (w : World) (v : Value) (xs : List ByteArray) : Prop := StrR w v xs ∧ ∀ n c, v = .slice none n c → v = .slice none 0 0
theorem OwnS.strV {w : World} {B : Nat} {v : Value} {l : List ByteArray} (h : OwnS w B v l) (ho : ∀ x ∈ l, okS x) : StrV w v l := by
  refine ⟨h.strR ho, fun n c hv => ?_⟩
  rcases h.1.2 with hn | ⟨g, cap, cur, hv', _⟩
  · exact hn.1
  · rw [hv] at hv'; simp at hv'
theorem StrV.next {w w' : World} {v : Value} {xs : List ByteArray} (h : StrV w v xs) (hs : SameOn All w w') : StrV w' v xs := ⟨h.1.mono hs, h.2⟩

/-- Texts that are there. -/
def hasS (l : List ByteArray) (s : ByteArray) : Bool := l.any fun x => x.toList == s.toList
/-- Names with more behind, those that are not there. -/
def onceS (l : List ByteArray) : List ByteArray → List ByteArray
  | [] => l
  | y :: ys => onceS (if hasS l y then l else l ++ [y]) ys
theorem onceS_snoc (l ys : List ByteArray) (y : ByteArray) : onceS l (ys ++ [y]) = if hasS (onceS l ys) y then onceS l ys else onceS l ys ++ [y] := by
  induction ys generalizing l with
  | nil => rfl
  | cons z zs ih => exact ih _
theorem onceS_length (l ys : List ByteArray) : (onceS l ys).length ≤ l.length + ys.length := by
  induction ys generalizing l with
  | nil => simp [onceS]
  | cons z zs ih =>
    have := ih (if hasS l z then l else l ++ [z])
    have h2 : (if hasS l z then l else l ++ [z]).length ≤ l.length + 1 := by split <;> simp
    simp only [onceS, List.length_cons]
    omega
theorem onceS_mem (l ys : List ByteArray) : ∀ x ∈ onceS l ys, x ∈ l ∨ x ∈ ys := by
  induction ys generalizing l with
  | nil => intro x hx; exact .inl hx
  | cons z zs ih =>
    intro x hx
    rcases ih _ x hx with h | h
    · split at h
      · exact .inl h
      · rcases List.mem_append.1 h with h | h
        · exact .inl h
        · simp at h; subst h; exact .inr (by simp)
    · exact .inr (by simp [h])
end Go.Proofs.YtafehfpjogbmfaaDoor
