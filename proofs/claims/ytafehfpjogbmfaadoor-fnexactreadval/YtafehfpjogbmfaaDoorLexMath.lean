/-
  Plain mathematics: the words of a text, place by place, as both readings of it (the program's and the specification's) come to them.
-/
import Derived.Test.YtafehfpjogbmfaaDoorTokBase
import Derived.Test.YtafehfpjogbmfaaDoorDigM
import Derived.Test.YtafehfpjogbmfaaDoorAtomOk
namespace Go.Proofs.YtafehfpjogbmfaaDoor

/-- How far a run of bytes of one kind goes from place i on: the place behind it. -/
def runEnd (p : UInt8 → Bool) (l : List UInt8) (i : Nat) : Nat := i + ((l.drop i).takeWhile p).length
def cut (l : List UInt8) (i k : Nat) : List UInt8 := (l.drop i).take (k - i)
def isSignC (c : UInt8) : Bool := signB (c.toNat : Int)
def notNl (c : UInt8) : Bool := c.toNat != 10
def byteArr (l : List UInt8) : ByteArray := ⟨l.toArray⟩
def oneSigns : List (List UInt8) := [[40], [41], [123], [125], [91], [93], [124], [44], [59], [46], [58], [61], [60], [43], [45], [42], [47]]

/-- The kind of a name, if it is one. -/
def nameKindM (t : List UInt8) : Option Int :=
  if atomB (byteArr t) = true then some 0 else if varB (byteArr t) = true then some 1 else if keyB (byteArr t) = true ∨ t = [95] then some 3 else none

/-- The word at a place where one must begin, and the place behind it. -/
def tokAt (l : List UInt8) (i : Nat) (line : Int) : Option (Tok × Nat) :=
  let c := l.getD i 0
  if digB c = true then
    if runEnd digB l i - i ≤ 9 then some (⟨2, [], valOf (cut l i (runEnd digB l i)), line⟩, runEnd digB l i) else none
  else if isSignC c = true then
    (nameKindM (cut l i (runEnd isSignC l i))).map fun k => (⟨k, cut l i (runEnd isSignC l i), 0, line⟩, runEnd isSignC l i)
  else if i + 2 ≤ l.length ∧ (cut l i (i + 2) = [45, 62] ∨ cut l i (i + 2) = [61, 61]) then some (⟨3, cut l i (i + 2), 0, line⟩, i + 2)
  else if oneSigns.contains (cut l i (i + 1)) = true then some (⟨3, cut l i (i + 1), 0, line⟩, i + 1)
  else none

/-- One step over what stands between words. -/
def gapStep (l : List UInt8) (i : Nat) (line : Int) : Option (Nat × Int) :=
  let c := (l.getD i 0).toNat
  if c = 37 then some (runEnd notNl l i, line) else if c = 32 then some (i + 1, line) else if c = 10 then some (i + 1, line + 1) else none

def lexF (l : List UInt8) : Nat → Nat → Int → List Tok → List Tok × Int
  | 0, _, _, acc => (acc, 0)
  | f + 1, i, line, acc =>
    if i < l.length then
      match gapStep l i line with
      | some (i', line') => lexF l f i' line' acc
      | none => match tokAt l i line with
        | some (t, k) => lexF l f k line (acc ++ [t])
        | none => ([], line)
    else (acc, 0)

def lexM (l : List UInt8) : List Tok × Int := if l.length ≤ 4000 then lexF l (l.length + 1) 0 1 [] else ([], 1)

theorem runEnd_le (p : UInt8 → Bool) (l : List UInt8) (i : Nat) (h : i ≤ l.length) : runEnd p l i ≤ l.length := by
  unfold runEnd
  have := (List.takeWhile_sublist p (l := l.drop i)).length_le
  rw [List.length_drop] at this; omega
theorem runEnd_ge (p : UInt8 → Bool) (l : List UInt8) (i : Nat) : i ≤ runEnd p l i := by unfold runEnd; omega
theorem drop_cons (l : List UInt8) (i : Nat) (h : i < l.length) : l.drop i = l.getD i 0 :: l.drop (i + 1) := by
  rw [List.drop_eq_getElem_cons h]; simp [List.getD, h]
theorem runEnd_stop (p : UInt8 → Bool) (l : List UInt8) (i : Nat) (h : l.length ≤ i ∨ p (l.getD i 0) = false) : runEnd p l i = i := by
  unfold runEnd
  rcases Nat.lt_or_ge i l.length with hlt | hge
  · rw [drop_cons l i hlt, List.takeWhile_cons]
    rcases h with h | h
    · omega
    · simp only [h]; rfl
  · rw [List.drop_eq_nil_of_le hge]; simp
theorem runEnd_step (p : UInt8 → Bool) (l : List UInt8) (i : Nat) (h : i < l.length) (hp : p (l.getD i 0) = true) : runEnd p l i = runEnd p l (i + 1) := by
  unfold runEnd
  rw [drop_cons l i h, List.takeWhile_cons]
  simp only [hp, if_true, List.length_cons]; omega
theorem runEnd_gt (p : UInt8 → Bool) (l : List UInt8) (i : Nat) (h : i < l.length) (hp : p (l.getD i 0) = true) : i < runEnd p l i := by
  rw [runEnd_step p l i h hp]; have := runEnd_ge p l (i + 1); omega

theorem tokAt_gt {l : List UInt8} {i : Nat} {line : Int} {t : Tok} {k : Nat} (hi : i < l.length) (h : tokAt l i line = some (t, k)) : i < k ∧ k ≤ l.length ∧ t.line = line := by
  unfold tokAt at h
  simp only at h
  split at h
  · rename_i hd
    split at h
    · simp only [Option.some.injEq, Prod.mk.injEq] at h
      obtain ⟨rfl, rfl⟩ := h
      exact ⟨runEnd_gt _ _ _ hi hd, runEnd_le _ _ _ (by omega), rfl⟩
    · cases h
  · split at h
    · rename_i hs
      rw [Option.map_eq_some_iff] at h
      obtain ⟨k', _, h⟩ := h
      simp only [Prod.mk.injEq] at h
      obtain ⟨rfl, rfl⟩ := h
      exact ⟨runEnd_gt _ _ _ hi hs, runEnd_le _ _ _ (by omega), rfl⟩
    · split at h
      · rename_i h2
        simp only [Option.some.injEq, Prod.mk.injEq] at h
        obtain ⟨rfl, rfl⟩ := h
        exact ⟨by omega, h2.1, rfl⟩
      · split at h
        · simp only [Option.some.injEq, Prod.mk.injEq] at h
          obtain ⟨rfl, rfl⟩ := h
          exact ⟨by omega, by omega, rfl⟩
        · cases h
theorem gapStep_gt {l : List UInt8} {i : Nat} {line : Int} {i' : Nat} {line' : Int} (hi : i < l.length) (h : gapStep l i line = some (i', line')) : i < i' ∧ i' ≤ l.length := by
  unfold gapStep at h
  simp only at h
  split at h
  · rename_i hc
    simp only [Option.some.injEq, Prod.mk.injEq] at h
    obtain ⟨rfl, rfl⟩ := h
    exact ⟨runEnd_gt _ _ _ hi (by rw [notNl, hc]; rfl), runEnd_le _ _ _ (by omega)⟩
  · split at h
    · simp only [Option.some.injEq, Prod.mk.injEq] at h
      obtain ⟨rfl, rfl⟩ := h
      exact ⟨by omega, by omega⟩
    · split at h
      · simp only [Option.some.injEq, Prod.mk.injEq] at h
        obtain ⟨rfl, rfl⟩ := h
        exact ⟨by omega, by omega⟩
      · cases h
theorem lexF_gap {l : List UInt8} {f i : Nat} {line : Int} {acc : List Tok} {i' : Nat} {line' : Int} (hi : i < l.length) (h : gapStep l i line = some (i', line')) : lexF l (f + 1) i line acc = lexF l f i' line' acc := by
  rw [lexF, if_pos hi, h]
theorem lexF_tok {l : List UInt8} {f i : Nat} {line : Int} {acc : List Tok} {t : Tok} {k : Nat} (hi : i < l.length) (h : gapStep l i line = none) (ht : tokAt l i line = some (t, k)) : lexF l (f + 1) i line acc = lexF l f k line (acc ++ [t]) := by
  rw [lexF, if_pos hi, h]; simp only; rw [ht]
theorem lexF_bad {l : List UInt8} {f i : Nat} {line : Int} {acc : List Tok} (hi : i < l.length) (h : gapStep l i line = none) (ht : tokAt l i line = none) : lexF l (f + 1) i line acc = ([], line) := by
  rw [lexF, if_pos hi, h]; simp only; rw [ht]
theorem lexF_end {l : List UInt8} {f i : Nat} {line : Int} {acc : List Tok} (hi : ¬ i < l.length) : lexF l f i line acc = (acc, 0) := by
  cases f with
  | zero => rfl
  | succ f => rw [lexF, if_neg hi]
end Go.Proofs.YtafehfpjogbmfaaDoor
