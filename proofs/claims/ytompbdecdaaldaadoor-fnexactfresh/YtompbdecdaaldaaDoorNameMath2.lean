/-
  Chapter 4, plain mathematics: all variables of an expression, each once; how many they can be.
-/
import Derived.Test.YtompbdecdaaldaaDoorNameMath
namespace Go.Proofs.YtompbdecdaaldaaDoor
open Go.ChangeShapes Go.WideShapes Go.ChangeAt Go.RowKit
set_option linter.unusedVariables false

abbrev keyS (s : ByteArray) : List UInt8 := s.toList
def NdK (l : List ByteArray) : Prop := (l.map keyS).Nodup
def SubK (l : List ByteArray) (m : List (List UInt8)) : Prop := ∀ s ∈ l, keyS s ∈ m

theorem nodup_len {α : Type} [BEq α] [LawfulBEq α] : ∀ (l m : List α), l.Nodup → (∀ x ∈ l, x ∈ m) → l.length ≤ m.length
  | [], m, _, _ => Nat.zero_le _
  | x :: xs, m, hn, hs => by
    have hx : x ∈ m := hs x (by simp)
    rw [List.nodup_cons] at hn
    have h1 := nodup_len xs (m.erase x) hn.2 (fun y hy => (List.mem_erase_of_ne (by intro e; subst e; exact hn.1 hy)).2 (hs y (by simp [hy])))
    have h2 := List.length_erase_of_mem hx
    have h3 : 0 < m.length := List.length_pos_of_mem hx
    simp only [List.length_cons]; omega
theorem NdK.len {l : List ByteArray} {m : List (List UInt8)} (h : NdK l) (hs : SubK l m) : l.length ≤ m.length := by
  have := nodup_len (l.map keyS) m h (fun x hx => by
    obtain ⟨s, hs', rfl⟩ := List.mem_map.1 hx
    exact hs s hs')
  simpa using this

theorem hasS_mem (l : List ByteArray) (s : ByteArray) : hasS l s = true ↔ keyS s ∈ l.map keyS := by
  unfold hasS
  rw [List.any_eq_true, List.mem_map]
  constructor
  · rintro ⟨x, hx, e⟩; exact ⟨x, hx, beq_iff_eq.1 e⟩
  · rintro ⟨x, hx, e⟩; exact ⟨x, hx, beq_iff_eq.2 e⟩
theorem onceS_nd : ∀ (ys l : List ByteArray), NdK l → NdK (onceS l ys)
  | [], l, h => h
  | y :: ys, l, h => by
    refine onceS_nd ys _ ?_
    split
    · exact h
    · rename_i hy
      unfold NdK at *
      rw [List.map_append, List.nodup_append]
      refine ⟨h, by simp, fun a ha b hb => ?_⟩
      simp at hb; subst hb
      intro e; subst e
      exact hy ((hasS_mem l y).2 ha)
theorem onceS_left : ∀ (ys l : List ByteArray) (k : List UInt8), k ∈ l.map keyS → k ∈ (onceS l ys).map keyS
  | [], l, k, h => h
  | y :: ys, l, k, h => by
    refine onceS_left ys _ k ?_
    split
    · exact h
    · rw [List.map_append]; exact List.mem_append_left _ h
theorem onceS_right : ∀ (ys l : List ByteArray) (k : List UInt8), k ∈ ys.map keyS → k ∈ (onceS l ys).map keyS
  | [], l, k, h => by simp at h
  | y :: ys, l, k, h => by
    simp only [List.map_cons, List.mem_cons] at h
    rcases h with rfl | h
    · refine onceS_left ys _ _ ?_
      split
      · rename_i hy; exact (hasS_mem l y).1 hy
      · simp
    · exact onceS_right ys _ k h
theorem foldV_nd {α : Type} (f : α → List ByteArray) : ∀ (ks : List α) (l : List ByteArray), NdK l → NdK (foldV f l ks)
  | [], l, h => h
  | y :: ys, l, h => foldV_nd f ys _ (onceS_nd _ _ h)
theorem foldV_left {α : Type} (f : α → List ByteArray) : ∀ (ks : List α) (l : List ByteArray) (k : List UInt8), k ∈ l.map keyS → k ∈ (foldV f l ks).map keyS
  | [], l, k, h => h
  | y :: ys, l, k, h => foldV_left f ys _ k (onceS_left _ _ k h)
theorem foldV_right {α : Type} (f : α → List ByteArray) : ∀ (ks : List α) (l : List ByteArray) (y : α), y ∈ ks → ∀ k, k ∈ (f y).map keyS → k ∈ (foldV f l ks).map keyS
  | [], l, y, hy, k, h => by simp at hy
  | z :: ys, l, y, hy, k, h => by
    rcases List.mem_cons.1 hy with rfl | hy
    · exact foldV_left f ys _ k (onceS_right _ _ k h)
    · exact foldV_right f ys _ y hy k h

/-- The texts of all variables, as they stand. -/
def varL : Nat → Ex → List (List UInt8)
  | 0, _ => []
  | d + 1, .mk k n t m ks cs => (if k = 2 then [keyS t] else []) ++ (ks.flatMap (varL d) ++ cs.flatMap fun c => c.1.flatMap (varL d) ++ c.2.flatMap (varL d))
theorem flat_len {α : Type} (f : α → List (List UInt8)) (wt : α → Nat) : ∀ (ks : List α), (∀ y ∈ ks, (f y).length ≤ 1 + wt y) → (ks.flatMap f).length ≤ wtS wt ks
  | [], _ => by simp [wtS]
  | y :: ys, h => by
    have h1 := flat_len f wt ys (fun z hz => h z (by simp [hz]))
    have h2 := h y (by simp)
    have h4 : wtS wt (y :: ys) = 1 + wt y + wtS wt ys := by simp [wtS]; omega
    rw [List.flatMap_cons, List.length_append, h4]; omega
theorem varL_len : ∀ (d : Nat) (x : Ex), (varL d x).length ≤ 1 + wtEx d x
  | 0, _ => by simp [varL]
  | d + 1, .mk k n t m ks cs => by
    have h1 := flat_len (varL d) (wtEx d) ks (fun y _ => varL_len d y)
    have h2 : (if k = 2 then [keyS t] else ([] : List (List UInt8))).length ≤ 1 := by split <;> simp
    have h3 := flat_len (fun c : Cl => c.1.flatMap (varL d) ++ c.2.flatMap (varL d)) (wtCl (wtEx d)) cs (fun c _ => by
      have g1 := flat_len (varL d) (wtEx d) c.1 (fun y _ => varL_len d y)
      have g2 := flat_len (varL d) (wtEx d) c.2 (fun y _ => varL_len d y)
      rw [List.length_append]
      have : wtCl (wtEx d) c = wtS (wtEx d) c.1 + wtS (wtEx d) c.2 := rfl
      omega)
    have hw : wtEx (d + 1) (.mk k n t m ks cs) = t.size + m.size + wtS (wtEx d) ks + wtS (wtCl (wtEx d)) cs := rfl
    have hv : varL (d + 1) (.mk k n t m ks cs) = (if k = 2 then [keyS t] else []) ++ (ks.flatMap (varL d) ++ cs.flatMap fun c => c.1.flatMap (varL d) ++ c.2.flatMap (varL d)) := rfl
    have h5 : (cs.flatMap fun c => c.1.flatMap (varL d) ++ c.2.flatMap (varL d)).length ≤ wtS (wtCl (wtEx d)) cs := h3
    rw [hv, hw, List.length_append, List.length_append]
    exact Nat.le_trans (Nat.add_le_add h2 (Nat.add_le_add h1 h5)) (by omega)

theorem patV_nd (d : Nat) (x : Ex) : NdK (patV d x) := by
  cases d with
  | zero => simp [patV, NdK]
  | succ d =>
    obtain ⟨k, n, t, m, ks, cs⟩ := x
    refine foldV_nd _ _ _ ?_
    split <;> simp [NdK]
theorem patV_sub : ∀ (d : Nat) (x : Ex), SubK (patV d x) (varL d x)
  | 0, _ => fun s hs => by simp [patV] at hs
  | d + 1, .mk k n t m ks cs => fun s hs => by
    have hv : varL (d + 1) (.mk k n t m ks cs) = (if k = 2 then [keyS t] else []) ++ (ks.flatMap (varL d) ++ cs.flatMap fun c => c.1.flatMap (varL d) ++ c.2.flatMap (varL d)) := rfl
    rw [hv]
    rcases foldV_mem (patV d) ks _ s hs with h | ⟨y, hy, h⟩
    · split at h
      · rename_i hk
        simp at h; subst h; simp [hk]
      · simp at h
    · exact List.mem_append_right _ (List.mem_append_left _ (List.mem_flatMap.2 ⟨y, hy, patV_sub d y s h⟩))

/-- All variables, each once. -/
def allC (f : Ex → List ByteArray) (acc : List ByteArray) (c : Cl) : List ByteArray := foldV f (foldV f acc c.1) c.2
def allV : Nat → Ex → List ByteArray
  | 0, _ => []
  | d + 1, .mk k n t m ks cs => cs.foldl (allC (allV d)) (foldV (allV d) (patV (d + 1) (.mk k n t m ks cs)) ks)
theorem foldC_nd (f : Ex → List ByteArray) : ∀ (cs : List Cl) (l : List ByteArray), NdK l → NdK (cs.foldl (allC f) l)
  | [], l, h => h
  | c :: cs, l, h => foldC_nd f cs _ (foldV_nd _ _ _ (foldV_nd _ _ _ h))
theorem foldC_left (f : Ex → List ByteArray) : ∀ (cs : List Cl) (l : List ByteArray) (k : List UInt8), k ∈ l.map keyS → k ∈ (cs.foldl (allC f) l).map keyS
  | [], l, k, h => h
  | c :: cs, l, k, h => foldC_left f cs _ k (foldV_left _ _ _ k (foldV_left _ _ _ k h))
theorem foldC_right (f : Ex → List ByteArray) : ∀ (cs : List Cl) (l : List ByteArray) (c : Cl), c ∈ cs → ∀ y, (y ∈ c.1 ∨ y ∈ c.2) → ∀ k, k ∈ (f y).map keyS → k ∈ (cs.foldl (allC f) l).map keyS
  | [], l, c, hc, y, hy, k, h => by simp at hc
  | b :: cs, l, c, hc, y, hy, k, h => by
    rcases List.mem_cons.1 hc with rfl | hc
    · refine foldC_left f cs _ k ?_
      rcases hy with hy | hy
      · exact foldV_left _ _ _ k (foldV_right _ _ _ y hy k h)
      · exact foldV_right _ _ _ y hy k h
    · exact foldC_right f cs _ c hc y hy k h
theorem foldC_mem (f : Ex → List ByteArray) : ∀ (cs : List Cl) (l : List ByteArray), ∀ s ∈ cs.foldl (allC f) l, s ∈ l ∨ ∃ c ∈ cs, ∃ y, (y ∈ c.1 ∨ y ∈ c.2) ∧ s ∈ f y
  | [], l, s, h => .inl h
  | c :: cs, l, s, h => by
    rcases foldC_mem f cs (allC f l c) s h with h | ⟨b, hb, y, hy, hs⟩
    · rcases foldV_mem f c.2 _ s h with h | ⟨y, hy, hs⟩
      · rcases foldV_mem f c.1 _ s h with h | ⟨y, hy, hs⟩
        · exact .inl h
        · exact .inr ⟨c, by simp, y, .inl hy, hs⟩
      · exact .inr ⟨c, by simp, y, .inr hy, hs⟩
    · exact .inr ⟨b, by simp [hb], y, hy, hs⟩
theorem allV_nd (d : Nat) (x : Ex) : NdK (allV d x) := by
  cases d with
  | zero => simp [allV, NdK]
  | succ d =>
    obtain ⟨k, n, t, m, ks, cs⟩ := x
    exact foldC_nd _ _ _ (foldV_nd _ _ _ (patV_nd _ _))
theorem varL_kid {d : Nat} {k n : Int} {t m : ByteArray} {ks : List Ex} {cs : List Cl} {y : Ex} (hy : y ∈ ks) {z : List UInt8} (h : z ∈ varL d y) : z ∈ varL (d + 1) (.mk k n t m ks cs) := by
  show z ∈ (if k = 2 then [keyS t] else []) ++ (ks.flatMap (varL d) ++ cs.flatMap fun c => c.1.flatMap (varL d) ++ c.2.flatMap (varL d))
  exact List.mem_append_right _ (List.mem_append_left _ (List.mem_flatMap.2 ⟨y, hy, h⟩))
theorem varL_cl {d : Nat} {k n : Int} {t m : ByteArray} {ks : List Ex} {cs : List Cl} {c : Cl} (hc : c ∈ cs) {y : Ex} (hy : y ∈ c.1 ∨ y ∈ c.2) {z : List UInt8} (h : z ∈ varL d y) : z ∈ varL (d + 1) (.mk k n t m ks cs) := by
  show z ∈ (if k = 2 then [keyS t] else []) ++ (ks.flatMap (varL d) ++ cs.flatMap fun c => c.1.flatMap (varL d) ++ c.2.flatMap (varL d))
  refine List.mem_append_right _ (List.mem_append_right _ (List.mem_flatMap.2 ⟨c, hc, ?_⟩))
  rcases hy with hy | hy
  · exact List.mem_append_left _ (List.mem_flatMap.2 ⟨y, hy, h⟩)
  · exact List.mem_append_right _ (List.mem_flatMap.2 ⟨y, hy, h⟩)
/-- What has been gathered on the way. -/
structure Got (d : Nat) (x : Ex) (l : List ByteArray) : Prop where
  nd : NdK l
  sub : SubK l (varL d x)
  ok : ∀ s ∈ l, okS s
theorem Got.len {d : Nat} {x : Ex} {l : List ByteArray} (h : Got d x l) (hw : wtEx d x ≤ 1048576) : l.length ≤ 1048577 := by
  have h1 := h.nd.len h.sub
  have h2 := varL_len d x
  omega
theorem allV_sub : ∀ (d : Nat) (x : Ex), SubK (allV d x) (varL d x)
  | 0, _ => fun s hs => by simp [allV] at hs
  | d + 1, .mk k n t m ks cs => fun s hs => by
    rcases foldC_mem (allV d) cs _ s hs with h | ⟨c, hc, y, hy, h⟩
    · rcases foldV_mem (allV d) ks _ s h with h | ⟨y, hy, h⟩
      · exact patV_sub (d + 1) _ s h
      · exact varL_kid hy (allV_sub d y s h)
    · exact varL_cl hc hy (allV_sub d y s h)
theorem allV_ok : ∀ (d : Nat) (x : Ex), exS d x → ∀ s ∈ allV d x, okS s
  | 0, _, h, _, _ => h.elim
  | d + 1, .mk k n t m ks cs, h, s, hs => by
    rcases foldC_mem (allV d) cs _ s hs with h1 | ⟨c, hc, y, hy, h1⟩
    · rcases foldV_mem (allV d) ks _ s h1 with h1 | ⟨y, hy, h1⟩
      · exact patV_ok (d + 1) _ h s h1
      · exact allV_ok d y (h.2.1 y hy) s h1
    · rcases hy with hy | hy
      · exact allV_ok d y ((h.2.2 c hc).1 y hy) s h1
      · exact allV_ok d y ((h.2.2 c hc).2 y hy) s h1
theorem allV_got {d : Nat} {x : Ex} (h : exS d x) : Got d x (allV d x) := ⟨allV_nd d x, allV_sub d x, allV_ok d x h⟩
/-- No variable is left out. -/
theorem allV_all : ∀ (d : Nat) (x : Ex) (z : List UInt8), z ∈ varL d x → z ∈ (allV d x).map keyS
  | 0, _, z, h => by simp [varL] at h
  | d + 1, .mk k n t m ks cs, z, h => by
    have hv : varL (d + 1) (.mk k n t m ks cs) = (if k = 2 then [keyS t] else []) ++ (ks.flatMap (varL d) ++ cs.flatMap fun c => c.1.flatMap (varL d) ++ c.2.flatMap (varL d)) := rfl
    rw [hv] at h
    rcases List.mem_append.1 h with h | h
    · refine foldC_left _ _ _ _ (foldV_left _ _ _ _ ?_)
      split at h
      · rename_i hk
        simp at h; subst h
        refine foldV_left _ _ _ _ ?_
        simp [hk]
      · simp at h
    · rcases List.mem_append.1 h with h | h
      · obtain ⟨y, hy, h⟩ := List.mem_flatMap.1 h
        exact foldC_left _ _ _ _ (foldV_right _ _ _ y hy _ (allV_all d y z h))
      · obtain ⟨c, hc, h⟩ := List.mem_flatMap.1 h
        rcases List.mem_append.1 h with h | h
        · obtain ⟨y, hy, h⟩ := List.mem_flatMap.1 h
          exact foldC_right _ _ _ c hc y (.inl hy) _ (allV_all d y z h)
        · obtain ⟨y, hy, h⟩ := List.mem_flatMap.1 h
          exact foldC_right _ _ _ c hc y (.inr hy) _ (allV_all d y z h)
end Go.Proofs.YtompbdecdaaldaaDoor
