/-
  Texts of the proof, packed: NameMath, NameMath2, NameSpecA, NameSpecB, NameSpecE, AtMath.
-/
import Derived.Test.YtoknolophmhlgaaGreatDoorPackG
import Derived.Deep.RegionLaw
import Derived.Deep.RegionHeldLaw
import Derived.Deep.AppendLies
import Derived.Deep.QuietTactic
import Derived.BigQuiet
/-
  Chapter 4, plain mathematics: the variables of patterns, what is bound.
-/
namespace Go.Proofs.YtoknolophmhlgaaGreatDoor
open Go.ChangeShapes Go.WideShapes Go.ChangeAt Go.RowKit
set_option linter.unusedVariables false

/-- Names of one behind the other, each once. -/
def foldV {α : Type} (f : α → List ByteArray) (l : List ByteArray) (ks : List α) : List ByteArray := ks.foldl (fun acc y => onceS acc (f y)) l
theorem foldV_snoc {α : Type} (f : α → List ByteArray) (l : List ByteArray) (ks : List α) (k : Nat) (y : α) (h : ks[k]? = some y) : foldV f l (ks.take (k + 1)) = onceS (foldV f l (ks.take k)) (f y) := by
  unfold foldV
  rw [List.take_add_one, h]
  simp
theorem foldV_len {α : Type} (f : α → List ByteArray) (wt : α → Nat) : ∀ (ks : List α) (l : List ByteArray), (∀ y ∈ ks, (f y).length ≤ 1 + wt y) → (foldV f l ks).length ≤ l.length + wtS wt ks
  | [], l, _ => by simp [foldV]
  | y :: ys, l, h => by
    have h1 := foldV_len f wt ys (onceS l (f y)) (fun z hz => h z (by simp [hz]))
    have h2 := onceS_length l (f y)
    have h3 := h y (by simp)
    have h4 : wtS wt (y :: ys) = 1 + wt y + wtS wt ys := by simp [wtS]; omega
    have h5 : foldV f l (y :: ys) = foldV f (onceS l (f y)) ys := rfl
    rw [h5, h4]; omega
theorem foldV_mem {α : Type} (f : α → List ByteArray) : ∀ (ks : List α) (l : List ByteArray), ∀ s ∈ foldV f l ks, s ∈ l ∨ ∃ y ∈ ks, s ∈ f y
  | [], l, s, h => .inl h
  | y :: ys, l, s, h => by
    rcases foldV_mem f ys (onceS l (f y)) s h with h | ⟨z, hz, hs⟩
    · rcases onceS_mem l (f y) s h with h | h
      · exact .inl h
      · exact .inr ⟨y, by simp, h⟩
    · exact .inr ⟨z, by simp [hz], hs⟩

/-- The variables of a pattern. -/
def patV : Nat → Ex → List ByteArray
  | 0, _ => []
  | d + 1, .mk k n t m ks cs => foldV (patV d) (if k = 2 then [t] else []) ks
theorem patV_len : ∀ (d : Nat) (x : Ex), (patV d x).length ≤ 1 + wtEx d x
  | 0, _ => by simp [patV]
  | d + 1, .mk k n t m ks cs => by
    have h1 := foldV_len (patV d) (wtEx d) ks (if k = 2 then [t] else []) (fun y _ => patV_len d y)
    have h2 : (if k = 2 then [t] else ([] : List ByteArray)).length ≤ 1 := by split <;> simp
    have hw : wtEx (d + 1) (.mk k n t m ks cs) = t.size + m.size + wtS (wtEx d) ks + wtS (wtCl (wtEx d)) cs := rfl
    have h3 : patV (d + 1) (.mk k n t m ks cs) = foldV (patV d) (if k = 2 then [t] else []) ks := rfl
    rw [h3, hw]; omega
/-- What is bound behind an expression. -/
def bndV : Nat → Ex → List ByteArray
  | 0, _ => []
  | d + 1, .mk k n t m ks cs => match k, ks with
    | 9, [a, b] => onceS (bndV d b) (patV d a)
    | _, ks => foldV (bndV d) [] ks
/-- The texts of an expression are as long as any may be. -/
def exS : Nat → Ex → Prop
  | 0, _ => False
  | d + 1, .mk k n t m ks cs => okS t ∧ (∀ y ∈ ks, exS d y) ∧ ∀ c ∈ cs, (∀ y ∈ c.1, exS d y) ∧ ∀ y ∈ c.2, exS d y
theorem rows_mem' {α : Type} {w : World} {S : Nat → Prop} {c : Nat} {R : List Value → α → Prop} {v : Value} {es : List α} (h : Rows w S c R v es) : ∀ y ∈ es, ∃ cs, R cs y := by
  intro y hy
  obtain ⟨p, cap, _, _, _, hr⟩ := h
  obtain ⟨i, hi⟩ := List.mem_iff_getElem?.1 hy
  obtain ⟨g, off, _, _, _, hat⟩ := hr (by intro e; rw [e] at hi; simp at hi)
  obtain ⟨cs, _, _, hv⟩ := hat i y hi
  exact ⟨cs, hv⟩
theorem HEx.txts {w : World} {S : Nat → Prop} : ∀ {d : Nat} {cs : List Value} {x : Ex}, HEx w S d cs x → exS d x
  | 0, _, _, h => h.elim
  | d + 1, cs, .mk k n t m ks cl, h => by
    obtain ⟨kv, cv, rfl, h1, h2, h3, h4, f0, f1⟩ := h
    refine ⟨h3, fun y hy => ?_, fun c hc => ?_⟩
    · obtain ⟨_, hv⟩ := rows_mem' f0 y hy
      exact hv.txts
    · obtain ⟨_, p, b, _, g0, g1⟩ := rows_mem' f1 c hc
      exact ⟨fun y hy => by obtain ⟨_, hv⟩ := rows_mem' g0 y hy; exact hv.txts, fun y hy => by obtain ⟨_, hv⟩ := rows_mem' g1 y hy; exact hv.txts⟩
theorem patV_ok : ∀ (d : Nat) (x : Ex), exS d x → ∀ s ∈ patV d x, okS s
  | 0, _, h, _, _ => h.elim
  | d + 1, .mk k n t m ks cs, h, s, hs => by
    rcases foldV_mem (patV d) ks _ s hs with h1 | ⟨y, hy, h1⟩
    · split at h1
      · simp at h1; subst h1; exact h.1
      · simp at h1
    · exact patV_ok d y (h.2.1 y hy) s h1
end Go.Proofs.YtoknolophmhlgaaGreatDoor
/-
  Chapter 4, plain mathematics: all variables of an expression, each once; how many they can be.
-/
namespace Go.Proofs.YtoknolophmhlgaaGreatDoor
open Go.ChangeShapes Go.WideShapes Go.ChangeAt Go.RowKit
set_option linter.unusedVariables false

abbrev keyS (s : ByteArray) : List UInt8 := s.toList
def NdK (l : List ByteArray) : Prop := (l.map keyS).Nodup
def SubK (l : List ByteArray) (m : List (List UInt8)) : Prop := ∀ s ∈ l, keyS s ∈ m

theorem nodup_len {α : Type} [BEq α] [LawfulBEq α] : ∀ (l m : List α), l.Nodup → (∀ x ∈ l, x ∈ m) → l.length ≤ m.length
  | [], m, _, _ => Nat.zero_le _
  | x :: xs, m, hn, hs => by
    have hx : x ∈ m := hs x (by simp)
    rw [List.nodup_cons] at hn
    have h1 := nodup_len xs (m.erase x) hn.2 (fun y hy => (List.mem_erase_of_ne (by intro e; subst e; exact hn.1 hy)).2 (hs y (by simp [hy])))
    have h2 := List.length_erase_of_mem hx
    have h3 : 0 < m.length := List.length_pos_of_mem hx
    simp only [List.length_cons]; omega
theorem NdK.len {l : List ByteArray} {m : List (List UInt8)} (h : NdK l) (hs : SubK l m) : l.length ≤ m.length := by
  have := nodup_len (l.map keyS) m h (fun x hx => by
    obtain ⟨s, hs', rfl⟩ := List.mem_map.1 hx
    exact hs s hs')
  simpa using this

theorem hasS_mem (l : List ByteArray) (s : ByteArray) : hasS l s = true ↔ keyS s ∈ l.map keyS := by
  unfold hasS
  rw [List.any_eq_true, List.mem_map]
  constructor
  · rintro ⟨x, hx, e⟩; exact ⟨x, hx, beq_iff_eq.1 e⟩
  · rintro ⟨x, hx, e⟩; exact ⟨x, hx, beq_iff_eq.2 e⟩
theorem onceS_nd : ∀ (ys l : List ByteArray), NdK l → NdK (onceS l ys)
  | [], l, h => h
  | y :: ys, l, h => by
    refine onceS_nd ys _ ?_
    split
    · exact h
    · rename_i hy
      unfold NdK at *
      rw [List.map_append, List.nodup_append]
      refine ⟨h, by simp, fun a ha b hb => ?_⟩
      simp at hb; subst hb
      intro e; subst e
      exact hy ((hasS_mem l y).2 ha)
theorem onceS_left : ∀ (ys l : List ByteArray) (k : List UInt8), k ∈ l.map keyS → k ∈ (onceS l ys).map keyS
  | [], l, k, h => h
  | y :: ys, l, k, h => by
    refine onceS_left ys _ k ?_
    split
    · exact h
    · rw [List.map_append]; exact List.mem_append_left _ h
theorem onceS_right : ∀ (ys l : List ByteArray) (k : List UInt8), k ∈ ys.map keyS → k ∈ (onceS l ys).map keyS
  | [], l, k, h => by simp at h
  | y :: ys, l, k, h => by
    simp only [List.map_cons, List.mem_cons] at h
    rcases h with rfl | h
    · refine onceS_left ys _ _ ?_
      split
      · rename_i hy; exact (hasS_mem l y).1 hy
      · simp
    · exact onceS_right ys _ k h
theorem foldV_nd {α : Type} (f : α → List ByteArray) : ∀ (ks : List α) (l : List ByteArray), NdK l → NdK (foldV f l ks)
  | [], l, h => h
  | y :: ys, l, h => foldV_nd f ys _ (onceS_nd _ _ h)
theorem foldV_left {α : Type} (f : α → List ByteArray) : ∀ (ks : List α) (l : List ByteArray) (k : List UInt8), k ∈ l.map keyS → k ∈ (foldV f l ks).map keyS
  | [], l, k, h => h
  | y :: ys, l, k, h => foldV_left f ys _ k (onceS_left _ _ k h)
theorem foldV_right {α : Type} (f : α → List ByteArray) : ∀ (ks : List α) (l : List ByteArray) (y : α), y ∈ ks → ∀ k, k ∈ (f y).map keyS → k ∈ (foldV f l ks).map keyS
  | [], l, y, hy, k, h => by simp at hy
  | z :: ys, l, y, hy, k, h => by
    rcases List.mem_cons.1 hy with rfl | hy
    · exact foldV_left f ys _ k (onceS_right _ _ k h)
    · exact foldV_right f ys _ y hy k h

/-- The texts of all variables, as they stand. -/
def varL : Nat → Ex → List (List UInt8)
  | 0, _ => []
  | d + 1, .mk k n t m ks cs => (if k = 2 then [keyS t] else []) ++ (ks.flatMap (varL d) ++ cs.flatMap fun c => c.1.flatMap (varL d) ++ c.2.flatMap (varL d))
theorem flat_len {α : Type} (f : α → List (List UInt8)) (wt : α → Nat) : ∀ (ks : List α), (∀ y ∈ ks, (f y).length ≤ 1 + wt y) → (ks.flatMap f).length ≤ wtS wt ks
  | [], _ => by simp [wtS]
  | y :: ys, h => by
    have h1 := flat_len f wt ys (fun z hz => h z (by simp [hz]))
    have h2 := h y (by simp)
    have h4 : wtS wt (y :: ys) = 1 + wt y + wtS wt ys := by simp [wtS]; omega
    rw [List.flatMap_cons, List.length_append, h4]; omega
theorem varL_len : ∀ (d : Nat) (x : Ex), (varL d x).length ≤ 1 + wtEx d x
  | 0, _ => by simp [varL]
  | d + 1, .mk k n t m ks cs => by
    have h1 := flat_len (varL d) (wtEx d) ks (fun y _ => varL_len d y)
    have h2 : (if k = 2 then [keyS t] else ([] : List (List UInt8))).length ≤ 1 := by split <;> simp
    have h3 := flat_len (fun c : Cl => c.1.flatMap (varL d) ++ c.2.flatMap (varL d)) (wtCl (wtEx d)) cs (fun c _ => by
      have g1 := flat_len (varL d) (wtEx d) c.1 (fun y _ => varL_len d y)
      have g2 := flat_len (varL d) (wtEx d) c.2 (fun y _ => varL_len d y)
      rw [List.length_append]
      have : wtCl (wtEx d) c = wtS (wtEx d) c.1 + wtS (wtEx d) c.2 := rfl
      omega)
    have hw : wtEx (d + 1) (.mk k n t m ks cs) = t.size + m.size + wtS (wtEx d) ks + wtS (wtCl (wtEx d)) cs := rfl
    have hv : varL (d + 1) (.mk k n t m ks cs) = (if k = 2 then [keyS t] else []) ++ (ks.flatMap (varL d) ++ cs.flatMap fun c => c.1.flatMap (varL d) ++ c.2.flatMap (varL d)) := rfl
    have h5 : (cs.flatMap fun c => c.1.flatMap (varL d) ++ c.2.flatMap (varL d)).length ≤ wtS (wtCl (wtEx d)) cs := h3
    rw [hv, hw, List.length_append, List.length_append]
    exact Nat.le_trans (Nat.add_le_add h2 (Nat.add_le_add h1 h5)) (by omega)

theorem patV_nd (d : Nat) (x : Ex) : NdK (patV d x) := by
  cases d with
  | zero => simp [patV, NdK]
  | succ d =>
    obtain ⟨k, n, t, m, ks, cs⟩ := x
    refine foldV_nd _ _ _ ?_
    split <;> simp [NdK]
theorem patV_sub : ∀ (d : Nat) (x : Ex), SubK (patV d x) (varL d x)
  | 0, _ => fun s hs => by simp [patV] at hs
  | d + 1, .mk k n t m ks cs => fun s hs => by
    have hv : varL (d + 1) (.mk k n t m ks cs) = (if k = 2 then [keyS t] else []) ++ (ks.flatMap (varL d) ++ cs.flatMap fun c => c.1.flatMap (varL d) ++ c.2.flatMap (varL d)) := rfl
    rw [hv]
    rcases foldV_mem (patV d) ks _ s hs with h | ⟨y, hy, h⟩
    · split at h
      · rename_i hk
        simp at h; subst h; simp [hk]
      · simp at h
    · exact List.mem_append_right _ (List.mem_append_left _ (List.mem_flatMap.2 ⟨y, hy, patV_sub d y s h⟩))

/-- All variables, each once. -/
def allC (f : Ex → List ByteArray) (acc : List ByteArray) (c : Cl) : List ByteArray := foldV f (foldV f acc c.1) c.2
def allV : Nat → Ex → List ByteArray
  | 0, _ => []
  | d + 1, .mk k n t m ks cs => cs.foldl (allC (allV d)) (foldV (allV d) (patV (d + 1) (.mk k n t m ks cs)) ks)
theorem foldC_nd (f : Ex → List ByteArray) : ∀ (cs : List Cl) (l : List ByteArray), NdK l → NdK (cs.foldl (allC f) l)
  | [], l, h => h
  | c :: cs, l, h => foldC_nd f cs _ (foldV_nd _ _ _ (foldV_nd _ _ _ h))
theorem foldC_left (f : Ex → List ByteArray) : ∀ (cs : List Cl) (l : List ByteArray) (k : List UInt8), k ∈ l.map keyS → k ∈ (cs.foldl (allC f) l).map keyS
  | [], l, k, h => h
  | c :: cs, l, k, h => foldC_left f cs _ k (foldV_left _ _ _ k (foldV_left _ _ _ k h))
theorem foldC_right (f : Ex → List ByteArray) : ∀ (cs : List Cl) (l : List ByteArray) (c : Cl), c ∈ cs → ∀ y, (y ∈ c.1 ∨ y ∈ c.2) → ∀ k, k ∈ (f y).map keyS → k ∈ (cs.foldl (allC f) l).map keyS
  | [], l, c, hc, y, hy, k, h => by simp at hc
  | b :: cs, l, c, hc, y, hy, k, h => by
    rcases List.mem_cons.1 hc with rfl | hc
    · refine foldC_left f cs _ k ?_
      rcases hy with hy | hy
      · exact foldV_left _ _ _ k (foldV_right _ _ _ y hy k h)
      · exact foldV_right _ _ _ y hy k h
    · exact foldC_right f cs _ c hc y hy k h
theorem foldC_mem (f : Ex → List ByteArray) : ∀ (cs : List Cl) (l : List ByteArray), ∀ s ∈ cs.foldl (allC f) l, s ∈ l ∨ ∃ c ∈ cs, ∃ y, (y ∈ c.1 ∨ y ∈ c.2) ∧ s ∈ f y
  | [], l, s, h => .inl h
  | c :: cs, l, s, h => by
    rcases foldC_mem f cs (allC f l c) s h with h | ⟨b, hb, y, hy, hs⟩
    · rcases foldV_mem f c.2 _ s h with h | ⟨y, hy, hs⟩
      · rcases foldV_mem f c.1 _ s h with h | ⟨y, hy, hs⟩
        · exact .inl h
        · exact .inr ⟨c, by simp, y, .inl hy, hs⟩
      · exact .inr ⟨c, by simp, y, .inr hy, hs⟩
    · exact .inr ⟨b, by simp [hb], y, hy, hs⟩
theorem allV_nd (d : Nat) (x : Ex) : NdK (allV d x) := by
  cases d with
  | zero => simp [allV, NdK]
  | succ d =>
    obtain ⟨k, n, t, m, ks, cs⟩ := x
    exact foldC_nd _ _ _ (foldV_nd _ _ _ (patV_nd _ _))
theorem varL_kid {d : Nat} {k n : Int} {t m : ByteArray} {ks : List Ex} {cs : List Cl} {y : Ex} (hy : y ∈ ks) {z : List UInt8} (h : z ∈ varL d y) : z ∈ varL (d + 1) (.mk k n t m ks cs) := by
  show z ∈ (if k = 2 then [keyS t] else []) ++ (ks.flatMap (varL d) ++ cs.flatMap fun c => c.1.flatMap (varL d) ++ c.2.flatMap (varL d))
  exact List.mem_append_right _ (List.mem_append_left _ (List.mem_flatMap.2 ⟨y, hy, h⟩))
theorem varL_cl {d : Nat} {k n : Int} {t m : ByteArray} {ks : List Ex} {cs : List Cl} {c : Cl} (hc : c ∈ cs) {y : Ex} (hy : y ∈ c.1 ∨ y ∈ c.2) {z : List UInt8} (h : z ∈ varL d y) : z ∈ varL (d + 1) (.mk k n t m ks cs) := by
  show z ∈ (if k = 2 then [keyS t] else []) ++ (ks.flatMap (varL d) ++ cs.flatMap fun c => c.1.flatMap (varL d) ++ c.2.flatMap (varL d))
  refine List.mem_append_right _ (List.mem_append_right _ (List.mem_flatMap.2 ⟨c, hc, ?_⟩))
  rcases hy with hy | hy
  · exact List.mem_append_left _ (List.mem_flatMap.2 ⟨y, hy, h⟩)
  · exact List.mem_append_right _ (List.mem_flatMap.2 ⟨y, hy, h⟩)
/-- What has been gathered on the way. -/
structure Got (d : Nat) (x : Ex) (l : List ByteArray) : Prop where
  nd : NdK l
  sub : SubK l (varL d x)
  ok : ∀ s ∈ l, okS s
theorem Got.len {d : Nat} {x : Ex} {l : List ByteArray} (h : Got d x l) (hw : wtEx d x ≤ 1048576) : l.length ≤ 1048577 := by
  have h1 := h.nd.len h.sub
  have h2 := varL_len d x
  omega
theorem allV_sub : ∀ (d : Nat) (x : Ex), SubK (allV d x) (varL d x)
  | 0, _ => fun s hs => by simp [allV] at hs
  | d + 1, .mk k n t m ks cs => fun s hs => by
    rcases foldC_mem (allV d) cs _ s hs with h | ⟨c, hc, y, hy, h⟩
    · rcases foldV_mem (allV d) ks _ s h with h | ⟨y, hy, h⟩
      · exact patV_sub (d + 1) _ s h
      · exact varL_kid hy (allV_sub d y s h)
    · exact varL_cl hc hy (allV_sub d y s h)
theorem allV_ok : ∀ (d : Nat) (x : Ex), exS d x → ∀ s ∈ allV d x, okS s
  | 0, _, h, _, _ => h.elim
  | d + 1, .mk k n t m ks cs, h, s, hs => by
    rcases foldC_mem (allV d) cs _ s hs with h1 | ⟨c, hc, y, hy, h1⟩
    · rcases foldV_mem (allV d) ks _ s h1 with h1 | ⟨y, hy, h1⟩
      · exact patV_ok (d + 1) _ h s h1
      · exact allV_ok d y (h.2.1 y hy) s h1
    · rcases hy with hy | hy
      · exact allV_ok d y ((h.2.2 c hc).1 y hy) s h1
      · exact allV_ok d y ((h.2.2 c hc).2 y hy) s h1
theorem allV_got {d : Nat} {x : Ex} (h : exS d x) : Got d x (allV d x) := ⟨allV_nd d x, allV_sub d x, allV_ok d x h⟩
/-- No variable is left out. -/
theorem allV_all : ∀ (d : Nat) (x : Ex) (z : List UInt8), z ∈ varL d x → z ∈ (allV d x).map keyS
  | 0, _, z, h => by simp [varL] at h
  | d + 1, .mk k n t m ks cs, z, h => by
    have hv : varL (d + 1) (.mk k n t m ks cs) = (if k = 2 then [keyS t] else []) ++ (ks.flatMap (varL d) ++ cs.flatMap fun c => c.1.flatMap (varL d) ++ c.2.flatMap (varL d)) := rfl
    rw [hv] at h
    rcases List.mem_append.1 h with h | h
    · refine foldC_left _ _ _ _ (foldV_left _ _ _ _ ?_)
      split at h
      · rename_i hk
        simp at h; subst h
        refine foldV_left _ _ _ _ ?_
        simp [hk]
      · simp at h
    · rcases List.mem_append.1 h with h | h
      · obtain ⟨y, hy, h⟩ := List.mem_flatMap.1 h
        exact foldC_left _ _ _ _ (foldV_right _ _ _ y hy _ (allV_all d y z h))
      · obtain ⟨c, hc, h⟩ := List.mem_flatMap.1 h
        rcases List.mem_append.1 h with h | h
        · obtain ⟨y, hy, h⟩ := List.mem_flatMap.1 h
          exact foldC_right _ _ _ c hc y (.inl hy) _ (allV_all d y z h)
        · obtain ⟨y, hy, h⟩ := List.mem_flatMap.1 h
          exact foldC_right _ _ _ c hc y (.inr hy) _ (allV_all d y z h)
end Go.Proofs.YtoknolophmhlgaaGreatDoor
/-
  The specification's chapter 4, by contract: l01Has, l04Once, l04PatVars.
-/
namespace Go.Proofs.YtoknolophmhlgaaGreatDoor
open Go.ChangeShapes Go.WideShapes Go.ChangeAt Go.RowKit
set_option linter.unusedVariables false

theorem anyT_succ' {α : Type} (f : α → Bool) (xs : List α) (k : Nat) (x : α) (h : xs[k]? = some x) (ht : (xs.take k).any f = false) (hx : f x = false) : (xs.take (k + 1)).any f = false := by
  rw [List.take_add_one, h, List.any_append, ht]; simp [hx]
theorem anyT_at' {α : Type} (f : α → Bool) (xs : List α) (k : Nat) (x : α) (h : xs[k]? = some x) (hx : f x = true) : xs.any f = true := by
  rw [List.any_eq_true]; exact ⟨x, List.mem_of_getElem? h, hx⟩

set_option maxHeartbeats 1000000 in
theorem hasS_any (w : World) (v : Value) (xs : List ByteArray) (s : ByteArray) (h : StrR w v xs) :
    Calls Tryz.prog 53 #[v, .string s] w fun e w' => e = .returned (.bool (hasS xs s)) ∧ w' = w := by
  have hv : hasS xs s = xs.any (fun x => x.toList == s.toList) := rfl
  rw [hv]
  clear hv
  obtain ⟨p, cap, rfl, hcl, hcm, hx⟩ := h
  have hnb : xs.length ≤ 9223372036854775807 := by unfold maxLen at hcm; omega
  generalize hn : xs.length = n at *
  have HN : Hid (xs.length = n) := hn
  have HX : Hid (xs ≠ [] → ∃ g off, p = some ⟨g, off, none⟩ ∧ All g ∧ g < w.heap.size ∧ ∀ i x, xs[i]? = some x → ∃ cs, cs.length = 1 ∧ (∀ j, j < 1 → w.cell? ⟨g, off + i * 1 + j, none⟩ = cs[j]?) ∧ HStr cs x) := hx
  clear hx hn
  go_enter Tryz.func53, Tryz.ntmps53
  go_wp2
  go_loop [5] (fun iv => ∃ k : Nat, k ≤ n ∧ iv = .int .i64 k ∧ Hid ((xs.take k).any (fun x => x.toList == s.toList) = false)) (fun iv => n - (intOf iv).toNat)
  case atStart => exact ⟨0, Nat.zero_le _, rfl, by show _ = _; simp⟩
  case round =>
    obtain ⟨k, hk, rfl, hno⟩ := hrel
    by_cases hlt : k < n
    · obtain ⟨x, hxk⟩ : ∃ x, xs[k]? = some x := ⟨xs[k]'(by rw [HN.out]; exact hlt), List.getElem?_eq_getElem _⟩
      obtain ⟨g, off, rfl, -, hgl, hat⟩ := HX.out (by intro h; rw [h] at hxk; simp at hxk)
      obtain ⟨cs, hcsl, hcs, rfl, -⟩ := hat k x hxk
      have a0 := hcs 0 (by omega)
      simp at a0
      have hki : (k : Int) < (n : Int) := by omega
      have hk0 : (0 : Int) ≤ (k : Int) := by omega
      clear hcs hat hcsl
      cases hq : (x.toList == s.toList) with
      | true =>
        have HS : Hid ((xs.any fun x => x.toList == s.toList) = true) := anyT_at' _ xs k x hxk hq
        go_wp2
        go_ret
        exact ⟨by rw [HS.out]; rfl, rfl⟩
      | false =>
        have HS : Hid ((xs.take (k + 1)).any (fun x => x.toList == s.toList) = false) := anyT_succ' _ xs k x hxk hno.out hq
        go_wp2
        go_round
        case rel => exact ⟨k + 1, by omega, by go_num, HS⟩
        case measure => simp [intOf]; omega
    · have HS : Hid ((xs.any fun x => x.toList == s.toList) = false) := by
        have := hno.out
        rwa [List.take_of_length_le (by rw [HN.out]; omega)] at this
      go_wp2
      go_ret
      exact ⟨by rw [HS.out]; rfl, rfl⟩

theorem one_str (W : World) (s : ByteArray) (g : Nat) (hg : g = W.heap.size) : ∀ j u, (strs [s])[j]? = some u → (W.alloc (.cells #[.string s] 9)).cell? ((⟨g, 0, none⟩ : Addr).add j) = some u := by
  subst hg
  intro j u h
  match j, h with
  | 0, h => simp [strs] at h; subst h; rw [Addr.add]; exact cell_new W _ _ 0 _ rfl

set_option maxHeartbeats 4000000 in
set_option maxRecDepth 100000 in
/-- Names with more behind. -/
theorem once_any (w : World) (v1 v2 : Value) (xs ys : List ByteArray) (h1 : StrV w v1 xs) (h2 : StrR w v2 ys) (hl : xs.length + ys.length ≤ 8388608) :
    Calls Tryz.prog 32 #[v1, v2] w fun e w' => ∃ u, e = .returned u ∧ OwnS w' w.heap.size u (onceS xs ys) ∧ Below w.heap.size w w' := by
  obtain ⟨h1, hnil⟩ := h1
  have OX := h1.okS
  have OY := h2.okS
  obtain ⟨p, cap, rfl, hcl, hcm, hx⟩ := h1
  obtain ⟨q, cap', rfl, hcl', hcm', hy⟩ := h2
  obtain ⟨i, hi, hz0, hz1, hz2⟩ := info_parts info_str
  have hlx : xs.length ≤ 8388608 := by omega
  have hly : ys.length ≤ 8388608 := by omega
  have LQ : Hid (∀ k, (onceS xs (ys.take k)).length ≤ 8388608) := fun k => by
    have h3 := onceS_length xs (ys.take k)
    have h4 : (ys.take k).length ≤ ys.length := by rw [List.length_take]; omega
    omega
  have OQ : Hid (∀ k, ∀ x ∈ onceS xs (ys.take k), okS x) := fun k x hx => by
    rcases onceS_mem _ _ x hx with h | h
    · exact OX x h
    · exact OY x (List.mem_of_mem_take h)
  have HY : Hid (ys ≠ [] → ∃ g off, q = some ⟨g, off, none⟩ ∧ All g ∧ g < w.heap.size ∧ ∀ i x, ys[i]? = some x → ∃ cs, cs.length = 1 ∧ (∀ j, j < 1 → w.cell? ⟨g, off + i * 1 + j, none⟩ = cs[j]?) ∧ HStr cs x) := hy
  have O0 : Hid (OwnS (w.alloc (.cells #[] 9)) w.heap.size (.slice (some ⟨w.heap.size, 0, none⟩) 0 0) []) := OwnS.fresh
  have BL : Hid (Below w.heap.size w (w.alloc (.cells #[] 9))) := (Below.refl _ _).alloc (Nat.le_refl _) _
  have HC : Hid (∀ a, p = some a → ∀ j u, (strs xs)[j]? = some u → (w.alloc (.cells #[] 9)).cell? (a.add j) = some u) := fun a ha j u hj => by
    have hne : xs ≠ [] := by intro e; rw [e] at hj; simp [strs] at hj
    obtain ⟨g, off, hp, -, hgl, hat⟩ := hx hne
    have hj' := hj
    simp only [strs, List.getElem?_map, Option.map_eq_some_iff] at hj'
    obtain ⟨x, hxj, rfl⟩ := hj'
    obtain ⟨cs, _, hcs, rfl, _⟩ := hat j x hxj
    have h0 := hcs 0 (by omega)
    rw [hp] at ha
    obtain rfl := Option.some.inj ha
    have e1 : (⟨g, off, none⟩ : Addr).add j = ⟨g, off + j * 1 + 0, none⟩ := by simp [Addr.add]
    rw [e1, BL.out.cell (p := ⟨g, _, none⟩) hgl]
    exact h0
  generalize hn : ys.length = n at *
  have HN : Hid (ys.length = n) := hn
  clear hy OX OY hx hn
  cases p with
  | none =>
    have hxs : xs = [] := by
      have := hnil _ _ rfl
      simp only [Value.slice.injEq, true_and] at this
      exact List.length_eq_zero_iff.1 this.1
    have hcz : cap = 0 := by
      have := hnil _ _ rfl
      simp only [Value.slice.injEq, true_and] at this
      exact this.2
    subst hxs hcz
    simp only [List.length_nil] at *
    clear hnil
    go_enter Tryz.func32, Tryz.ntmps32
    go_wp2_with (first | (at_builtin; refine wpList_append_own_none rfl _ _ 27 rfl w.heap.size 9 i 1 Tryz.underlying27 hi _ _ _ rfl O0.out.1 rfl ?_))
    have HO1 := O0
    have HB1 := BL
    go_wp2_with fail
    go_loopw [5, 6] (fun ov iv wr => ∃ k : Nat, k ≤ n ∧ iv = .int .i64 k ∧ Hid (OwnS wr w.heap.size ov (onceS [] (ys.take k))) ∧ Below w.heap.size w wr) (fun _ iv _ => n - (intOf iv).toNat)
    case atStart => exact ⟨0, Nat.zero_le _, rfl, HO1.out, HB1.out⟩
    case round =>
      obtain ⟨k, hk, rfl, ho, hb⟩ := hrel
      have HB : Hid (Below w.heap.size w wr) := hb
      by_cases hlt : k < n
      · obtain ⟨y, hyk⟩ : ∃ y, ys[k]? = some y := ⟨ys[k]'(by rw [HN.out]; exact hlt), List.getElem?_eq_getElem _⟩
        obtain ⟨g, off, rfl, -, hgl, hat⟩ := HY.out (by intro h; rw [h] at hyk; simp at hyk)
        obtain ⟨cs, hcsl, hcs, rfl, -⟩ := hat k y hyk
        have a0 := hcs 0 (by omega)
        rw [← hb.cell (p := ⟨g, _, none⟩) hgl] at a0
        simp at a0
        have hki : (k : Int) < (n : Int) := by omega
        have hk0 : (0 : Int) ≤ (k : Int) := by omega
        have HJ : Hid (onceS [] (ys.take (k + 1)) = if hasS (onceS [] (ys.take k)) y then onceS [] (ys.take k) else onceS [] (ys.take k) ++ [y]) := by
          show _ = _
          rw [List.take_add_one, hyk]
          exact onceS_snoc [] (ys.take k) y
        have lq := LQ.out k
        have oq := OQ.out k
        have SR : Hid (StrR wr u5 (onceS [] (ys.take k))) := ho.out.strR oq
        generalize hJ0 : onceS [] (ys.take k) = J at *
        clear hb hcs hat hcsl oq hJ0
        cases hq : hasS J y with
        | true =>
          have HJ2 : Hid (onceS [] (ys.take (k + 1)) = J) := by show _ = _; rw [HJ.out, hq]; rfl
          go_wp2_with (first | (go_at_call 53; go_must (refine (hasS_any _ _ _ _ SR.out).mono ?_; rintro e w9 ⟨rfl, hw9⟩; rw [hq, hw9]; clear hw9 w9)))
          exact ⟨⟨k + 1, by omega, by go_num, by show OwnS _ _ _ _; rw [HJ2.out]; exact ho.out, HB.out⟩, by simp [intOf]; omega⟩
        | false =>
          have HJ2 : Hid (onceS [] (ys.take (k + 1)) = J ++ [y]) := by show _ = _; rw [HJ.out, hq]; rfl
          have OA : Hid (OwnS (wr.alloc (.cells #[.string y] 9)) w.heap.size u5 J) := ho.out.next ((Below.refl _ _).alloc (Nat.le_refl _) _)
          have N1 : Hid (∀ j u, (strs [y])[j]? = some u → (wr.alloc (.cells #[.string y] 9)).cell? ((⟨wr.heap.size, 0, none⟩ : Addr).add j) = some u) := one_str wr y _ rfl
          have BA : Hid (Below w.heap.size w (wr.alloc (.cells #[.string y] 9))) := HB.out.alloc HB.out.size _
          go_wp2_with (first | (go_at_call 53; go_must (refine (hasS_any _ _ _ _ SR.out).mono ?_; rintro e w9 ⟨rfl, hw9⟩; rw [hq, hw9]; clear hw9 w9)) | (at_builtin; refine wpList_append_own _ rfl _ _ 27 rfl w.heap.size 9 i (.string ⟨#[]⟩) 1 16 Tryz.underlying27 hi hz0 hz1 hz2 rfl (by decide) u5 _ _ rfl OA.out.1 _ 1 1 (strs [y]) rfl rfl N1.out (strs_oneCell _) (by unfold maxLen; omega) (by omega) OA.out.2 ?_))
          intro u2 w2 hown2 hgr2 _
          have HO2 : Hid (OwnS w2 w.heap.size u2 (J ++ [y])) := OwnS.of hown2 (by simp) rfl (Nat.le_trans OA.out.2 hgr2.size)
          have HB2 : Hid (Below w.heap.size w w2) := BA.out.trans (OA.out.below hgr2)
          clear hown2 hgr2
          go_wp2_with fail
          exact ⟨⟨k + 1, by omega, by go_num, by show OwnS _ _ _ _; rw [HJ2.out]; exact HO2.out, HB2.out⟩, by simp [intOf]; omega⟩
      · have HS : Hid (OwnS wr w.heap.size u5 (onceS [] ys)) := by
          have := ho.out
          rwa [List.take_of_length_le (by rw [HN.out]; omega)] at this
        clear hb
        go_wp2_with fail
        go_ret
        exact ⟨u5, rfl, HS.out, HB.out⟩
  | some a =>
    go_enter Tryz.func32, Tryz.ntmps32
    go_wp2_with (first | (at_builtin; refine wpList_append_own _ rfl _ _ 27 rfl w.heap.size 9 i (.string ⟨#[]⟩) 1 16 Tryz.underlying27 hi hz0 hz1 hz2 rfl (by decide) _ _ _ rfl O0.out.1 a xs.length cap (strs xs) rfl (by rw [strs_length]; omega) (HC.out a rfl) (strs_oneCell _) (by unfold maxLen; simp only [List.length_nil]; omega) (by simp only [List.length_nil]; omega) O0.out.2 ?_))
    intro u1 w1 hown1 hgr1 _
    have HO1 : Hid (OwnS w1 w.heap.size u1 xs) := by
      have := OwnS.of (l := []) (m := xs) hown1 (by simp) (by simp [strs]) (Nat.le_trans O0.out.2 hgr1.size)
      show OwnS _ _ _ _
      simpa using this
    have HB1 : Hid (Below w.heap.size w w1) := BL.out.trans (O0.out.below hgr1)
    clear hown1 hgr1
    go_wp2_with fail
    go_loopw [5, 6] (fun ov iv wr => ∃ k : Nat, k ≤ n ∧ iv = .int .i64 k ∧ Hid (OwnS wr w.heap.size ov (onceS xs (ys.take k))) ∧ Below w.heap.size w wr) (fun _ iv _ => n - (intOf iv).toNat)
    case atStart => exact ⟨0, Nat.zero_le _, rfl, HO1.out, HB1.out⟩
    case round =>
      obtain ⟨k, hk, rfl, ho, hb⟩ := hrel
      have HB : Hid (Below w.heap.size w wr) := hb
      by_cases hlt : k < n
      · obtain ⟨y, hyk⟩ : ∃ y, ys[k]? = some y := ⟨ys[k]'(by rw [HN.out]; exact hlt), List.getElem?_eq_getElem _⟩
        obtain ⟨g, off, rfl, -, hgl, hat⟩ := HY.out (by intro h; rw [h] at hyk; simp at hyk)
        obtain ⟨cs, hcsl, hcs, rfl, -⟩ := hat k y hyk
        have a0 := hcs 0 (by omega)
        rw [← hb.cell (p := ⟨g, _, none⟩) hgl] at a0
        simp at a0
        have hki : (k : Int) < (n : Int) := by omega
        have hk0 : (0 : Int) ≤ (k : Int) := by omega
        have HJ : Hid (onceS xs (ys.take (k + 1)) = if hasS (onceS xs (ys.take k)) y then onceS xs (ys.take k) else onceS xs (ys.take k) ++ [y]) := by
          show _ = _
          rw [List.take_add_one, hyk]
          exact onceS_snoc xs (ys.take k) y
        have lq := LQ.out k
        have oq := OQ.out k
        have SR : Hid (StrR wr u5 (onceS xs (ys.take k))) := ho.out.strR oq
        generalize hJ0 : onceS xs (ys.take k) = J at *
        clear hb hcs hat hcsl oq hJ0
        cases hq : hasS J y with
        | true =>
          have HJ2 : Hid (onceS xs (ys.take (k + 1)) = J) := by show _ = _; rw [HJ.out, hq]; rfl
          go_wp2_with (first | (go_at_call 53; go_must (refine (hasS_any _ _ _ _ SR.out).mono ?_; rintro e w9 ⟨rfl, hw9⟩; rw [hq, hw9]; clear hw9 w9)))
          exact ⟨⟨k + 1, by omega, by go_num, by show OwnS _ _ _ _; rw [HJ2.out]; exact ho.out, HB.out⟩, by simp [intOf]; omega⟩
        | false =>
          have HJ2 : Hid (onceS xs (ys.take (k + 1)) = J ++ [y]) := by show _ = _; rw [HJ.out, hq]; rfl
          have OA : Hid (OwnS (wr.alloc (.cells #[.string y] 9)) w.heap.size u5 J) := ho.out.next ((Below.refl _ _).alloc (Nat.le_refl _) _)
          have N1 : Hid (∀ j u, (strs [y])[j]? = some u → (wr.alloc (.cells #[.string y] 9)).cell? ((⟨wr.heap.size, 0, none⟩ : Addr).add j) = some u) := one_str wr y _ rfl
          have BA : Hid (Below w.heap.size w (wr.alloc (.cells #[.string y] 9))) := HB.out.alloc HB.out.size _
          go_wp2_with (first | (go_at_call 53; go_must (refine (hasS_any _ _ _ _ SR.out).mono ?_; rintro e w9 ⟨rfl, hw9⟩; rw [hq, hw9]; clear hw9 w9)) | (at_builtin; refine wpList_append_own _ rfl _ _ 27 rfl w.heap.size 9 i (.string ⟨#[]⟩) 1 16 Tryz.underlying27 hi hz0 hz1 hz2 rfl (by decide) u5 _ _ rfl OA.out.1 _ 1 1 (strs [y]) rfl rfl N1.out (strs_oneCell _) (by unfold maxLen; omega) (by omega) OA.out.2 ?_))
          intro u2 w2 hown2 hgr2 _
          have HO2 : Hid (OwnS w2 w.heap.size u2 (J ++ [y])) := OwnS.of hown2 (by simp) rfl (Nat.le_trans OA.out.2 hgr2.size)
          have HB2 : Hid (Below w.heap.size w w2) := BA.out.trans (OA.out.below hgr2)
          clear hown2 hgr2
          go_wp2_with fail
          exact ⟨⟨k + 1, by omega, by go_num, by show OwnS _ _ _ _; rw [HJ2.out]; exact HO2.out, HB2.out⟩, by simp [intOf]; omega⟩
      · have HS : Hid (OwnS wr w.heap.size u5 (onceS xs ys)) := by
          have := ho.out
          rwa [List.take_of_length_le (by rw [HN.out]; omega)] at this
        clear hb
        go_wp2_with fail
        go_ret
        exact ⟨u5, rfl, HS.out, HB.out⟩
end Go.Proofs.YtoknolophmhlgaaGreatDoor
/-
  The specification's chapter 4, by contract: l04PatVars.
-/
namespace Go.Proofs.YtoknolophmhlgaaGreatDoor
open Go.ChangeShapes Go.WideShapes Go.ChangeAt Go.RowKit
set_option linter.unusedVariables false

theorem OwnS.base {w : World} {B B' : Nat} {v : Value} {l : List ByteArray} (h : OwnS w B v l) (hB : B' ≤ B) : OwnS w B' v l := by
  refine ⟨⟨h.1.1, ?_⟩, Nat.le_trans hB h.2⟩
  rcases h.1.2 with hn | ⟨g, cap, cur, hv, hb, hr⟩
  · exact .inl hn
  · exact .inr ⟨g, cap, cur, hv, Nat.le_trans hB hb, hr⟩

/-- A function of an expression that answers names, in new memory. -/
def NmC (F : FuncId) (d : Nat) (f : Ex → List ByteArray) : Prop :=
  ∀ (w : World) (cs : List Value) (x : Ex), HEx w All d cs x → wtEx d x ≤ 1048576 → Calls Tryz.prog F #[.agg cs.toArray] w fun e w' => ∃ u, e = .returned u ∧ OwnS w' w.heap.size u (f x) ∧ Below w.heap.size w w'

set_option maxHeartbeats 8000000 in
set_option maxRecDepth 100000 in
theorem patVars_of {d : Nat} (hE : NmC 54 d (patV d)) : NmC 54 (d + 1) (patV (d + 1)) := by
  intro w cs x h hwt
  have hok := h.txts
  obtain ⟨kv, cv, rfl, -, -, hts, hms, f0, -⟩ := h
  obtain ⟨kx, nx, tx, mx, ks, cl⟩ := x
  simp only [Ex.kind, Ex.n, Ex.text, Ex.mod, Ex.kids] at *
  have hw : wtEx (d + 1) (.mk kx nx tx mx ks cl) = tx.size + mx.size + wtS (wtEx d) ks + wtS (wtCl (wtEx d)) cl := rfl
  have wks : wtS (wtEx d) ks ≤ 1048576 := by omega
  obtain ⟨p, cap, rfl, hcl, hcm, hx⟩ := f0
  have hnb : ks.length ≤ 9223372036854775807 := by unfold maxLen at hcm; omega
  obtain ⟨i, hi, hz0, hz1, hz2⟩ := info_parts info_str
  have hpv : patV (d + 1) (.mk kx nx tx mx ks cl) = foldV (patV d) (if kx = 2 then [tx] else []) ks := rfl
  rw [hpv]
  have hl0 : (if kx = 2 then [tx] else ([] : List ByteArray)).length ≤ 1 := by split <;> simp
  have ok0 : ∀ s ∈ (if kx = 2 then [tx] else ([] : List ByteArray)), okS s := fun s hs => by
    split at hs
    · simp at hs; subst hs; exact hts
    · simp at hs
  have LQ : Hid (∀ k, (foldV (patV d) (if kx = 2 then [tx] else []) (ks.take k)).length ≤ 1048577) := fun k => by
    have h1 := foldV_len (patV d) (wtEx d) (ks.take k) (if kx = 2 then [tx] else []) (fun y _ => patV_len d y)
    have h2 : wtS (wtEx d) (ks.take k) ≤ wtS (wtEx d) ks := by
      have h3 := sum_take_le (wtEx d) ks k
      have h4 : (ks.take k).length ≤ ks.length := by rw [List.length_take]; omega
      unfold wtS; omega
    omega
  have OQ : Hid (∀ k, ∀ s ∈ foldV (patV d) (if kx = 2 then [tx] else []) (ks.take k), okS s) := fun k s hs => by
    rcases foldV_mem _ _ _ s hs with h | ⟨y, hy, h⟩
    · exact ok0 s h
    · exact patV_ok d y (hok.2.1 y (List.mem_of_mem_take hy)) s h
  have BX : Hid (∀ k x, ks[k]? = some x → wtEx d x ≤ 1048576 ∧ exS d x ∧ (patV d x).length ≤ 1048577) := fun k x hk => by
    have h1 := sum_take_succ (wtEx d) ks k x hk
    have h2 := sum_take_le (wtEx d) ks (k + 1)
    have h3 := patV_len d x
    have h4 : wtEx d x ≤ 1048576 := by unfold wtS at wks; omega
    exact ⟨h4, hok.2.1 x (List.mem_of_getElem? hk), by omega⟩
  generalize hn : ks.length = n at *
  have HN : Hid (ks.length = n) := hn
  have HX : Hid (ks ≠ [] → ∃ g off, p = some ⟨g, off, none⟩ ∧ All g ∧ g < w.heap.size ∧ ∀ i x, ks[i]? = some x → ∃ cs, cs.length = 6 ∧ (∀ j, j < 6 → w.cell? ⟨g, off + i * 6 + j, none⟩ = cs[j]?) ∧ HEx w All d cs x) := hx
  obtain ⟨W1, hW1⟩ : ∃ W1, W1 = w.alloc (.cells #[.int .i64 kx, .int .i64 nx, .string tx, .string mx, .slice p n cap, cv] 73) := ⟨_, rfl⟩
  have bA : Hid (Blk W1 w.heap.size #[.int .i64 kx, .int .i64 nx, .string tx, .string mx, .slice p n cap, cv] 73) := by show Blk _ _ _ _; rw [hW1]; exact Blk.new
  have B1 : Hid (Below w.heap.size w W1) := by show Below _ _ _; rw [hW1]; exact (Below.refl _ _).alloc (Nat.le_refl _) _
  have hs1 : W1.heap.size = w.heap.size + 1 := by rw [hW1]; simp
  have HW1 : Hid (W1 = w.alloc (.cells #[.int .i64 kx, .int .i64 nx, .string tx, .string mx, .slice p n cap, cv] 73)) := hW1
  have O1 : Hid (OwnS (W1.alloc (.cells #[] 9)) (w.heap.size + 1) (.slice (some ⟨w.heap.size + 1, 0, none⟩) 0 0) []) := by
    have := OwnS.fresh (w := W1)
    rwa [hs1] at this
  have BB : Hid (Below w.heap.size w (W1.alloc (.cells #[] 9))) := B1.out.alloc B1.out.size _
  have bB : Hid (Blk (W1.alloc (.cells #[] 9)) w.heap.size #[.int .i64 kx, .int .i64 nx, .string tx, .string mx, .slice p n cap, cv] 73) := bA.out.alloc
  clear hx hn hok ok0 hw hwt hW1 hpv
  by_cases k2 : kx = 2
  · subst k2
    simp only [if_true] at LQ OQ ⊢
    have O2 : Hid (OwnS ((W1.alloc (.cells #[] 9)).alloc (.cells #[.string tx] 9)) (w.heap.size + 1) (.slice (some ⟨w.heap.size + 1, 0, none⟩) 0 0) []) := O1.out.next ((Below.refl _ _).alloc (Nat.le_refl _) _)
    have N1 : Hid (∀ j u, (strs [tx])[j]? = some u → ((W1.alloc (.cells #[] 9)).alloc (.cells #[.string tx] 9)).cell? ((⟨w.heap.size + 1 + 1, 0, none⟩ : Addr).add j) = some u) := one_str _ tx _ (by simp only [alloc_hs]; omega)
    have B2 : Hid (Below w.heap.size w ((W1.alloc (.cells #[] 9)).alloc (.cells #[.string tx] 9))) := BB.out.alloc BB.out.size _
    have bC : Hid (Blk ((W1.alloc (.cells #[] 9)).alloc (.cells #[.string tx] 9)) w.heap.size #[.int .i64 2, .int .i64 nx, .string tx, .string mx, .slice p n cap, cv] 73) := bB.out.alloc
    have y0 := bB.out.cell 0 _ rfl
    have y2 := bB.out.cell 2 _ rfl
    go_enter Tryz.func54, Tryz.ntmps54
    go_wp2_with (first | (at_builtin; rw [← HW1.out]; refine wpList_append_own _ rfl _ _ 27 rfl (w.heap.size + 1) 9 i (.string ⟨#[]⟩) 1 16 Tryz.underlying27 hi hz0 hz1 hz2 rfl (by decide) (.slice (some ⟨w.heap.size + 1, 0, none⟩) 0 0) _ _ rfl O2.out.1 ⟨w.heap.size + 1 + 1, 0, none⟩ 1 1 (strs [tx]) rfl rfl N1.out (strs_oneCell _) (by unfold maxLen; simp) (by simp) O2.out.2 ?_))
    intro u2 w2 hown2 hgr2 _
    have HO2 : Hid (OwnS w2 w.heap.size u2 [tx]) := by
      have := OwnS.of (l := []) (m := [tx]) hown2 (by simp) rfl (Nat.le_trans O2.out.2 hgr2.size)
      exact OwnS.base (by simpa using this) (by omega)
    have bD : Hid (Blk w2 w.heap.size #[.int .i64 2, .int .i64 nx, .string tx, .string mx, .slice p n cap, cv] 73) := O2.out.blk hgr2 bC.out (by simp [Value.ownBlock])
    have HB2 : Hid (Below w.heap.size w w2) := B2.out.trans ((O2.out.below hgr2).mono (by omega))
    clear hown2 hgr2 y0 y2
    go_wp2_with fail
    go_loopw [3, 4] (fun ov iv wr => ∃ k : Nat, k ≤ n ∧ iv = .int .i64 k ∧ Hid (OwnS wr w.heap.size ov (foldV (patV d) [tx] (ks.take k))) ∧ Hid (Blk wr w.heap.size #[.int .i64 2, .int .i64 nx, .string tx, .string mx, .slice p n cap, cv] 73) ∧ Below w.heap.size w wr) (fun _ iv _ => n - (intOf iv).toNat)
    case atStart => exact ⟨0, Nat.zero_le _, rfl, HO2.out, bD.out, HB2.out⟩
    case round =>
      obtain ⟨k, hk, rfl, ho, hbk, hb⟩ := hrel
      have HB : Hid (Below w.heap.size w wr) := hb
      have xa4 := hbk.out.cell 4 _ rfl
      by_cases hlt : k < n
      · obtain ⟨x, hxk⟩ : ∃ x, ks[k]? = some x := ⟨ks[k]'(by rw [HN.out]; exact hlt), List.getElem?_eq_getElem _⟩
        obtain ⟨g, off, rfl, -, hgl, hat⟩ := HX.out (by intro h; rw [h] at hxk; simp at hxk)
        obtain ⟨cs, hcsl, hcs, r1⟩ := hat k x hxk
        have E1 : ∀ w', Below w.heap.size w w' → HEx w' All d cs x := fun w' hw => r1.mono (SameOn.of_below hw) (fun _ h => h)
        obtain ⟨c0, c1, c2, c3, c4, c5, rfl⟩ := len6 hcsl
        have a0 := hcs 0 (by omega)
        have a1 := hcs 1 (by omega)
        have a2 := hcs 2 (by omega)
        have a3 := hcs 3 (by omega)
        have a4 := hcs 4 (by omega)
        have a5 := hcs 5 (by omega)
        rw [← hb.cell (p := ⟨g, _, none⟩) hgl] at a0 a1 a2 a3 a4 a5
        simp at a0 a1 a2 a3 a4 a5
        have hki : (k : Int) < (n : Int) := by omega
        have hk0 : (0 : Int) ≤ (k : Int) := by omega
        obtain ⟨wx, sx, lx⟩ := BX.out k x hxk
        have HJ : Hid (foldV (patV d) [tx] (ks.take (k + 1)) = onceS (foldV (patV d) [tx] (ks.take k)) (patV d x)) := foldV_snoc _ _ ks k x hxk
        have lq := LQ.out k
        have oq := OQ.out k
        generalize hJ0 : foldV (patV d) [tx] (ks.take k) = J at *
        clear hb hcs hat hcsl r1 hJ0
        go_wp2_with fail
        refine (hE _ _ x (E1 _ HB.out) wx).mono ?_
        rintro e w4 ⟨u4, rfl, ho4, hb4⟩
        have HB4 : Hid (Below w.heap.size w w4) := HB.out.trans (hb4.mono HB.out.size)
        have SV : Hid (StrV w4 u3 J) := (ho.out.next hb4).strV oq
        have SR : Hid (StrR w4 u4 (patV d x)) := ho4.strR (patV_ok d x sx)
        have bk4 : Hid (Blk w4 w.heap.size #[.int .i64 2, .int .i64 nx, .string tx, .string mx, .slice (some ⟨g, off, none⟩) n cap, cv] 73) := hbk.out.next hb4
        clear hb4 ho4 xa4 a0 a1 a2 a3 a4 a5
        go_wp2_with fail
        refine (once_any _ _ _ J (patV d x) SV.out SR.out (by omega)).mono ?_
        rintro e w5 ⟨u5, rfl, ho5, hb5⟩
        have HB5 : Hid (Below w.heap.size w w5) := HB4.out.trans (hb5.mono HB4.out.size)
        have HO5 : Hid (OwnS w5 w.heap.size u5 (onceS J (patV d x))) := ho5.base HB4.out.size
        have bk5 : Hid (Blk w5 w.heap.size #[.int .i64 2, .int .i64 nx, .string tx, .string mx, .slice (some ⟨g, off, none⟩) n cap, cv] 73) := bk4.out.next hb5
        clear hb5 ho5
        go_wp2_with fail
        exact ⟨⟨k + 1, by omega, by go_num, by show OwnS _ _ _ _; rw [HJ.out]; exact HO5.out, bk5.out, HB5.out⟩, by simp [intOf]; omega⟩
      · have HS : Hid (OwnS wr w.heap.size u3 (foldV (patV d) [tx] ks)) := by
          have := ho.out
          rwa [List.take_of_length_le (by rw [HN.out]; omega)] at this
        clear hb
        go_wp2_with fail
        go_ret
        exact ⟨u3, rfl, HS.out, HB.out⟩
  · have L2 : (if kx = 2 then [tx] else ([] : List ByteArray)) = [] := if_neg k2
    simp only [L2] at LQ OQ ⊢
    clear L2
    have k2b : (kx == 2) = false := by simpa using k2
    have O9 : Hid (OwnS (W1.alloc (.cells #[] 9)) w.heap.size (.slice (some ⟨w.heap.size + 1, 0, none⟩) 0 0) []) := O1.out.base (by omega)
    have y0 := bA.out.cell 0 _ rfl
    go_enter Tryz.func54, Tryz.ntmps54
    go_wp2_with fail
    rw [← HW1.out]
    go_loopw [3, 4] (fun ov iv wr => ∃ k : Nat, k ≤ n ∧ iv = .int .i64 k ∧ Hid (OwnS wr w.heap.size ov (foldV (patV d) [] (ks.take k))) ∧ Hid (Blk wr w.heap.size #[.int .i64 kx, .int .i64 nx, .string tx, .string mx, .slice p n cap, cv] 73) ∧ Below w.heap.size w wr) (fun _ iv _ => n - (intOf iv).toNat)
    case atStart => exact ⟨0, Nat.zero_le _, rfl, O9.out, bB.out, BB.out⟩
    case round =>
      obtain ⟨k, hk, rfl, ho, hbk, hb⟩ := hrel
      have HB : Hid (Below w.heap.size w wr) := hb
      have xa4 := hbk.out.cell 4 _ rfl
      by_cases hlt : k < n
      · obtain ⟨x, hxk⟩ : ∃ x, ks[k]? = some x := ⟨ks[k]'(by rw [HN.out]; exact hlt), List.getElem?_eq_getElem _⟩
        obtain ⟨g, off, rfl, -, hgl, hat⟩ := HX.out (by intro h; rw [h] at hxk; simp at hxk)
        obtain ⟨cs, hcsl, hcs, r1⟩ := hat k x hxk
        have E1 : ∀ w', Below w.heap.size w w' → HEx w' All d cs x := fun w' hw => r1.mono (SameOn.of_below hw) (fun _ h => h)
        obtain ⟨c0, c1, c2, c3, c4, c5, rfl⟩ := len6 hcsl
        have a0 := hcs 0 (by omega)
        have a1 := hcs 1 (by omega)
        have a2 := hcs 2 (by omega)
        have a3 := hcs 3 (by omega)
        have a4 := hcs 4 (by omega)
        have a5 := hcs 5 (by omega)
        rw [← hb.cell (p := ⟨g, _, none⟩) hgl] at a0 a1 a2 a3 a4 a5
        simp at a0 a1 a2 a3 a4 a5
        have hki : (k : Int) < (n : Int) := by omega
        have hk0 : (0 : Int) ≤ (k : Int) := by omega
        obtain ⟨wx, sx, lx⟩ := BX.out k x hxk
        have HJ : Hid (foldV (patV d) [] (ks.take (k + 1)) = onceS (foldV (patV d) [] (ks.take k)) (patV d x)) := foldV_snoc _ _ ks k x hxk
        have lq := LQ.out k
        have oq := OQ.out k
        generalize hJ0 : foldV (patV d) [] (ks.take k) = J at *
        clear hb hcs hat hcsl r1 hJ0
        go_wp2_with fail
        refine (hE _ _ x (E1 _ HB.out) wx).mono ?_
        rintro e w4 ⟨u4, rfl, ho4, hb4⟩
        have HB4 : Hid (Below w.heap.size w w4) := HB.out.trans (hb4.mono HB.out.size)
        have SV : Hid (StrV w4 u3 J) := (ho.out.next hb4).strV oq
        have SR : Hid (StrR w4 u4 (patV d x)) := ho4.strR (patV_ok d x sx)
        have bk4 : Hid (Blk w4 w.heap.size #[.int .i64 kx, .int .i64 nx, .string tx, .string mx, .slice (some ⟨g, off, none⟩) n cap, cv] 73) := hbk.out.next hb4
        clear hb4 ho4 xa4 a0 a1 a2 a3 a4 a5
        go_wp2_with fail
        refine (once_any _ _ _ J (patV d x) SV.out SR.out (by omega)).mono ?_
        rintro e w5 ⟨u5, rfl, ho5, hb5⟩
        have HB5 : Hid (Below w.heap.size w w5) := HB4.out.trans (hb5.mono HB4.out.size)
        have HO5 : Hid (OwnS w5 w.heap.size u5 (onceS J (patV d x))) := ho5.base HB4.out.size
        have bk5 : Hid (Blk w5 w.heap.size #[.int .i64 kx, .int .i64 nx, .string tx, .string mx, .slice (some ⟨g, off, none⟩) n cap, cv] 73) := bk4.out.next hb5
        clear hb5 ho5
        go_wp2_with fail
        exact ⟨⟨k + 1, by omega, by go_num, by show OwnS _ _ _ _; rw [HJ.out]; exact HO5.out, bk5.out, HB5.out⟩, by simp [intOf]; omega⟩
      · have HS : Hid (OwnS wr w.heap.size u3 (foldV (patV d) [] ks)) := by
          have := ho.out
          rwa [List.take_of_length_le (by rw [HN.out]; omega)] at this
        clear hb
        go_wp2_with fail
        go_ret
        exact ⟨u3, rfl, HS.out, HB.out⟩

theorem patVars_all : ∀ d, NmC 54 d (patV d)
  | 0 => fun w cs x h _ => h.elim
  | d + 1 => patVars_of (patVars_all d)
end Go.Proofs.YtoknolophmhlgaaGreatDoor
/-
  The specification's l04Sorted: names, ascending, each once.
-/
namespace Go.Proofs.YtoknolophmhlgaaGreatDoor
open Go.ChangeShapes Go.WideShapes Go.ChangeAt Go.RowKit
set_option linter.unusedVariables false
set_option maxRecDepth 100000

theorem step_append_own {P : Program} (w : World) {ops : Array Oper} {o : Oper} {a : Act} {K : Act → World → Prop} {Q : Exit → Act → World → Prop} {E : Prop} (hgd : o.guard = none) (s x : Operand) (t : TypeId)
    (ho : o.op = .call { callee := .builtin .append, args := #[s, x], argTypes := #[t, t] })
    (base : Nat) (e : TypeId) (i : TypeInfo) (z : Value) (size bytes : Nat) (ht : P.underlying t = some (.slice e)) (hi : P.info? e = some i) (hz : i.zero = some z)
    (hsize : i.size = size) (hby : i.bytes = bytes) (hzs : z.cells.size = size) (hsz : 0 < size)
    (v : Value) (n : Nat) (xs : List Value) (hs : a.eval s = v) (hown : w.ownsRow base e size v n xs)
    (ad : Addr) (m c : Nat) (news : List Value) (hx : a.eval x = .slice (some ad) m c) (hl : news.length = m * size) (hnews : ∀ j u, news[j]? = some u → w.cell? (ad.add j) = some u) (h1 : ∀ u ∈ news, u.oneCell' = true)
    (h63 : n + m ≤ maxLen) (hbytes : (n + m) * bytes ≤ 140737488355328) (hbase : base ≤ w.heap.size)
    (h : ∀ v' w', w'.ownsRow base e size v' (n + m) (xs ++ news) → w.grownBy w' v.ownBlock → (v' = .slice none 0 0 ↔ v = .slice none 0 0 ∧ m = 0) → K (a.put o.dst v') w') :
    if Region.wanted o (yielded ops a.tmps) = true then Oper.wp P o a w K Q else E := by
  have hw : Region.wanted o (yielded ops a.tmps) = true := by simp [Region.wanted, hgd]
  rw [if_pos hw]
  exact wp_append_own w s x t ho base e i z size bytes ht hi hz hsize hby hzs hsz v n xs hs hown ad m c news hx hl hnews h1 h63 hbytes hbase h

def ltS (a b : ByteArray) : Bool := Op.bytesLess a.toList b.toList
/-- One more name among ascending ones. -/
def insS : List ByteArray → ByteArray → List ByteArray
  | [], s => [s]
  | x :: xs, s => if ltS x s then x :: insS xs s else if x.toList = s.toList then x :: xs else s :: x :: xs
def sortS (l : List ByteArray) : List ByteArray := l.foldl insS []
theorem insS_at : ∀ (l : List ByteArray) (s : ByteArray) (k : Nat), k ≤ l.length → (∀ j x, j < k → l[j]? = some x → ltS x s = true) → (∀ x, l[k]? = some x → ltS x s = false) →
    insS l s = (match l[k]? with | some x => if x.toList = s.toList then l else l.take k ++ s :: l.drop k | none => l.take k ++ s :: l.drop k)
  | [], s, k, hk, h1, h2 => by
    obtain rfl : k = 0 := by simpa using hk
    rfl
  | x :: xs, s, 0, hk, h1, h2 => by
    have h := h2 x rfl
    simp only [insS, h, Bool.false_eq_true, if_false, List.getElem?_cons_zero]
    split <;> rfl
  | x :: xs, s, k + 1, hk, h1, h2 => by
    have h := h1 0 x (by omega) rfl
    have ih := insS_at xs s k (by simpa using hk) (fun j y hj hy => h1 (j + 1) y (by omega) (by simpa using hy)) (fun y hy => h2 y (by simpa using hy))
    simp only [insS, h, if_true, List.getElem?_cons_succ]
    rw [ih]
    cases hk : xs[k]? with
    | none => rfl
    | some y =>
      simp only
      split <;> rfl
theorem insS_length (l : List ByteArray) (s : ByteArray) : (insS l s).length ≤ l.length + 1 := by
  induction l with
  | nil => simp [insS]
  | cons x xs ih =>
    unfold insS
    split
    · simp only [List.length_cons]; omega
    · split <;> simp
theorem insS_mem (l : List ByteArray) (s : ByteArray) : ∀ y ∈ insS l s, y = s ∨ y ∈ l := by
  induction l with
  | nil => intro y hy; simp [insS] at hy; exact .inl hy
  | cons x xs ih =>
    intro y hy
    unfold insS at hy
    split at hy
    · rcases List.mem_cons.1 hy with rfl | hy
      · exact .inr (by simp)
      · rcases ih y hy with h | h
        · exact .inl h
        · exact .inr (by simp [h])
    · split at hy
      · exact .inr hy
      · rcases List.mem_cons.1 hy with rfl | hy
        · exact .inl rfl
        · exact .inr hy
theorem sortS_snoc (l : List ByteArray) (k : Nat) (s : ByteArray) (h : l[k]? = some s) : sortS (l.take (k + 1)) = insS (sortS (l.take k)) s := by
  unfold sortS; rw [List.take_add_one, h]; simp
theorem sortS_len (l : List ByteArray) : ∀ k, (sortS (l.take k)).length ≤ k := by
  intro k
  induction k with
  | zero => simp [sortS]
  | succ k ih =>
    cases h : l[k]? with
    | none =>
      rw [List.take_of_length_le (by have := List.getElem?_eq_none_iff.1 h; omega)] at *
      omega
    | some s => rw [sortS_snoc l k s h]; have := insS_length (sortS (l.take k)) s; omega
theorem sortS_mem (l : List ByteArray) : ∀ k, ∀ y ∈ sortS (l.take k), y ∈ l := by
  intro k
  induction k with
  | zero => intro y hy; simp [sortS] at hy
  | succ k ih =>
    intro y hy
    cases h : l[k]? with
    | none =>
      refine ih y ?_
      rwa [List.take_of_length_le (by have := List.getElem?_eq_none_iff.1 h; omega), ← List.take_of_length_le (l := l) (i := k) (by have := List.getElem?_eq_none_iff.1 h; omega)] at hy
    | some s =>
      rw [sortS_snoc l k s h] at hy
      rcases insS_mem _ _ y hy with rfl | hy
      · exact List.mem_of_getElem? h
      · exact ih y hy
end Go.Proofs.YtoknolophmhlgaaGreatDoor
/-
  The function and the clause at a place, and a clause's variables: plain mathematics.
-/
namespace Go.Proofs.YtoknolophmhlgaaGreatDoor
open Go.ChangeShapes Go.WideShapes Go.ChangeAt Go.RowKit
set_option linter.unusedVariables false

/-- The function at a place. -/
def fnOf (ms : List Md) (q : Pl) : Option Fn' := (ms.find? (named q.mod)).bind fun m => m.funs.find? (sameR ⟨q.name, q.arity⟩)
/-- The clause at a place. -/
def clauseOf (ms : List Md) (q : Pl) : Option Cl := (fnOf ms q).bind fun f => if inB q.clause 0 (f.clauses.length - 1) then f.clauses[q.clause.toNat]? else none
/-- The variables of a clause, in the order in which the specification meets them. -/
def clauseVars (d : Nat) (c : Cl) : List ByteArray := foldV (allV d) (foldV (allV d) [] c.1) c.2
def varsAt (d : Nat) (ms : List Md) (q : Pl) : List ByteArray := if pgOk d ms then (match clauseOf ms q with
  | none => []
  | some c => sortS (clauseVars d c)) else []

theorem wtS_part {α : Type} (f : α → Nat) (es : List α) (k : Nat) (x : α) (h : es[k]? = some x) : 1 + f x ≤ wtS f es := by
  have hm := List.mem_of_getElem? h
  obtain ⟨a, b, rfl⟩ := List.append_of_mem hm
  simp [wtS]; omega
theorem wtS_find {α : Type} (f : α → Nat) (es : List α) (p : α → Bool) (x : α) (h : es.find? p = some x) : 1 + f x ≤ wtS f es := by
  obtain ⟨k, hk⟩ := List.mem_iff_getElem?.1 (List.mem_of_find?_eq_some h)
  exact wtS_part f es k x hk
theorem fnOf_wt {d : Nat} {ms : List Md} {q : Pl} {f : Fn'} (h : fnOf ms q = some f) : wtFn d f ≤ wtS (wtMd d) ms := by
  unfold fnOf at h
  obtain ⟨m, hm, hf⟩ := Option.bind_eq_some_iff.1 h
  have h1 := wtS_find (wtMd d) ms _ m hm
  have h2 := wtS_find (wtFn d) m.funs _ f hf
  have h3 : wtMd d m = m.name.size + wtS wtRf m.exports + wtS (wtFn d) m.funs := rfl
  omega
theorem clauseOf_wt {d : Nat} {ms : List Md} {q : Pl} {c : Cl} (h : clauseOf ms q = some c) : wtCl (wtEx d) c ≤ wtS (wtMd d) ms := by
  unfold clauseOf at h
  obtain ⟨f, hf, hc⟩ := Option.bind_eq_some_iff.1 h
  split at hc
  · have h1 := fnOf_wt (d := d) hf
    have h2 := wtS_part (wtCl (wtEx d)) f.clauses _ c hc
    have h3 : wtFn d f = f.name.size + wtS (wtCl (wtEx d)) f.clauses := rfl
    omega
  · cases hc

theorem clauseOf_wt1 {d : Nat} {ms : List Md} {q : Pl} {c : Cl} (h : clauseOf ms q = some c) : 1 + wtCl (wtEx d) c ≤ wtS (wtMd d) ms := by
  unfold clauseOf at h
  obtain ⟨f, hf, hc⟩ := Option.bind_eq_some_iff.1 h
  split at hc
  · have h1 := fnOf_wt (d := d) hf
    have h2 := wtS_part (wtCl (wtEx d)) f.clauses _ c hc
    have h3 : wtFn d f = f.name.size + wtS (wtCl (wtEx d)) f.clauses := rfl
    omega
  · cases hc

theorem clauseVars_len (d : Nat) (c : Cl) (h : wtCl (wtEx d) c ≤ 1048576) (ht : ∀ y ∈ c.1 ++ c.2, (allV d y).length ≤ 1 + wtEx d y) : (clauseVars d c).length ≤ 1048577 := by
  have h1 := foldV_len (allV d) (wtEx d) c.1 [] (fun y hy => ht y (by simp [hy]))
  have h2 := foldV_len (allV d) (wtEx d) c.2 (foldV (allV d) [] c.1) (fun y hy => ht y (by simp [hy]))
  have h3 : wtCl (wtEx d) c = wtS (wtEx d) c.1 + wtS (wtEx d) c.2 := rfl
  simp only [List.length_nil] at h1
  unfold clauseVars
  omega
end Go.Proofs.YtoknolophmhlgaaGreatDoor
