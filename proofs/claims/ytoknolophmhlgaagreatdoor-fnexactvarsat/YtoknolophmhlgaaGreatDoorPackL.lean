/-
  Texts of the proof, packed: Own, Grow, RowH, ConcatEx.
-/
import Derived.Test.YtoknolophmhlgaaGreatDoorPackA
import Derived.Deep.AppendLies
import Derived.OwnWalk
import Derived.Test.YtoknolophmhlgaaGreatDoorPackK
import Derived.Test.YtoknolophmhlgaaGreatDoorPackG
import Derived.Lib.AppendZerosOnto
import Derived.Lib.SliceRun
/-
  Trees that own their memory: each row lies in a block of its own, and no two blocks are one. What is written into such a tree turns nothing else, and is there afterwards.
-/
namespace Go.Proofs.YtoknolophmhlgaaGreatDoor
open Go.ChangeShapes Go.WideShapes Go.ChangeAt Go.RowKit
set_option linter.unusedVariables false

/-- Whatever lies in blocks of fp lies in w' as it does in w. -/
def KeepOn (fp : List Nat) (w w' : World) : Prop := ∀ a ∈ fp, w'.heap[a]? = w.heap[a]?

theorem KeepOn.sub {fp fp' : List Nat} {w w' : World} (h : KeepOn fp w w') (hs : ∀ a ∈ fp', a ∈ fp) : KeepOn fp' w w' := fun a ha => h a (hs a ha)
theorem KeepOn.below {fp : List Nat} {w w' : World} {N : Nat} (h : Below N w w') (hs : ∀ a ∈ fp, a < N) : KeepOn fp w w' := fun a ha => h.block a (hs a ha)

/-- Nothing has turned but what lies in blocks of fp; memory may have grown. -/
structure Off (fp : List Nat) (w w' : World) : Prop where
  os : w'.os = w.os
  tape : w'.tape = w.tape
  output : w'.output = w.output
  size : w.heap.size ≤ w'.heap.size
  block : ∀ a, a < w.heap.size → a ∉ fp → w'.heap[a]? = w.heap[a]?

theorem Off.refl (fp : List Nat) (w : World) : Off fp w w := ⟨rfl, rfl, rfl, Nat.le_refl _, fun _ _ _ => rfl⟩
theorem Off.trans {fp : List Nat} {a b c : World} (h : Off fp a b) (k : Off fp b c) : Off fp a c :=
  ⟨k.os.trans h.os, k.tape.trans h.tape, k.output.trans h.output, Nat.le_trans h.size k.size, fun g hg hf => (k.block g (Nat.lt_of_lt_of_le hg h.size) hf).trans (h.block g hg hf)⟩
theorem Off.sub {fp fp' : List Nat} {a b : World} (h : Off fp a b) (hs : ∀ g ∈ fp, g ∈ fp') : Off fp' a b :=
  ⟨h.os, h.tape, h.output, h.size, fun g hg hf => h.block g hg (fun hm => hf (hs g hm))⟩
theorem Off.of_below {fp : List Nat} {a b : World} (h : Below a.heap.size a b) : Off fp a b := ⟨h.os, h.tape, h.output, h.size, fun g hg _ => h.block g hg⟩
theorem Off.of_grown {fp : List Nat} {a b : World} {g : Nat} (h : a.grownBy b (some g)) (hg : g ∈ fp) : Off fp a b :=
  ⟨h.os, h.tape, h.output, h.size, fun j hj hf => h.block j hj (by simp; intro e; exact hf (e ▸ hg))⟩
theorem Off.below {fp : List Nat} {a b : World} {N : Nat} (h : Off fp a b) (hs : ∀ g ∈ fp, N ≤ g) (hN : N ≤ a.heap.size) : Below N a b :=
  ⟨h.os, h.tape, h.output, h.size, fun j hj => h.block j (Nat.lt_of_lt_of_le hj hN) (fun hm => by have := hs j hm; omega)⟩
theorem Off.keep {fp f : List Nat} {a b : World} (h : Off fp a b) (hs : ∀ g ∈ f, g < a.heap.size ∧ g ∉ fp) : KeepOn f a b := fun g hg => h.block g (hs g hg).1 (hs g hg).2

theorem Off.under {fp : List Nat} {w A B : World} {N : Nat} (h : Off fp w A) (hN : w.heap.size ≤ N) (hb : Below N A B) : Off fp w B :=
  ⟨hb.os.trans h.os, hb.tape.trans h.tape, hb.output.trans h.output, Nat.le_trans h.size hb.size, fun g hg hf => (hb.block g (by omega)).trans (h.block g hg hf)⟩
/-- v is a slice in a block of its own; its elements, of c cells each, are R's xs; fp: all blocks. -/
def ORows {α : Type} (w : World) (e : TypeId) (c : Nat) (R : List Value → α → List Nat → Prop) (v : Value) (xs : List α) (fp : List Nat) : Prop :=
  (xs = [] ∧ fp = [] ∧ ∃ p cap, v = .slice p 0 cap ∧ cap ≤ maxLen) ∨
    (xs ≠ [] ∧ ∃ (cells : List Value) (g cap : Nat) (fps : List (List Nat)), w.ownsRow 0 e c v xs.length cells ∧ v = .slice (some ⟨g, 0, none⟩) xs.length cap ∧ fps.length = xs.length ∧ fp = g :: fps.flatten ∧
      ∀ (i : Nat) x f, xs[i]? = some x → fps[i]? = some f → ∃ cs : List Value, cs.length = c ∧ (∀ j, j < c → cells[i * c + j]? = cs[j]?) ∧ R cs x f)

theorem owns_block {w w' : World} {e : TypeId} {c g n cap : Nat} {v : Value} {cells : List Value} (h : w.ownsRow 0 e c v n cells) (hv : v = .slice (some ⟨g, 0, none⟩) n cap) (hk : w'.heap[g]? = w.heap[g]?) : w'.ownsRow 0 e c v n cells := by
  refine ⟨h.1, ?_⟩
  rcases h.2 with hn | ⟨g', cap', cur, hv', hb, hg, hr⟩
  · exact .inl hn
  · have : g' = g := by rw [hv] at hv'; simp at hv'; exact hv'.1.symm
    subst this
    exact .inr ⟨g', cap', cur, hv', hb, hk.trans hg, hr⟩
theorem owns_lt {w : World} {e : TypeId} {c g n cap : Nat} {v : Value} {cells : List Value} (h : w.ownsRow 0 e c v n cells) (hv : v = .slice (some ⟨g, 0, none⟩) n cap) : g < w.heap.size := by
  rcases h.2 with hn | ⟨g', cap', cur, hv', hb, hg, hr⟩
  · rw [hn.1] at hv; cases hv
  · have : g' = g := by rw [hv] at hv'; simp at hv'; exact hv'.1.symm
    subst this
    exact (Array.getElem?_eq_some_iff.1 hg).1
theorem ORows.shape {α : Type} {w : World} {e : TypeId} {c : Nat} {R : List Value → α → List Nat → Prop} {v : Value} {xs : List α} {fp : List Nat} (h : ORows w e c R v xs fp) : ∃ p cap, v = .slice p xs.length cap ∧ xs.length ≤ cap ∧ cap ≤ maxLen := by
  rcases h with ⟨rfl, _, p, cap, hv, hc⟩ | ⟨_, cells, g, cap, fps, ho, hv, _⟩
  · exact ⟨p, cap, hv, Nat.zero_le _, hc⟩
  · rcases ho.2 with hn | ⟨g', cap', cur, hv', hb, hg, hr⟩
    · rw [hn.1] at hv; cases hv
    · exact ⟨_, _, hv', hr.1, hr.2.1⟩

theorem ORows.rows {α : Type} {w : World} {e : TypeId} {c : Nat} {R : List Value → α → List Nat → Prop} {R' : List Value → α → Prop} {S : Nat → Prop} {v : Value} {xs : List α} {fp : List Nat} (h : ORows w e c R v xs fp) (hS : ∀ a ∈ fp, S a)
    (hR : ∀ cs x f, x ∈ xs → (∀ a ∈ f, a ∈ fp) → R cs x f → R' cs x) : Rows w S c R' v xs := by
  obtain ⟨p, cap, hv, h1, h2⟩ := h.shape
  refine ⟨p, cap, hv, h1, h2, fun hne => ?_⟩
  rcases h with h | ⟨_, cells, g, cap', fps, ho, hv', hl, rfl, hat⟩
  · exact absurd h.1 hne
  have hp : p = some ⟨g, 0, none⟩ := by rw [hv] at hv'; simp at hv'; exact hv'.1
  refine ⟨g, 0, hp, hS g (by simp), owns_lt ho hv', fun i x hi => ?_⟩
  have hil : i < xs.length := (List.getElem?_eq_some_iff.1 hi).1
  obtain ⟨f, hf⟩ : ∃ f, fps[i]? = some f := ⟨fps[i]'(by rw [hl]; exact hil), List.getElem?_eq_getElem _⟩
  obtain ⟨cs, hcl, hcs, hr⟩ := hat i x f hi hf
  refine ⟨cs, hcl, fun j hj => ?_, hR cs x f (List.mem_of_getElem? hi) (fun a ha => ?_) hr⟩
  · rw [← hcs j hj, Nat.zero_add]
    rw [hv'] at ho
    refine ho.cellAt (i * c + j) ?_
    have : i * c + c ≤ xs.length * c := by rw [← Nat.succ_mul]; exact Nat.mul_le_mul_right c hil
    omega
  · exact List.mem_cons_of_mem _ (List.mem_flatten.2 ⟨f, List.mem_of_getElem? hf, ha⟩)

theorem ORows.keep {α : Type} {w w' : World} {e : TypeId} {c : Nat} {R R' : List Value → α → List Nat → Prop} {v : Value} {xs : List α} {fp : List Nat} (h : ORows w e c R v xs fp) (hk : KeepOn fp w w')
    (hR : ∀ cs x f, x ∈ xs → (∀ a ∈ f, a ∈ fp) → R cs x f → R' cs x f) : ORows w' e c R' v xs fp := by
  rcases h with h | ⟨hne, cells, g, cap', fps, ho, hv', hl, rfl, hat⟩
  · exact .inl h
  refine .inr ⟨hne, cells, g, cap', fps, owns_block ho hv' (hk g (by simp)), hv', hl, rfl, fun i x f hi hf => ?_⟩
  obtain ⟨cs, hcl, hcs, hr⟩ := hat i x f hi hf
  exact ⟨cs, hcl, hcs, hR cs x f (List.mem_of_getElem? hi) (fun a ha => List.mem_cons_of_mem _ (List.mem_flatten.2 ⟨f, List.mem_of_getElem? hf, ha⟩)) hr⟩

theorem ORows.lt {α : Type} {w : World} {e : TypeId} {c : Nat} {R : List Value → α → List Nat → Prop} {v : Value} {xs : List α} {fp : List Nat} (h : ORows w e c R v xs fp) (hR : ∀ cs x f, R cs x f → ∀ a ∈ f, a < w.heap.size) : ∀ a ∈ fp, a < w.heap.size := by
  rcases h with ⟨_, rfl, _⟩ | ⟨hne, cells, g, cap', fps, ho, hv', hl, rfl, hat⟩
  · intro a ha; simp at ha
  · intro a ha
    rcases List.mem_cons.1 ha with rfl | ha
    · exact owns_lt ho hv'
    · obtain ⟨f, hf, ha⟩ := List.mem_flatten.1 ha
      obtain ⟨i, hi, rfl⟩ := List.mem_iff_getElem.1 hf
      obtain ⟨cs, _, _, hr⟩ := hat i (xs[i]'(by rw [← hl]; exact hi)) _ (List.getElem?_eq_getElem _) (List.getElem?_eq_getElem hi)
      exact hR _ _ _ hr a ha

/-- One element of a row is turned, its part of the blocks with it. -/
theorem ORows.set {α : Type} {w' : World} {e : TypeId} {c : Nat} {R R' : List Value → α → List Nat → Prop} {v : Value} {xs : List α} {cells cells' : List Value} {g cap : Nat} {fps : List (List Nat)} {i : Nat} {x' : α} {f : List Nat}
    (hne : xs ≠ []) (ho : w'.ownsRow 0 e c v xs.length cells') (hv : v = .slice (some ⟨g, 0, none⟩) xs.length cap) (hl : fps.length = xs.length)
    (hat : ∀ (i : Nat) x f, xs[i]? = some x → fps[i]? = some f → ∃ cs : List Value, cs.length = c ∧ (∀ j, j < c → cells[i * c + j]? = cs[j]?) ∧ R cs x f) (hf : fps[i]? = some f)
    (hother : ∀ m, (m < i * c ∨ i * c + c ≤ m) → cells'[m]? = cells[m]?) (cs' : List Value) (hcl : cs'.length = c) (hcs : ∀ j, j < c → cells'[i * c + j]? = cs'[j]?) (hr : R' cs' x' f)
    (hk : ∀ (j : Nat) y f' cs, j ≠ i → fps[j]? = some f' → R cs y f' → R' cs y f') : ORows w' e c R' v (xs.set i x') (g :: fps.flatten) := by
  refine .inr ⟨fun h => hne (by cases xs with | nil => rfl | cons a l => cases i <;> simp at h), cells', g, cap, fps, by rw [List.length_set]; exact ho, by rw [List.length_set]; exact hv, by rw [List.length_set]; exact hl, rfl, fun j y f' hj hf' => ?_⟩
  by_cases hji : j = i
  · subst hji
    have hjl : j < xs.length := by rw [← hl]; exact (List.getElem?_eq_some_iff.1 hf).1
    rw [List.getElem?_set_self hjl] at hj
    obtain rfl := Option.some.inj hj
    obtain rfl := Option.some.inj (hf.symm.trans hf')
    exact ⟨cs', hcl, hcs, hr⟩
  · rw [List.getElem?_set_ne (fun h => hji h.symm)] at hj
    obtain ⟨cs, h1, h2, h3⟩ := hat j y f' hj hf'
    refine ⟨cs, h1, fun q hq => ?_, hk j y f' cs hji hf' h3⟩
    rw [hother _ ?_]
    · exact h2 q hq
    · rcases Nat.lt_or_gt_of_ne hji with h | h
      · left; have : j * c + c ≤ i * c := by rw [← Nat.succ_mul]; exact Nat.mul_le_mul_right c h
        omega
      · right; have : i * c + c ≤ j * c := by rw [← Nat.succ_mul]; exact Nat.mul_le_mul_right c h
        omega

/-- The parts of a list of blocks without a repetition. -/
theorem nodup_parts {g : Nat} {fps : List (List Nat)} (h : (g :: fps.flatten).Nodup) :
    (∀ f ∈ fps, g ∉ f ∧ f.Nodup) ∧ ∀ (i j : Nat) f f', i ≠ j → fps[i]? = some f → fps[j]? = some f' → ∀ a ∈ f, a ∉ f' := by
  rw [List.nodup_cons] at h
  obtain ⟨hg, hp⟩ := h
  obtain ⟨h1, h2⟩ := List.pairwise_flatten.1 hp
  refine ⟨fun f hf => ⟨fun hm => hg (List.mem_flatten.2 ⟨f, hf, hm⟩), h1 f hf⟩, fun i j f f' hij hi hj a ha ha' => ?_⟩
  rw [List.pairwise_iff_getElem] at h2
  obtain ⟨hi1, rfl⟩ := List.getElem?_eq_some_iff.1 hi
  obtain ⟨hj1, rfl⟩ := List.getElem?_eq_some_iff.1 hj
  rcases Nat.lt_or_gt_of_ne hij with hlt | hlt
  · exact h2 i j hi1 hj1 hlt a ha a ha' rfl
  · exact h2 j i hj1 hi1 hlt a ha' a ha rfl

/-- A list whose first i are those of ys, the rest of xs. -/
def mix {α : Type} (i : Nat) (ys xs : List α) : List α := ys.take i ++ xs.drop i
theorem mix_zero {α : Type} (ys xs : List α) : mix 0 ys xs = xs := by simp [mix]
theorem mix_all {α : Type} {ys xs : List α} {i : Nat} (hl : ys.length = xs.length) (h : xs.length ≤ i) : mix i ys xs = ys := by
  unfold mix; rw [List.take_of_length_le (by omega), List.drop_of_length_le h, List.append_nil]
theorem mix_length {α : Type} {ys xs : List α} {i : Nat} (hl : ys.length = xs.length) : (mix i ys xs).length = xs.length := by
  unfold mix; rw [List.length_append, List.length_take, List.length_drop]; omega
theorem mix_at {α : Type} {ys xs : List α} {i : Nat} (hl : ys.length = xs.length) (hi : i < xs.length) : (mix i ys xs)[i]? = xs[i]? := by
  unfold mix
  rw [List.getElem?_append_right (by rw [List.length_take]; omega), List.length_take, List.getElem?_drop]
  congr 1; omega
theorem mix_succ {α : Type} {ys xs : List α} {i : Nat} {y : α} (hl : ys.length = xs.length) (hy : ys[i]? = some y) : (mix i ys xs).set i y = mix (i + 1) ys xs := by
  have hi : i < ys.length := (List.getElem?_eq_some_iff.1 hy).1
  unfold mix
  rw [List.set_append_right (h := by rw [List.length_take]; omega), List.length_take, Nat.min_eq_left (by omega), Nat.sub_self, List.take_add_one, hy, List.append_assoc]
  congr 1
  rw [List.drop_eq_getElem_cons (i := i) (l := xs) (by omega)]
  rfl

/-- Element by element, with a count that goes on. -/
def markL {α : Type} (f : Nat → α → α) (c : α → Nat) : Nat → List α → List α
  | _, [] => []
  | k, x :: xs => f k x :: markL f c (k + c x) xs
theorem markL_length {α : Type} (f : Nat → α → α) (c : α → Nat) : ∀ (k : Nat) (xs : List α), (markL f c k xs).length = xs.length
  | _, [] => rfl
  | k, x :: xs => by simp [markL, markL_length f c (k + c x) xs]
theorem markL_at {α : Type} (f : Nat → α → α) (c : α → Nat) : ∀ (k : Nat) (xs : List α) (i : Nat) (x : α), xs[i]? = some x → (markL f c k xs)[i]? = some (f (k + ((xs.take i).map c).sum) x)
  | _, [], i, x, h => by simp at h
  | k, y :: xs, 0, x, h => by simp at h; subst h; simp [markL]
  | k, y :: xs, i + 1, x, h => by
    simp at h
    simp only [markL, List.getElem?_cons_succ, markL_at f c (k + c y) xs i x h, List.take_succ_cons, List.map_cons, List.sum_cons, Nat.add_assoc]

/-- A row of n elements that is being made in block G: its first k are those of es. -/
structure Made {α : Type} (w wr : World) (G n : Nat) (e : TypeId) (c : Nat) (O : World → List Value → α → List Nat → Prop) (es : List α) (k : Nat) (xs : List Value) (fps : List (List Nat)) : Prop where
  own : wr.ownsRow G e c (.slice (some ⟨G, 0, none⟩) n n) n xs
  len : fps.length = k
  nd : fps.flatten.Nodup
  rng : ∀ a ∈ fps.flatten, G < a ∧ a < wr.heap.size
  el : ∀ (i : Nat) x f, es[i]? = some x → fps[i]? = some f → ∃ cs : List Value, cs.length = c ∧ (∀ j, j < c → xs[i * c + j]? = cs[j]?) ∧ O wr cs x f
  below : Below G w wr
  sz : G + 1 ≤ wr.heap.size

variable {α : Type} {w wr : World} {G n c k : Nat} {e : TypeId} {O : World → List Value → α → List Nat → Prop} {es : List α} {xs : List Value} {fps : List (List Nat)}

theorem Made.start {M : Array Value} (hM : M.size = n * c) (hn : n ≤ maxLen) : Made w (w.alloc (.cells M e)) w.heap.size n e c O es 0 M.toList [] :=
  ⟨World.ownsRow_lit w M n (Nat.le_refl _) hn hM, rfl, by simp, fun a ha => by simp at ha, fun i x f _ hf => by simp at hf, (Below.refl _ _).alloc (Nat.le_refl _) _, by rw [alloc_hs]; exact Nat.le_refl _⟩

theorem Made.step (hO : ∀ w w' cs x f, O w cs x f → KeepOn f w w' → O w' cs x f) (h : Made w wr G n e c O es k xs fps) {w1 w2 : World} {x : α} {cs xs' : List Value} {f : List Nat} (hx : es[k]? = some x) (hb : Below wr.heap.size wr w1) (ho : O w1 cs x f)
    (hnd : f.Nodup) (hf : ∀ a ∈ f, wr.heap.size ≤ a ∧ a < w1.heap.size) (hcl : cs.length = c) (hown : w2.ownsRow G e c (.slice (some ⟨G, 0, none⟩) n n) n xs') (hgr : w1.grownBy w2 (some G))
    (hlow : ∀ m, m < k * c → xs'[m]? = xs[m]?) (hself : ∀ j, j < c → xs'[k * c + j]? = cs[j]?) : Made w w2 G n e c O es (k + 1) xs' (fps ++ [f]) := by
  have h1 := h.sz
  have h2 := hb.size
  have h3 := hgr.size
  refine ⟨hown, by rw [List.length_append, h.len]; rfl, ?_, ?_, ?_, ?_, by omega⟩
  · rw [List.flatten_append, List.nodup_append]
    refine ⟨h.nd, by simpa using hnd, fun a ha b hb' => ?_⟩
    have := (h.rng a ha).2
    have := (hf b (by simpa using hb')).1
    omega
  · intro a ha
    rw [List.flatten_append, List.mem_append] at ha
    rcases ha with ha | ha
    · have := h.rng a ha; omega
    · have := hf a (by simpa using ha); omega
  · intro i y f' hy hf'
    by_cases hik : i < k
    · rw [List.getElem?_append_left (by rw [h.len]; exact hik)] at hf'
      obtain ⟨cs', g1, g2, g3⟩ := h.el i y f' hy hf'
      refine ⟨cs', g1, fun j hj => ?_, hO _ _ _ _ _ g3 (fun a ha => ?_)⟩
      · rw [hlow]
        · exact g2 j hj
        · have : i * c + c ≤ k * c := by rw [← Nat.succ_mul]; exact Nat.mul_le_mul_right c hik
          omega
      · have hr := h.rng a (List.mem_flatten.2 ⟨f', List.mem_of_getElem? hf', ha⟩)
        exact (hgr.block a (by omega) (by simp; omega)).trans (hb.block a hr.2)
    · have hil : i < k + 1 := by
        have := (List.getElem?_eq_some_iff.1 hf').1
        rw [List.length_append, h.len] at this; simpa using this
      obtain rfl : i = k := by omega
      obtain rfl : x = y := Option.some.inj (hx.symm.trans hy)
      rw [List.getElem?_append_right (by rw [h.len]; exact Nat.le_refl _), h.len, Nat.sub_self] at hf'
      simp at hf'
      subst hf'
      exact ⟨cs, hcl, hself, hO _ _ _ _ _ ho (fun a ha => by have := hf a ha; exact hgr.block a (by omega) (by simp; omega))⟩
  · exact h.below.trans ((hb.mono (by omega)).trans ⟨hgr.os, hgr.tape, hgr.output, hgr.size, fun j hj => hgr.block j (by omega) (by simp; omega)⟩)

theorem Made.done (h : Made w wr G n e c O es n xs fps) (hn : es.length = n) (hm : n ≤ maxLen) : ∃ fp, ORows wr e c (O wr) (.slice (some ⟨G, 0, none⟩) n n) es fp ∧ fp.Nodup ∧ ∀ a ∈ fp, G ≤ a ∧ a < wr.heap.size := by
  by_cases hne : es = []
  · subst hne
    exact ⟨[], .inl ⟨rfl, rfl, _, _, by rw [← hn]; rfl, hm⟩, by simp, fun a ha => by simp at ha⟩
  · refine ⟨G :: fps.flatten, .inr ⟨hne, xs, G, n, fps, ?_, by rw [hn], by rw [h.len, hn], rfl, h.el⟩, ?_, ?_⟩
    · rw [hn]
      obtain ⟨h1, h2⟩ := h.own
      refine ⟨h1, h2.imp id ?_⟩
      rintro ⟨g, cap, cur, a1, a2, a3⟩
      exact ⟨g, cap, cur, a1, Nat.zero_le _, a3⟩
    · rw [List.nodup_cons]
      exact ⟨fun hm => by have := (h.rng G hm).1; omega, h.nd⟩
    · intro a ha
      have := h.sz
      rcases List.mem_cons.1 ha with rfl | ha
      · omega
      · have := h.rng a ha; omega

/-- A function that makes a copy, of what is not too great, in new memory that the copy owns. -/
def ToO {α : Type} (F : FuncId) (H : World → Value → α → Prop) (O : World → Value → α → List Nat → Prop) (wt : α → Nat) : Prop :=
  ∀ (w : World) (v : Value) (x : α), H w v x → wt x ≤ 1048576 → Calls Tryz.prog F #[v] w fun e w' => ∃ u fp, e = .returned u ∧ O w' u x fp ∧ fp.Nodup ∧ (∀ a ∈ fp, w.heap.size ≤ a ∧ a < w'.heap.size) ∧ Below w.heap.size w w'
end Go.Proofs.YtoknolophmhlgaaGreatDoor
/-
  A row that is grown by append, one element behind the other, each a tree in memory of its own.
-/
namespace Go.Proofs.YtoknolophmhlgaaGreatDoor
open Go.ChangeShapes Go.WideShapes Go.ChangeAt Go.RowKit
set_option linter.unusedVariables false

theorem ownsB_block {w w' : World} {B : Nat} {e : TypeId} {c g n cap : Nat} {v : Value} {cells : List Value} (h : w.ownsRow B e c v n cells) (hv : v = .slice (some ⟨g, 0, none⟩) n cap) (hk : w'.heap[g]? = w.heap[g]?) : w'.ownsRow B e c v n cells := by
  refine ⟨h.1, ?_⟩
  rcases h.2 with hn | ⟨g', cap', cur, hv', hb, hg, hr⟩
  · exact .inl hn
  · have : g' = g := by rw [hv] at hv'; simp at hv'; exact hv'.1.symm
    subst this
    exact .inr ⟨g', cap', cur, hv', hb, hk.trans hg, hr⟩
theorem owns_own_lt {w : World} {B : Nat} {e : TypeId} {c n b : Nat} {v : Value} {cells : List Value} (h : w.ownsRow B e c v n cells) (hb : v.ownBlock = some b) : B ≤ b ∧ b < w.heap.size := by
  rcases h.2 with hn | ⟨g', cap', cur, hv', hB, hg, hr⟩
  · rw [hn.1] at hb; cases hb
  · rw [hv'] at hb
    simp [Value.ownBlock] at hb
    subst hb
    exact ⟨hB, (Array.getElem?_eq_some_iff.1 hg).1⟩

/-- What lies in new memory, but not in the row's own block. -/
def offRow (B : Nat) (w : World) (u : Value) (a : Nat) : Prop := B ≤ a ∧ a < w.heap.size ∧ u.ownBlock ≠ some a

structure Grow {α : Type} (wr : World) (B : Nat) (e : TypeId) (c : Nat) (R : World → (Nat → Prop) → List Value → α → Prop) (es : List α) (k : Nat) (u : Value) (xs : List Value) : Prop where
  own : wr.ownsRow B e c u k xs
  el : ∀ (i : Nat) x, i < k → es[i]? = some x → ∃ cs : List Value, cs.length = c ∧ (∀ j, j < c → xs[i * c + j]? = cs[j]?) ∧ R wr (offRow B wr u) cs x
  low : B ≤ wr.heap.size

variable {α : Type} {wr w1 wb w2 : World} {B c k : Nat} {e : TypeId} {R : World → (Nat → Prop) → List Value → α → Prop} {es : List α} {u : Value} {xs : List Value}

theorem Grow.start (h : B ≤ wr.heap.size) : Grow wr B e c R es 0 (.slice none 0 0) [] :=
  ⟨⟨by simp, .inl ⟨rfl, rfl⟩⟩, fun i x hi => by omega, h⟩

theorem Grow.step (hR : ∀ w w' S S' cs x, R w S cs x → SameOn S w w' → (∀ g, S g → S' g) → R w' S' cs x) (h : Grow wr B e c R es k u xs) {x : α} {cs : List Value} (hx : es[k]? = some x) (hb : Below wr.heap.size wr w1)
    (hr : R w1 (fun a => wr.heap.size ≤ a ∧ a < w1.heap.size) cs x) (hcl : cs.length = c) (hwb : Below w1.heap.size w1 wb) {H g cap : Nat} (hH : w1.heap.size ≤ H) (hHs : H ≤ wb.heap.size)
    (hown : w2.ownsRow B e c (.slice (some ⟨g, 0, none⟩) (k + 1) cap) (k + 1) (xs ++ cs)) (hgr : wb.grownBy w2 u.ownBlock) (hat : u.ownBlock = some g ∨ g = H) {o : Nat} (ho : o < B) (j : Nat) (v : Value) :
    Grow (w2.setCell ⟨o, j, none⟩ v) B e c R es (k + 1) (.slice (some ⟨g, 0, none⟩) (k + 1) cap) (xs ++ cs) := by
  have hlow := h.low
  have s1 := hb.size
  have s2 := hwb.size
  have s3 := hgr.size
  have hgB : B ≤ g ∧ g < w2.heap.size := owns_own_lt hown rfl
  have hu : ∀ b, u.ownBlock = some b → b < wr.heap.size := fun b hb => (owns_own_lt h.own hb).2
  have blk : ∀ a, B ≤ a → a < w1.heap.size → u.ownBlock ≠ some a → (w2.setCell ⟨o, j, none⟩ v).heap[a]? = w1.heap[a]? := fun a h1 h2 h3 =>
    (Below.heap_setCell _ _ _ _ (by show a ≠ o; omega)).trans ((hgr.block a (by omega) (fun e => h3 e.symm)).trans (hwb.block a h2))
  have hxl : xs.length = k * c := h.own.1
  refine ⟨ownsB_block hown rfl (Below.heap_setCell _ _ _ _ (by show g ≠ o; omega)), fun i y hi hy => ?_, by simp only [setCell_hs]; omega⟩
  by_cases hik : i < k
  · obtain ⟨cs', g1, g2, g3⟩ := h.el i y hik hy
    have hil : i * c + c ≤ k * c := by rw [← Nat.succ_mul]; exact Nat.mul_le_mul_right c hik
    refine ⟨cs', g1, fun q hq => ?_, hR _ _ _ _ _ _ g3 ⟨by simp only [setCell_hs]; omega, fun a ha hal => ?_⟩ (fun a ha => ?_)⟩
    · rw [List.getElem?_append_left (by omega)]; exact g2 q hq
    · exact (blk a ha.1 (by omega) ha.2.2).trans (hb.block a ha.2.1)
    · refine ⟨ha.1, by simp only [setCell_hs]; have := ha.2.1; omega, fun e => ?_⟩
      simp [Value.ownBlock] at e
      subst e
      rcases hat with hat | hat
      · exact ha.2.2 hat
      · have := ha.2.1; omega
  · obtain rfl : i = k := by omega
    obtain rfl : x = y := Option.some.inj (hx.symm.trans hy)
    refine ⟨cs, hcl, fun q hq => ?_, hR _ _ _ _ _ _ hr ⟨by simp only [setCell_hs]; omega, fun a ha hal => ?_⟩ (fun a ha => ?_)⟩
    · rw [List.getElem?_append_right (by omega), hxl]; congr 1; omega
    · exact blk a (by have := ha.1; omega) ha.2 (fun e => by have := hu a e; have := ha.1; omega)
    · refine ⟨by have := ha.1; omega, by simp only [setCell_hs]; have := ha.2; omega, fun e => ?_⟩
      simp [Value.ownBlock] at e
      subst e
      rcases hat with hat | hat
      · have := hu _ hat; have := ha.1; omega
      · have := ha.2; omega

theorem Grow.done (hR : ∀ w w' S S' cs x, R w S cs x → SameOn S w w' → (∀ g, S g → S' g) → R w' S' cs x) (h : Grow wr B e c R es k u xs) (hk : es.length = k) : Rows wr (fun a => B ≤ a) c (R wr (fun a => B ≤ a)) u es := by
  rcases h.own.2 with hn | ⟨g, cap, cur, hv, hB, hg, h1, h2, h3, h4⟩
  · refine ⟨none, 0, by rw [hn.1, hk, hn.2], by omega, Nat.zero_le _, fun hne => ?_⟩
    exact absurd (List.length_eq_zero_iff.1 (hk.trans hn.2)) hne
  · refine ⟨_, _, by rw [hk]; exact hv, by rw [hk]; exact h1, h2, fun hne => ⟨g, 0, rfl, hB, (Array.getElem?_eq_some_iff.1 hg).1, fun i x hi => ?_⟩⟩
    have hin : i < k := by rw [← hk]; exact (List.getElem?_eq_some_iff.1 hi).1
    obtain ⟨cs, g1, g2, g3⟩ := h.el i x hin hi
    refine ⟨cs, g1, fun j hj => ?_, hR _ _ _ _ _ _ g3 ⟨Nat.le_refl _, fun _ _ _ => rfl⟩ (fun a ha => ha.1)⟩
    rw [← g2 j hj, Nat.zero_add]
    have ho := h.own
    rw [hv] at ho
    refine ho.cellAt (i * c + j) ?_
    have : i * c + c ≤ k * c := by rw [← Nat.succ_mul]; exact Nat.mul_le_mul_right c hin
    omega
end Go.Proofs.YtoknolophmhlgaaGreatDoor
/-
  Rows that are grown by append: what a step of append leaves as it was.
-/
namespace Go.Proofs.YtoknolophmhlgaaGreatDoor
open Go.ChangeShapes Go.WideShapes Go.ChangeAt Go.RowKit
set_option linter.unusedVariables false

theorem owns_below {w w' : World} {B : Nat} {e : TypeId} {c n : Nat} {v : Value} {cells : List Value} (h : w.ownsRow B e c v n cells) (hg : w.grownBy w' v.ownBlock) (hB : B ≤ w.heap.size) : Below B w w' :=
  ⟨hg.os, hg.tape, hg.output, hg.size, fun j hj => hg.block j (by omega) (fun e => by
    have := (owns_own_lt h e.symm).1
    omega)⟩
theorem owns_next {w w' : World} {B : Nat} {e : TypeId} {c n : Nat} {v : Value} {cells : List Value} (h : w.ownsRow B e c v n cells) (hb : Below w.heap.size w w') : w'.ownsRow B e c v n cells := by
  refine ⟨h.1, ?_⟩
  rcases h.2 with hn | ⟨g, cap, cur, hv, hB, hg, hr⟩
  · exact .inl hn
  · exact .inr ⟨g, cap, cur, hv, hB, (hb.block g (Array.getElem?_eq_some_iff.1 hg).1).trans hg, hr⟩
theorem owns_fresh {w : World} {e : TypeId} {c : Nat} : (w.alloc (.cells #[] e)).ownsRow w.heap.size e c (.slice (some ⟨w.heap.size, 0, none⟩) 0 0) 0 [] := by
  refine ⟨by simp, .inr ⟨w.heap.size, 0, #[], rfl, Nat.le_refl _, ?_, Nat.le_refl _, Nat.zero_le _, by simp, by simp⟩⟩
  exact Blk.new (w := w) (cs := #[]) (t := e)
/-- Two rows of other types lie in other blocks: one grows, the other stays. -/
theorem owns_apart {w w' : World} {B B' : Nat} {e e' : TypeId} {c c' n n' : Nat} {v v' : Value} {xs xs' : List Value} (h : w.ownsRow B e c v n xs) (k : w.ownsRow B' e' c' v' n' xs') (hne : e ≠ e') (hg : w.grownBy w' v.ownBlock) : w'.ownsRow B' e' c' v' n' xs' := by
  refine ⟨k.1, ?_⟩
  rcases k.2 with hn | ⟨g, cap, cur, hv, hB, hh, hr⟩
  · exact .inl hn
  · refine .inr ⟨g, cap, cur, hv, hB, (hg.block g (Array.getElem?_eq_some_iff.1 hh).1 (fun e1 => ?_)).trans hh, hr⟩
    rcases h.2 with ⟨rfl, _⟩ | ⟨g2, cap2, cur2, rfl, _, hh2, _⟩
    · simp [Value.ownBlock] at e1
    · simp [Value.ownBlock] at e1
      subst e1
      rw [hh] at hh2
      simp at hh2
      exact hne hh2.2.symm
theorem owns_base {w : World} {B : Nat} {e : TypeId} {c n : Nat} {v : Value} {xs : List Value} (h : w.ownsRow B e c v n xs) : w.ownsRow 0 e c v n xs := by
  refine ⟨h.1, ?_⟩
  rcases h.2 with hn | ⟨g, cap, cur, hv, hB, hr⟩
  · exact .inl hn
  · exact .inr ⟨g, cap, cur, hv, Nat.zero_le _, hr⟩
theorem owns_slice {w : World} {B : Nat} {e : TypeId} {c n : Nat} {v : Value} {xs : List Value} (h : w.ownsRow B e c v n xs) : ∃ p q, v = .slice p n q ∧ n ≤ maxLen := by
  rcases h.2 with ⟨rfl, rfl⟩ | ⟨g, cap, cur, rfl, hB, hh, h1, h2, _⟩
  · exact ⟨_, _, rfl, Nat.zero_le _⟩
  · exact ⟨_, _, rfl, Nat.le_trans h1 h2⟩
theorem owns_some {w : World} {B : Nat} {e : TypeId} {c n q : Nat} {p : Option Addr} {xs : List Value} (h : w.ownsRow B e c (.slice p n q) n xs) (hn : 0 < n) : ∃ g, p = some ⟨g, 0, none⟩ := by
  rcases h.2 with ⟨hv, rfl⟩ | ⟨g, cap, cur, hv, _⟩
  · omega
  · simp at hv
    exact ⟨g, hv.1⟩


/-- Blocks of other types than e lie as they did. -/
def ApartE (e : TypeId) (w w' : World) : Prop := ∀ (b : Nat) (cs : Array Value) (t : TypeId) (fr : Nat × Nat), w.heap[b]? = some (Obj.cells cs t fr) → t ≠ e → w'.heap[b]? = w.heap[b]?
theorem ApartE.blk {e t : TypeId} {w w' : World} (h : ApartE e w w') {b : Nat} {cs : Array Value} (hb : Blk w b cs t) (ht : t ≠ e) : Blk w' b cs t := (h b cs t _ hb ht).trans hb
theorem ApartE.owns {e t : TypeId} {w w' : World} (h : ApartE e w w') {B c n : Nat} {v : Value} {xs : List Value} (k : w.ownsRow B t c v n xs) (ht : t ≠ e) : w'.ownsRow B t c v n xs := by
  refine ⟨k.1, ?_⟩
  rcases k.2 with hn | ⟨g, cap, cur, hv, hB, hh, hr⟩
  · exact .inl hn
  · exact .inr ⟨g, cap, cur, hv, hB, (h g _ _ _ hh ht).trans hh, hr⟩
theorem ApartE.refl (e : TypeId) (w : World) : ApartE e w w := fun _ _ _ _ _ _ => rfl
theorem ApartE.of_below {e : TypeId} {w w' : World} (h : Below w.heap.size w w') : ApartE e w w' := fun b _ _ _ hb _ => h.block b (Array.getElem?_eq_some_iff.1 hb).1
theorem ApartE.trans {e : TypeId} {a b c : World} (h : ApartE e a b) (k : ApartE e b c) : ApartE e a c := fun g cs t fr hg ht => by
  have h1 := h g cs t fr hg ht
  exact (k g cs t fr (h1.trans hg) ht).trans h1
theorem ApartE.of_grown {e : TypeId} {w w' : World} {B c n : Nat} {v : Value} {xs : List Value} (h : w.ownsRow B e c v n xs) (hg : w.grownBy w' v.ownBlock) : ApartE e w w' := fun b cs t fr hb ht =>
  hg.block b (Array.getElem?_eq_some_iff.1 hb).1 (fun e1 => by
    rcases h.2 with ⟨rfl, _⟩ | ⟨g2, cap2, cur2, rfl, _, hh2, _⟩
    · simp [Value.ownBlock] at e1
    · simp [Value.ownBlock] at e1
      subst e1
      rw [hb] at hh2
      simp at hh2
      exact ht hh2.2.1)

/-- The row v holds just the elements l, by R; it lies in a block of its own at B or above. -/
def OwnG {α : Type} (e : TypeId) (c : Nat) (R : List Value → α → Prop) (w : World) (B : Nat) (v : Value) (l : List α) : Prop := (∃ cells, w.ownsRow B e c v l.length cells ∧ CellsR c R cells l) ∧ B ≤ w.heap.size
section
variable {α : Type} {e : TypeId} {c : Nat} {R : List Value → α → Prop} {w w' : World} {B B' : Nat} {v : Value} {l : List α}
theorem OwnG.next (h : OwnG e c R w B v l) (hb : Below w.heap.size w w') : OwnG e c R w' B v l := by
  obtain ⟨⟨cells, h1, h2⟩, h3⟩ := h
  exact ⟨⟨cells, owns_next h1 hb, h2⟩, Nat.le_trans h3 hb.size⟩
theorem OwnG.base (h : OwnG e c R w B v l) (hB : B' ≤ B) : OwnG e c R w B' v l := by
  obtain ⟨⟨cells, h1, h2⟩, h3⟩ := h
  refine ⟨⟨cells, ⟨h1.1, ?_⟩, h2⟩, Nat.le_trans hB h3⟩
  rcases h1.2 with hn | ⟨g, cap, cur, hv, hB1, hr⟩
  · exact .inl hn
  · exact .inr ⟨g, cap, cur, hv, Nat.le_trans hB hB1, hr⟩
theorem OwnG.fresh : OwnG e c R (w.alloc (.cells #[] e)) w.heap.size (.slice (some ⟨w.heap.size, 0, none⟩) 0 0) [] :=
  ⟨⟨[], owns_fresh, CellsR.nil⟩, by rw [alloc_hs]; omega⟩
theorem OwnG.rows (h : OwnG e c R w B v l) : Rows w All c R v l := by
  obtain ⟨⟨cells, h1, h2⟩, h3⟩ := h
  exact CellsR.rows h1 h2 rfl
theorem OwnG.slice (h : OwnG e c R w B v l) : ∃ p q, v = .slice p l.length q ∧ l.length ≤ maxLen := by
  obtain ⟨⟨cells, h1, h2⟩, h3⟩ := h
  exact owns_slice h1
/-- append(s, x): x was built in a block of its own just ahead. -/
theorem wpList_append_one {P : Program} {w0 : World} {ops : Array Oper} {rest : List Oper} {o : Oper} {a : Act} {Q : Exit → Act → World → Prop} (hgd : o.guard = none) (s x : Operand) (t : TypeId)
    (ho : o.op = .call { callee := .builtin .append, args := #[s, x], argTypes := #[t, t] })
    (z : Value) (bytes : Nat) (ht : P.underlying t = some (.slice e)) (hi : (P.info? e).map (fun i => (i.zero, i.size, i.bytes)) = some (some z, c, bytes)) (hzs : z.cells.size = c) (hsz : 0 < c)
    (h : OwnG e c R w0 B v l) (cs : Array Value) (q : α) (hq : R cs.toList q) (hc : cs.size = c) (h1 : ∀ u ∈ cs.toList, u.oneCell' = true) (hs : a.eval s = v) (hx : a.eval x = .slice (some ⟨w0.heap.size, 0, none⟩) 1 1)
    (hl : l.length + 1 ≤ 1048576) (hb : bytes ≤ 1000)
    (k : ∀ v' w', OwnG e c R w' B v' (l ++ [q]) → Below B w0 w' → ApartE e w0 w' → wpList P ops Q rest (a.put o.dst v') w') : wpList P ops Q (o :: rest) a (w0.alloc (.cells cs e)) := by
  obtain ⟨i, hi', hz0, hz1, hz2⟩ := info_parts hi
  obtain ⟨⟨cells, g1, g2⟩, g3⟩ := h
  have hal : Below w0.heap.size w0 (w0.alloc (.cells cs e)) := (Below.refl _ _).alloc (Nat.le_refl _) _
  have own := owns_next g1 hal
  refine wpList_append_own _ hgd s x t ho B e i z c bytes ht hi' hz0 hz1 hz2 hzs hsz v l.length cells hs own ⟨w0.heap.size, 0, none⟩ 1 1 cs.toList hx (by simp [hc]) (World.news_of_block (cs := cs) (t := e) (fr := (0, 0)) (heap_alloc_new w0 _)) h1 (by unfold maxLen; omega) (by
    have : (l.length + 1) * bytes ≤ 1048576 * 1000 := Nat.mul_le_mul hl hb
    omega) (by rw [alloc_hs]; omega) ?_
  intro v' w' k1 k2 _
  refine k v' w' ⟨⟨_, by simpa using k1, g2.append (CellsR.one (by simpa using hc) hq)⟩, Nat.le_trans (by rw [alloc_hs]; omega) k2.size⟩ ?_ ((ApartE.of_below hal).trans (ApartE.of_grown own k2))
  exact (hal.mono g3).trans (owns_below own k2 (by rw [alloc_hs]; omega))
/-- append(s, xs...) of a row of the same elements. -/
theorem wpList_append_own_rows {P : Program} {S : Nat → Prop} {ops : Array Oper} {rest : List Oper} {o : Oper} {a : Act} {Q : Exit → Act → World → Prop} (hgd : o.guard = none) (s x : Operand) (t : TypeId)
    (ho : o.op = .call { callee := .builtin .append, args := #[s, x], argTypes := #[t, t] })
    (z : Value) (bytes : Nat) (ht : P.underlying t = some (.slice e)) (hi : (P.info? e).map (fun i => (i.zero, i.size, i.bytes)) = some (some z, c, bytes)) (hzs : z.cells.size = c) (hsz : 0 < c)
    (h : OwnG e c R w B v l) (hs : a.eval s = v) (u : Value) (m : List α) (hx : a.eval x = u) (hr : Rows w S c R u m) (hone : ∀ cs y, R cs y → ∀ q ∈ cs, q.oneCell' = true)
    (hl : l.length + m.length ≤ 1048576) (hb : bytes ≤ 1000)
    (k : ∀ v' w', OwnG e c R w' B v' (l ++ m) → Below B w w' → ApartE e w w' → wpList P ops Q rest (a.put o.dst v') w') : wpList P ops Q (o :: rest) a w := by
  obtain ⟨i, hi', hz0, hz1, hz2⟩ := info_parts hi
  obtain ⟨⟨cells, g1, g2⟩, g3⟩ := h
  refine wpList_append_rows hgd s x t ho B e i z c bytes ht hi' hz0 hz1 hz2 hzs hsz v l.length cells hs g1 u m hx hr hone (by unfold maxLen; omega) (by
    have : (l.length + m.length) * bytes ≤ 1048576 * 1000 := Nat.mul_le_mul hl hb
    omega) g3 ?_
  intro v' w' news hc k1 k2
  exact k v' w' ⟨⟨_, by simpa using k1, g2.append hc⟩, Nat.le_trans g3 k2.size⟩ (owns_below g1 k2 g3) (ApartE.of_grown g1 k2)
/-- append(s, x), and where the row lies behind it: where it lay, or in a new block. -/
theorem wpList_append_lies {P : Program} {w0 : World} {ops : Array Oper} {rest : List Oper} {o : Oper} {a : Act} {Q : Exit → Act → World → Prop} (hgd : o.guard = none) (s x : Operand) (t : TypeId)
    (ho : o.op = .call { callee := .builtin .append, args := #[s, x], argTypes := #[t, t] })
    (z : Value) (bytes : Nat) (ht : P.underlying t = some (.slice e)) (hi : (P.info? e).map (fun i => (i.zero, i.size, i.bytes)) = some (some z, c, bytes)) (hzs : z.cells.size = c) (hsz : 0 < c)
    (h : OwnG e c R w0 B v l) (cs : Array Value) (q : α) (hq : R cs.toList q) (hc : cs.size = c) (h1 : ∀ u ∈ cs.toList, u.oneCell' = true) (hs : a.eval s = v) (hx : a.eval x = .slice (some ⟨w0.heap.size, 0, none⟩) 1 1)
    (hl : l.length + 1 ≤ 1048576) (hb : bytes ≤ 1000)
    (k : ∀ g cap w', OwnG e c R w' B (.slice (some ⟨g, 0, none⟩) (l.length + 1) cap) (l ++ [q]) → Below B w0 w' → ApartE e w0 w' → (v.ownBlock = some g ∨ w0.heap.size ≤ g) → (∀ j, j < w0.heap.size → some j ≠ v.ownBlock → w'.heap[j]? = w0.heap[j]?) → wpList P ops Q rest (a.put o.dst (.slice (some ⟨g, 0, none⟩) (l.length + 1) cap)) w') : wpList P ops Q (o :: rest) a (w0.alloc (.cells cs e)) := by
  obtain ⟨i, hi', hz0, hz1, hz2⟩ := info_parts hi
  obtain ⟨⟨cells, g1, g2⟩, g3⟩ := h
  have hal : Below w0.heap.size w0 (w0.alloc (.cells cs e)) := (Below.refl _ _).alloc (Nat.le_refl _) _
  have own := owns_next g1 hal
  refine wpList_plain hgd fun _ hK => wp_append_lies _ s x t ho B e i z c bytes ht hi' hz0 hz1 hz2 hzs hsz v l.length cells hs own ⟨w0.heap.size, 0, none⟩ 1 1 cs.toList hx (by simp [hc]) (World.news_of_block (cs := cs) (t := e) (fr := (0, 0)) (heap_alloc_new w0 _)) h1 (by omega) (by unfold maxLen; omega) (by
    have : (l.length + 1) * bytes ≤ 1048576 * 1000 := Nat.mul_le_mul hl hb
    omega) (by rw [alloc_hs]; omega) (w0.heap.size + 1) (by rw [alloc_hs]) ?_
  intro g cap w' k1 k2 k3 k4
  refine hK _ _ (k g cap w' ⟨⟨_, by simpa using k1, g2.append (CellsR.one (by simpa using hc) hq)⟩, Nat.le_trans (by rw [alloc_hs]; omega) k2.size⟩ ?_ ((ApartE.of_below hal).trans (ApartE.of_grown own k2)) (k3.imp id (fun e => by omega)) (fun j hj hn => ?_))
  · exact (hal.mono g3).trans (owns_below own k2 (by rw [alloc_hs]; omega))
  · exact (k2.block j (by rw [alloc_hs]; omega) hn).trans (hal.block j hj)
theorem OwnG.setCell {b j : Nat} {cs : Array Value} {t : TypeId} {x : Value} (h : OwnG e c R w B v l) (hb : Blk w b cs t) (ht : t ≠ e) : OwnG e c R (w.setCell ⟨b, j, none⟩ x) B v l := by
  obtain ⟨⟨cells, g1, g2⟩, g3⟩ := h
  refine ⟨⟨cells, ⟨g1.1, ?_⟩, g2⟩, by rw [setCell_hs]; exact g3⟩
  rcases g1.2 with hn | ⟨g, cap, cur, hv, hB, hh, hr⟩
  · exact .inl hn
  · refine .inr ⟨g, cap, cur, hv, hB, (Below.heap_setCell _ _ _ _ (fun e1 => ?_)).trans hh, hr⟩
    have e2 : g = b := e1
    subst e2
    rw [show w.heap[g]? = _ from hb] at hh
    simp at hh
    exact ht hh.2
/-- The same as an arm of a region that draws its order: what is appended lies in the block g. -/
theorem step_append_blk {P : Program} {ops : Array Oper} {o : Oper} {a : Act} {K : Act → World → Prop} {Q : Exit → Act → World → Prop} {E : Prop} (hgd : o.guard = none) (s x : Operand) (t : TypeId)
    (ho : o.op = .call { callee := .builtin .append, args := #[s, x], argTypes := #[t, t] })
    (z : Value) (bytes : Nat) (ht : P.underlying t = some (.slice e)) (hi : (P.info? e).map (fun i => (i.zero, i.size, i.bytes)) = some (some z, c, bytes)) (hzs : z.cells.size = c) (hsz : 0 < c)
    (h : OwnG e c R w B v l) (g : Nat) (cs : Array Value) (hg : w.heap[g]? = some (Obj.cells cs e (0, 0))) (q : α) (hq : R cs.toList q) (hc : cs.size = c) (h1 : ∀ u ∈ cs.toList, u.oneCell' = true) (hs : a.eval s = v) (hx : a.eval x = .slice (some ⟨g, 0, none⟩) 1 1)
    (hl : l.length + 1 ≤ 1048576) (hb : bytes ≤ 1000)
    (k : ∀ v' w', OwnG e c R w' B v' (l ++ [q]) → Below B w w' → ApartE e w w' → K (a.put o.dst v') w') :
    if Region.wanted o (yielded ops a.tmps) = true then Oper.wp P o a w K Q else E := by
  have hw : Region.wanted o (yielded ops a.tmps) = true := by simp [Region.wanted, hgd]
  rw [if_pos hw]
  obtain ⟨i, hi', hz0, hz1, hz2⟩ := info_parts hi
  obtain ⟨⟨cells, g1, g2⟩, g3⟩ := h
  refine wp_append_own w s x t ho B e i z c bytes ht hi' hz0 hz1 hz2 hzs hsz v l.length cells hs g1 ⟨g, 0, none⟩ 1 1 cs.toList hx (by simp [hc]) (World.news_of_block (cs := cs) (t := e) (fr := (0, 0)) hg) h1 (by unfold maxLen; omega) (by
    have : (l.length + 1) * bytes ≤ 1048576 * 1000 := Nat.mul_le_mul hl hb
    omega) g3 ?_
  intro v' w' k1 k2 _
  exact k v' w' ⟨⟨_, by simpa using k1, g2.append (CellsR.one (by simpa using hc) hq)⟩, Nat.le_trans g3 k2.size⟩ (owns_below g1 k2 g3) (ApartE.of_grown g1 k2)
end
end Go.Proofs.YtoknolophmhlgaaGreatDoor
/-
  slices.Concat of two rows of expressions, by contract: a row of its own that holds the elements of both.
-/
namespace Go.Proofs.YtoknolophmhlgaaGreatDoor
open Go.ChangeShapes Go.WideShapes Go.ChangeAt Go.RowKit
set_option linter.unusedVariables false
set_option maxRecDepth 100000

theorem info_exC : (Tryz.prog.info? 73).map (fun i => (i.zero, i.size, i.bytes)) = some (some (.agg #[.int .i64 0, .int .i64 0, .string ⟨#[]⟩, .string ⟨#[]⟩, .slice none 0 0, .slice none 0 0]), 6, 96) := by kernel_rfl
theorem exc_oneCell {w : World} {S : Nat → Prop} {d : Nat} (cs : List Value) (x : Ex) (h : HEx w S d cs x) : ∀ u ∈ cs, u.oneCell' = true := by
  cases d with
  | zero => exact h.elim
  | succ d =>
    obtain ⟨kv, cv, rfl, -, -, -, -, ⟨p, c, rfl, -⟩, ⟨p', c', rfl, -⟩⟩ := h
    intro u hu
    simp only [List.mem_cons, List.not_mem_nil, or_false] at hu
    rcases hu with rfl | rfl | rfl | rfl | rfl | rfl <;> rfl

set_option maxHeartbeats 4000000 in
theorem growEx_any (n : Nat) (w : World) (hn : n ≤ 2097152) :
    Calls Tryz.prog 64 #[.slice none 0 0, .int .i64 n] w fun e w' => ∃ u, e = .returned u ∧ w'.ownsRow w.heap.size 73 6 u 0 [] ∧ Below w.heap.size w w' := by
  by_cases h0 : n = 0
  · subst h0
    go_enter Tryz.func64, Tryz.ntmps64
    go_wp2
    go_ret
    exact ⟨_, rfl, ⟨by simp, .inl ⟨rfl, rfl⟩⟩, Below.refl _ _⟩
  · obtain ⟨i, hi, hz0, hz1, hz2⟩ := info_parts info_exC
    have hfc : (Builtin.firstCells i.size 0 (.slice none 0 0)).run Tryz.prog w.drew = .ok #[] w.drew := run_firstCells_none w.drew i.size 0 0 0
    have hrz : ∀ ty, (Builtin.append_ #[43, 3] ty #[.slice none 0 0, .int .i64 n]).run Tryz.prog w =
        .ok (.slice (some ⟨w.heap.size, 0, none⟩) n (grownCap w n 0 73)) (w.drew.alloc (.cells (#[] ++ Builtin.zeroCells (Value.agg #[.int .i64 0, .int .i64 0, .string ⟨#[]⟩, .string ⟨#[]⟩, .slice none 0 0, .slice none 0 0]).cells n ++ Builtin.zeroCells (Value.agg #[.int .i64 0, .int .i64 0, .string ⟨#[]⟩, .string ⟨#[]⟩, .slice none 0 0, .slice none 0 0]).cells (grownCap w n 0 73 - n)) 73)) := fun ty => by
      have h := Lib.run_append_grow_zeros w 43 3 ty 73 i _ .i64 .i64 Tryz.underlying43 Tryz.underlying3 hi hz0 none 0 0 [] hfc n (by omega) (by omega) (by omega) (by omega)
        (by rw [hz2]; omega) (growslice_fits (by omega) (by rw [hz2]; omega))
      simpa using h
    have hGn : n ≤ grownCap w n 0 73 := grownCap_ge w _ _ _
    have hGm := grownCap_le_maxLen w n 0 73 (by unfold maxLen; omega)
    generalize grownCap w n 0 73 = G at *
    have HGM : Hid (G ≤ maxLen) := hGm
    have hG63 : G ≤ 9223372036854775807 := by unfold maxLen at hGm; omega
    have h1 : (0 : Int) < (n : Int) := by omega
    obtain ⟨CC, hCC⟩ : ∃ CC : Array Value, CC = #[] ++ Builtin.zeroCells (Value.agg #[.int .i64 0, .int .i64 0, .string ⟨#[]⟩, .string ⟨#[]⟩, .slice none 0 0, .slice none 0 0]).cells n ++ Builtin.zeroCells (Value.agg #[.int .i64 0, .int .i64 0, .string ⟨#[]⟩, .string ⟨#[]⟩, .slice none 0 0, .slice none 0 0]).cells (G - n) := ⟨_, rfl⟩
    have hCS : CC.size = G * 6 := by
      rw [hCC]
      simp only [Array.size_append, size_zeroCells, Value.cells]
      simp
      omega
    rw [← hCC] at hrz
    have HB : Hid (Below w.heap.size w (w.alloc (.cells CC 73)).drew) := ((Below.refl _ _).alloc (Nat.le_refl _) _).drew
    have HO : Hid ((w.alloc (.cells CC 73)).drew.ownsRow w.heap.size 73 6 (.slice (some ⟨w.heap.size, 0, none⟩) 0 G) 0 []) :=
      ⟨by simp, .inr ⟨w.heap.size, G, CC, rfl, Nat.le_refl _, heap_alloc_new w _, Nat.zero_le _, hGm, hCS, by simp⟩⟩
    clear hCC hCS
    clear hfc hi hz0 hz1 hz2 hGm
    go_enter Tryz.func64, Tryz.ntmps64
    go_wp2_with (at_builtin; refine Lib.wpList_append_run _ rfl _ _ _ _ rfl _ _ rfl rfl _ _ (hrz _) ?_)
    go_ret
    exact ⟨_, rfl, HO.out, HB.out⟩

/-- Both rows: what stands ahead of the round k. -/
def aheadC (P Q : List Ex) : Nat → List Ex
  | 0 => []
  | 1 => P
  | _ => P ++ Q

set_option maxHeartbeats 8000000 in
theorem concatEx_any (R : List Value → Ex → Prop) (hone : ∀ cs y, R cs y → ∀ q ∈ cs, q.oneCell' = true) (w : World) (sb : Nat) (p1 p2 : Option Addr) (c1 c2 : Nat) (P Q : List Ex) (hs : Blk w sb #[.slice p1 P.length c1, .slice p2 Q.length c2] 43)
    (h1 : Rows w All 6 R (.slice p1 P.length c1) P) (h2 : Rows w All 6 R (.slice p2 Q.length c2) Q) (hl : P.length + Q.length ≤ 1048576) :
    Calls Tryz.prog 41 #[.slice (some ⟨sb, 0, none⟩) 2 2] w fun e w' => ∃ u, e = .returned u ∧ OwnG 73 6 R w' w.heap.size u (P ++ Q) ∧ Below w.heap.size w w' := by
  have HR1 : Hid (∀ w', Below w.heap.size w w' → Rows w' All 6 R (.slice p1 P.length c1) P) := fun w' hb => h1.mono (SameOn.of_below hb) (fun _ h => h) (fun _ _ _ h => h)
  have HR2 : Hid (∀ w', Below w.heap.size w w' → Rows w' All 6 R (.slice p2 Q.length c2) Q) := fun w' hb => h2.mono (SameOn.of_below hb) (fun _ h => h) (fun _ _ _ h => h)
  have HBK : Hid (∀ w', Below w.heap.size w w' → Blk w' sb #[.slice p1 P.length c1, .slice p2 Q.length c2] 43) := fun w' hb => hs.next hb
  have HL : Hid (P.length + Q.length ≤ 1048576) := hl
  have y0 := hs.cell 0 _ rfl
  have y1 := hs.cell 1 _ rfl
  generalize hn1 : P.length = n1 at *
  generalize hn2 : Q.length = n2 at *
  have HN1 : Hid (P.length = n1) := hn1
  have HN2 : Hid (Q.length = n2) := hn2
  clear h1 h2 hs hn1 hn2
  go_enter Tryz.func41, Tryz.ntmps41
  go_wp2_with fail
  go_loopw [3, 11] (fun sv iv wr => wr = w ∧ ((iv = .int .i64 0 ∧ sv = .int .i64 0) ∨ (iv = .int .i64 1 ∧ sv = .int .i64 n1) ∨ (iv = .int .i64 2 ∧ sv = .int .i64 ((n1 : Int) + n2)))) (fun _ iv _ => 2 - (intOf iv).toNat)
  case atStart => exact ⟨by first | rfl | trivial, .inl ⟨rfl, rfl⟩⟩
  case round =>
    obtain ⟨hww, hrel⟩ := hrel
    have hww' := hww.symm
    subst hww'
    clear hww
    rcases hrel with ⟨rfl, rfl⟩ | ⟨rfl, rfl⟩ | ⟨rfl, rfl⟩
    · go_wp2_with fail
      exact ⟨⟨by first | rfl | trivial, .inr (.inl ⟨rfl, by go_num⟩)⟩, by simp [intOf]⟩
    · go_wp2_with fail
      exact ⟨⟨by first | rfl | trivial, .inr (.inr ⟨rfl, by go_num⟩)⟩, by simp [intOf]⟩
    · have CG : Hid (Calls Tryz.prog 64 #[.slice none 0 0, .int .i64 ((n1 : Int) + n2)] w fun e w' => ∃ u, e = .returned u ∧ w'.ownsRow w.heap.size 73 6 u 0 [] ∧ Below w.heap.size w w') := by
        have := growEx_any (n1 + n2) w (by omega)
        rwa [Int.natCast_add] at this
      go_wp2_with fail
      refine CG.out.mono ?_
      rintro e w1 ⟨u0, rfl, ho, hb⟩
      have HO : Hid (OwnG 73 6 R w1 w.heap.size u0 []) := ⟨⟨[], ho, CellsR.nil⟩, hb.size⟩
      have HB : Hid (Below w.heap.size w w1) := hb
      clear ho hb y0 y1
      go_wp2_with fail
      go_loopw [6, 27] (fun ov iv wq => ∃ k : Nat, k ≤ 2 ∧ iv = .int .i64 k ∧ Hid (OwnG 73 6 R wq w.heap.size ov (aheadC P Q k)) ∧ Hid (Below w.heap.size w wq)) (fun _ iv _ => 2 - (intOf iv).toNat)
      case atStart => exact ⟨0, by omega, rfl, HO.out, HB.out⟩
      case round =>
        clear HO HB
        obtain ⟨k, hk, rfl, HO, HB⟩ := hrel
        have bk := HBK.out _ HB.out
        have y0 := bk.cell 0 _ rfl
        have y1 := bk.cell 1 _ rfl
        rcases (by omega : k = 0 ∨ k = 1 ∨ k = 2) with rfl | rfl | rfl
        · have R1 : Hid (Rows wr All 6 R (.slice p1 n1 c1) P) := HR1.out _ HB.out
          go_wp2_with (at_builtin; refine wpList_append_own_rows rfl _ _ 43 rfl _ 96 Tryz.underlying43 info_exC rfl (by decide) HO.out rfl (.slice p1 n1 c1) P rfl R1.out hone (by have := HL.out; rw [HN1.out]; simp only [aheadC, List.length_nil]; omega) (by decide) ?_; intro v7 w7 ho7 hb7 hap7)
          exact ⟨⟨1, by omega, by go_num, by show OwnG _ _ _ _ _ _ _; simpa [aheadC] using ho7, HB.out.trans hb7⟩, by simp [intOf]⟩
        · have R2 : Hid (Rows wr All 6 R (.slice p2 n2 c2) Q) := HR2.out _ HB.out
          go_wp2_with (at_builtin; refine wpList_append_own_rows rfl _ _ 43 rfl _ 96 Tryz.underlying43 info_exC rfl (by decide) HO.out rfl (.slice p2 n2 c2) Q rfl R2.out hone (by have := HL.out; rw [HN2.out]; simp only [aheadC, HN1.out]; omega) (by decide) ?_; intro v7 w7 ho7 hb7 hap7)
          exact ⟨⟨2, by omega, by go_num, by show OwnG _ _ _ _ _ _ _; simpa [aheadC] using ho7, HB.out.trans hb7⟩, by simp [intOf]⟩
        · go_wp2_with fail
          go_ret
          exact ⟨_, rfl, HO.out, HB.out⟩
end Go.Proofs.YtoknolophmhlgaaGreatDoor
