/-
  What is alike for all trees in memory: weights, boxes, rows that are made; the forms of contracts.
-/
import Derived.Test.YtafehfpjogbmfaaDoorTree
import Derived.Test.YtafehfpjogbmfaaDoorProg
import Derived.Deep.QuietTactic
import Derived.BigQuiet
import Derived.Deep.RegionWith
import Derived.Deep.RegionHeld3
import Derived.WalkSmall
import Derived.Deep.DeepMust
import Derived.Laws.MakeOwn
namespace Go.Proofs.YtafehfpjogbmfaaDoor
open Go.ChangeShapes Go.WideShapes Go.ChangeAt Go.RowKit
set_option linter.unusedVariables false

def wtS {α : Type} (f : α → Nat) (xs : List α) : Nat := xs.length + (xs.map f).sum
/-- What is left of so much, or -1. -/
def leftOf (left wt : Nat) : Int := if left < wt then -1 else ((left - wt : Nat) : Int)

theorem leftOf_lt {left wt : Nat} (h : left < wt) : leftOf left wt = -1 := if_pos h
theorem leftOf_ge {left wt : Nat} (h : wt ≤ left) : leftOf left wt = ((left - wt : Nat) : Int) := if_neg (by omega)
theorem sum_take_succ {α : Type} (f : α → Nat) (xs : List α) (k : Nat) (x : α) (h : xs[k]? = some x) : ((xs.take (k + 1)).map f).sum = ((xs.take k).map f).sum + f x := by
  rw [List.take_add_one, h]; simp
theorem sum_take_le {α : Type} (f : α → Nat) (xs : List α) (k : Nat) : ((xs.take k).map f).sum ≤ (xs.map f).sum := by
  conv => rhs; rw [← List.take_append_drop k xs]
  rw [List.map_append, List.sum_append]; omega

/-- A function of a value, told of a world and of what is left. -/
def SzC {α : Type} (F : FuncId) (H : World → Value → α → Prop) (wt : α → Nat) : Prop :=
  ∀ (w : World) (v : Value) (x : α) (left : Nat), H w v x → left ≤ 1048576 → Calls Tryd.prog F #[v, .int .i64 left] w fun e w' => e = .returned (.int .i64 (leftOf left (wt x))) ∧ Below w.heap.size w w'

theorem SzC.at {α : Type} {F : FuncId} {H : World → Value → α → Prop} {wt : α → Nat} (h : SzC F H wt) {w : World} {v : Value} (x : α) (l : Int) (left : Nat) (hl : l = left) (hx : H w v x) (hb : left ≤ 1048576) :
    Calls Tryd.prog F #[v, .int .i64 l] w fun e w' => e = .returned (.int .i64 (leftOf left (wt x))) ∧ Below w.heap.size w w' := by
  subst hl; exact h w v x left hx hb

/-- A function of two values that are one tree answers true and makes memory alone. -/
def EqC {α : Type} (F : FuncId) (H : World → Value → α → Prop) : Prop :=
  ∀ (w : World) (v1 v2 : Value) (x : α), H w v1 x → H w v2 x → Calls Tryd.prog F #[v1, v2] w fun e w' => e = .returned (.bool true) ∧ Below w.heap.size w w'

/-- A function that makes a copy, of what is not too great, in new memory. -/
def ToC {α : Type} (F : FuncId) (H : World → Value → α → Prop) (R : World → (Nat → Prop) → Value → α → Prop) (wt : α → Nat) : Prop :=
  ∀ (w : World) (v : Value) (x : α), H w v x → wt x ≤ 1048576 → Calls Tryd.prog F #[v] w fun e w' => ∃ u, e = .returned u ∧ R w' (fun g => w.heap.size ≤ g) u x ∧ Below w.heap.size w w'

theorem grownBy_transR {a b c : World} {r : Option Nat} (h : a.grownBy b r) (k : b.grownBy c r) : a.grownBy c r :=
  ⟨k.os.trans h.os, k.tape.trans h.tape, k.output.trans h.output, Nat.le_trans h.size k.size, fun j hj hr => (k.block j (Nat.lt_of_lt_of_le hj h.size) hr).trans (h.block j hj hr)⟩
theorem grownBy_belowR {a b : World} {r : Option Nat} (h : Below a.heap.size a b) : a.grownBy b r := ⟨h.os, h.tape, h.output, h.size, fun j hj _ => h.block j hj⟩
theorem below_grownR {a b : World} {B g : Nat} (h : a.grownBy b (some g)) (hB : B ≤ g) (hs : B ≤ a.heap.size) : Below B a b :=
  ⟨h.os, h.tape, h.output, h.size, fun j hj => h.block j (by omega) (by simp; omega)⟩
theorem own_someR {w : World} {B g n cap c : Nat} {e : TypeId} {xs : List Value} (h : w.ownsRow B e c (.slice (some ⟨g, 0, none⟩) n cap) n xs) (j : Nat) (hj : j < n * c) : ∃ u, w.cell? ⟨g, j, none⟩ = some u :=
  ⟨_, (h.cellAt j hj).trans (List.getElem?_eq_getElem (by rw [h.1]; exact hj))⟩

/-- A new row of n elements of a type: its cells, whatever they are. -/
theorem make_row {t e : TypeId} {c : Nat} (ht : Tryd.prog.underlying t = some (.slice e)) (hi : ((Tryd.prog.info? e).any fun i => i.zero.isSome && (i.size == c && decide (i.bytes ≤ 1000))) = true) (w : World) (n : Nat) (hn : n ≤ 1048576) :
    ∃ M : Array Value, M.size = n * c ∧ (Instr.makeSlice t (.int .i64 n) (.int .i64 n)).run Tryd.prog w = .ok (.slice (some ⟨w.heap.size, 0, none⟩) n n) (w.alloc (.cells M e)) := by
  cases h : Tryd.prog.info? e with
  | none => rw [h] at hi; cases hi
  | some i =>
    rw [h] at hi
    simp only [Option.any_some, Bool.and_eq_true, beq_iff_eq, decide_eq_true_eq] at hi
    obtain ⟨hz, hs, hb⟩ := hi
    obtain ⟨z, hz⟩ := Option.isSome_iff_exists.1 hz
    have := run_make (P := Tryd.prog) w t e i z ht h hz .i64 .i64 n n (by omega) (Int.le_refl _) (by
      have h1 : i.bytes * n ≤ 1000 * 1048576 := Nat.mul_le_mul hb hn
      have h2 : ((i.bytes * n : Nat) : Int) ≤ ((1000 * 1048576 : Nat) : Int) := by exact_mod_cast h1
      rw [Int.natCast_mul] at h2
      omega) (by omega)
    exact ⟨_, by rw [size_madeCells, hs]; simp, this⟩

/-- The block b holds just these cells; none is frozen. -/
def Blk (w : World) (b : Nat) (cs : Array Value) (t : TypeId) : Prop := w.heap[b]? = some (.cells cs t)
theorem Blk.cell {w : World} {b : Nat} {cs : Array Value} {t : TypeId} (h : Blk w b cs t) (j : Nat) (v : Value) (hv : cs[j]? = some v) : w.cell? ⟨b, j, none⟩ = some v := by
  unfold Blk at h; unfold World.cell?; rw [h]; simpa using hv
theorem Blk.frozen {w : World} {b : Nat} {cs : Array Value} {t : TypeId} (h : Blk w b cs t) (j : Nat) : w.frozen? ⟨b, j, none⟩ = false := by
  unfold Blk at h; unfold World.frozen?; rw [h]; simp
theorem Blk.below {w w' : World} {N b : Nat} {cs : Array Value} {t : TypeId} (h : Blk w b cs t) (hb : Below N w w') (hN : b < N) : Blk w' b cs t := (hb.block b hN).trans h
theorem Blk.new {w : World} {cs : Array Value} {t : TypeId} : Blk (w.alloc (.cells cs t)) w.heap.size cs t := by
  show (w.heap.push _)[w.heap.size]? = _
  simp
theorem Blk.alloc {w : World} {b : Nat} {cs : Array Value} {t : TypeId} {o : Obj} (h : Blk w b cs t) : Blk (w.alloc o) b cs t :=
  (Below.heap_alloc _ _ _ (by unfold Blk at h; exact (Array.getElem?_eq_some_iff.1 h).1)).trans h
theorem Blk.same {w : World} {b j : Nat} {cs cs' : Array Value} {t : TypeId} {v : Value} (h : Blk w b cs t) (hc : cs.setIfInBounds j v = cs') : Blk (w.setCell ⟨b, j, none⟩ v) b cs' t := by
  subst hc; exact heap_setCell_same w b j cs t v h
theorem Blk.other {w : World} {b : Nat} {p : Addr} {cs : Array Value} {t : TypeId} {v : Value} (h : Blk w b cs t) (hp : b ≠ p.block) : Blk (w.setCell p v) b cs t := (Below.heap_setCell _ _ _ _ hp).trans h
theorem SameOn.setCell {S : Nat → Prop} {a b : World} (h : SameOn S a b) {p : Addr} (hp : ¬ S p.block) (v : Value) : SameOn S a (b.setCell p v) :=
  ⟨by simpa [World.setCell] using h.1, fun g hg hl => (Below.heap_setCell _ _ _ _ (by intro e; exact hp (e ▸ hg))).trans (h.2 g hg hl)⟩
theorem setCell_hs (w : World) (p : Addr) (v : Value) : (w.setCell p v).heap.size = w.heap.size := by simp [World.setCell]

theorem set2_other {xs : List Value} {d0 d1 : Value} {m o : Nat} (h : m < o) : ((xs.set o d0).set (o + 1) d1)[m]? = xs[m]? := by
  rw [List.getElem?_set_ne (by omega), List.getElem?_set_ne (by omega)]
theorem set2_self {xs : List Value} {d0 d1 : Value} {o : Nat} (h : o + 1 < xs.length) (j : Nat) (hj : j < 2) : ((xs.set o d0).set (o + 1) d1)[o + j]? = [d0, d1][j]? := by
  match j, hj with
  | 0, _ => rw [List.getElem?_set_ne (by omega)]; exact List.getElem?_set_self (by omega)
  | 1, _ => rw [List.getElem?_set_self (by simp only [List.length_set]; omega)]; rfl
theorem stored2 {w : World} {B g n cap : Nat} {e : TypeId} {xs : List Value} (h : w.ownsRow B e 2 (.slice (some ⟨g, 0, none⟩) n cap) n xs) (o : Nat) (d0 d1 : Value) :
    ((w.setCell ⟨g, o, none⟩ d0).setCell ⟨g, o + 1, none⟩ d1).ownsRow B e 2 (.slice (some ⟨g, 0, none⟩) n cap) n ((xs.set o d0).set (o + 1) d1) ∧ w.grownBy ((w.setCell ⟨g, o, none⟩ d0).setCell ⟨g, o + 1, none⟩ d1) (some g) := by
  have s0 := h.stored o d0
  have s1 := s0.1.stored (o + 1) d1
  exact ⟨s1.1, grownBy_transR s0.2 (s1.2)⟩

theorem set3_other {xs : List Value} {d0 d1 d2 : Value} {m o : Nat} (h : m < o) : (((xs.set o d0).set (o + 1) d1).set (o + 2) d2)[m]? = xs[m]? := by
  rw [List.getElem?_set_ne (by omega), List.getElem?_set_ne (by omega), List.getElem?_set_ne (by omega)]
theorem set3_self {xs : List Value} {d0 d1 d2 : Value} {o : Nat} (h : o + 2 < xs.length) (j : Nat) (hj : j < 3) : (((xs.set o d0).set (o + 1) d1).set (o + 2) d2)[o + j]? = [d0, d1, d2][j]? := by
  match j, hj with
  | 0, _ => rw [List.getElem?_set_ne (by omega), List.getElem?_set_ne (by omega)]; exact List.getElem?_set_self (by omega)
  | 1, _ => rw [List.getElem?_set_ne (by omega), List.getElem?_set_self (by simp only [List.length_set]; omega)]; rfl
  | 2, _ => rw [List.getElem?_set_self (by simp only [List.length_set]; omega)]; rfl
theorem stored3 {w : World} {B g n cap : Nat} {e : TypeId} {xs : List Value} (h : w.ownsRow B e 3 (.slice (some ⟨g, 0, none⟩) n cap) n xs) (o : Nat) (d0 d1 d2 : Value) :
    (((w.setCell ⟨g, o, none⟩ d0).setCell ⟨g, o + 1, none⟩ d1).setCell ⟨g, o + 2, none⟩ d2).ownsRow B e 3 (.slice (some ⟨g, 0, none⟩) n cap) n (((xs.set o d0).set (o + 1) d1).set (o + 2) d2) ∧ w.grownBy (((w.setCell ⟨g, o, none⟩ d0).setCell ⟨g, o + 1, none⟩ d1).setCell ⟨g, o + 2, none⟩ d2) (some g) := by
  have s0 := h.stored o d0
  have s1 := s0.1.stored (o + 1) d1
  have s2 := s1.1.stored (o + 2) d2
  exact ⟨s2.1, grownBy_transR s0.2 (grownBy_transR s1.2 (s2.2))⟩

theorem set4_other {xs : List Value} {d0 d1 d2 d3 : Value} {m o : Nat} (h : m < o) : ((((xs.set o d0).set (o + 1) d1).set (o + 2) d2).set (o + 3) d3)[m]? = xs[m]? := by
  rw [List.getElem?_set_ne (by omega), List.getElem?_set_ne (by omega), List.getElem?_set_ne (by omega), List.getElem?_set_ne (by omega)]
theorem set4_self {xs : List Value} {d0 d1 d2 d3 : Value} {o : Nat} (h : o + 3 < xs.length) (j : Nat) (hj : j < 4) : ((((xs.set o d0).set (o + 1) d1).set (o + 2) d2).set (o + 3) d3)[o + j]? = [d0, d1, d2, d3][j]? := by
  match j, hj with
  | 0, _ => rw [List.getElem?_set_ne (by omega), List.getElem?_set_ne (by omega), List.getElem?_set_ne (by omega)]; exact List.getElem?_set_self (by omega)
  | 1, _ => rw [List.getElem?_set_ne (by omega), List.getElem?_set_ne (by omega), List.getElem?_set_self (by simp only [List.length_set]; omega)]; rfl
  | 2, _ => rw [List.getElem?_set_ne (by omega), List.getElem?_set_self (by simp only [List.length_set]; omega)]; rfl
  | 3, _ => rw [List.getElem?_set_self (by simp only [List.length_set]; omega)]; rfl
theorem stored4 {w : World} {B g n cap : Nat} {e : TypeId} {xs : List Value} (h : w.ownsRow B e 4 (.slice (some ⟨g, 0, none⟩) n cap) n xs) (o : Nat) (d0 d1 d2 d3 : Value) :
    ((((w.setCell ⟨g, o, none⟩ d0).setCell ⟨g, o + 1, none⟩ d1).setCell ⟨g, o + 2, none⟩ d2).setCell ⟨g, o + 3, none⟩ d3).ownsRow B e 4 (.slice (some ⟨g, 0, none⟩) n cap) n ((((xs.set o d0).set (o + 1) d1).set (o + 2) d2).set (o + 3) d3) ∧ w.grownBy ((((w.setCell ⟨g, o, none⟩ d0).setCell ⟨g, o + 1, none⟩ d1).setCell ⟨g, o + 2, none⟩ d2).setCell ⟨g, o + 3, none⟩ d3) (some g) := by
  have s0 := h.stored o d0
  have s1 := s0.1.stored (o + 1) d1
  have s2 := s1.1.stored (o + 2) d2
  have s3 := s2.1.stored (o + 3) d3
  exact ⟨s3.1, grownBy_transR s0.2 (grownBy_transR s1.2 (grownBy_transR s2.2 (s3.2)))⟩

theorem set5_other {xs : List Value} {d0 d1 d2 d3 d4 : Value} {m o : Nat} (h : m < o) : (((((xs.set o d0).set (o + 1) d1).set (o + 2) d2).set (o + 3) d3).set (o + 4) d4)[m]? = xs[m]? := by
  rw [List.getElem?_set_ne (by omega), List.getElem?_set_ne (by omega), List.getElem?_set_ne (by omega), List.getElem?_set_ne (by omega), List.getElem?_set_ne (by omega)]
theorem set5_self {xs : List Value} {d0 d1 d2 d3 d4 : Value} {o : Nat} (h : o + 4 < xs.length) (j : Nat) (hj : j < 5) : (((((xs.set o d0).set (o + 1) d1).set (o + 2) d2).set (o + 3) d3).set (o + 4) d4)[o + j]? = [d0, d1, d2, d3, d4][j]? := by
  match j, hj with
  | 0, _ => rw [List.getElem?_set_ne (by omega), List.getElem?_set_ne (by omega), List.getElem?_set_ne (by omega), List.getElem?_set_ne (by omega)]; exact List.getElem?_set_self (by omega)
  | 1, _ => rw [List.getElem?_set_ne (by omega), List.getElem?_set_ne (by omega), List.getElem?_set_ne (by omega), List.getElem?_set_self (by simp only [List.length_set]; omega)]; rfl
  | 2, _ => rw [List.getElem?_set_ne (by omega), List.getElem?_set_ne (by omega), List.getElem?_set_self (by simp only [List.length_set]; omega)]; rfl
  | 3, _ => rw [List.getElem?_set_ne (by omega), List.getElem?_set_self (by simp only [List.length_set]; omega)]; rfl
  | 4, _ => rw [List.getElem?_set_self (by simp only [List.length_set]; omega)]; rfl
theorem stored5 {w : World} {B g n cap : Nat} {e : TypeId} {xs : List Value} (h : w.ownsRow B e 5 (.slice (some ⟨g, 0, none⟩) n cap) n xs) (o : Nat) (d0 d1 d2 d3 d4 : Value) :
    (((((w.setCell ⟨g, o, none⟩ d0).setCell ⟨g, o + 1, none⟩ d1).setCell ⟨g, o + 2, none⟩ d2).setCell ⟨g, o + 3, none⟩ d3).setCell ⟨g, o + 4, none⟩ d4).ownsRow B e 5 (.slice (some ⟨g, 0, none⟩) n cap) n (((((xs.set o d0).set (o + 1) d1).set (o + 2) d2).set (o + 3) d3).set (o + 4) d4) ∧ w.grownBy (((((w.setCell ⟨g, o, none⟩ d0).setCell ⟨g, o + 1, none⟩ d1).setCell ⟨g, o + 2, none⟩ d2).setCell ⟨g, o + 3, none⟩ d3).setCell ⟨g, o + 4, none⟩ d4) (some g) := by
  have s0 := h.stored o d0
  have s1 := s0.1.stored (o + 1) d1
  have s2 := s1.1.stored (o + 2) d2
  have s3 := s2.1.stored (o + 3) d3
  have s4 := s3.1.stored (o + 4) d4
  exact ⟨s4.1, grownBy_transR s0.2 (grownBy_transR s1.2 (grownBy_transR s2.2 (grownBy_transR s3.2 (s4.2))))⟩

theorem set6_other {xs : List Value} {d0 d1 d2 d3 d4 d5 : Value} {m o : Nat} (h : m < o) : ((((((xs.set o d0).set (o + 1) d1).set (o + 2) d2).set (o + 3) d3).set (o + 4) d4).set (o + 5) d5)[m]? = xs[m]? := by
  rw [List.getElem?_set_ne (by omega), List.getElem?_set_ne (by omega), List.getElem?_set_ne (by omega), List.getElem?_set_ne (by omega), List.getElem?_set_ne (by omega), List.getElem?_set_ne (by omega)]
theorem set6_self {xs : List Value} {d0 d1 d2 d3 d4 d5 : Value} {o : Nat} (h : o + 5 < xs.length) (j : Nat) (hj : j < 6) : ((((((xs.set o d0).set (o + 1) d1).set (o + 2) d2).set (o + 3) d3).set (o + 4) d4).set (o + 5) d5)[o + j]? = [d0, d1, d2, d3, d4, d5][j]? := by
  match j, hj with
  | 0, _ => rw [List.getElem?_set_ne (by omega), List.getElem?_set_ne (by omega), List.getElem?_set_ne (by omega), List.getElem?_set_ne (by omega), List.getElem?_set_ne (by omega)]; exact List.getElem?_set_self (by omega)
  | 1, _ => rw [List.getElem?_set_ne (by omega), List.getElem?_set_ne (by omega), List.getElem?_set_ne (by omega), List.getElem?_set_ne (by omega), List.getElem?_set_self (by simp only [List.length_set]; omega)]; rfl
  | 2, _ => rw [List.getElem?_set_ne (by omega), List.getElem?_set_ne (by omega), List.getElem?_set_ne (by omega), List.getElem?_set_self (by simp only [List.length_set]; omega)]; rfl
  | 3, _ => rw [List.getElem?_set_ne (by omega), List.getElem?_set_ne (by omega), List.getElem?_set_self (by simp only [List.length_set]; omega)]; rfl
  | 4, _ => rw [List.getElem?_set_ne (by omega), List.getElem?_set_self (by simp only [List.length_set]; omega)]; rfl
  | 5, _ => rw [List.getElem?_set_self (by simp only [List.length_set]; omega)]; rfl
theorem stored6 {w : World} {B g n cap : Nat} {e : TypeId} {xs : List Value} (h : w.ownsRow B e 6 (.slice (some ⟨g, 0, none⟩) n cap) n xs) (o : Nat) (d0 d1 d2 d3 d4 d5 : Value) :
    ((((((w.setCell ⟨g, o, none⟩ d0).setCell ⟨g, o + 1, none⟩ d1).setCell ⟨g, o + 2, none⟩ d2).setCell ⟨g, o + 3, none⟩ d3).setCell ⟨g, o + 4, none⟩ d4).setCell ⟨g, o + 5, none⟩ d5).ownsRow B e 6 (.slice (some ⟨g, 0, none⟩) n cap) n ((((((xs.set o d0).set (o + 1) d1).set (o + 2) d2).set (o + 3) d3).set (o + 4) d4).set (o + 5) d5) ∧ w.grownBy ((((((w.setCell ⟨g, o, none⟩ d0).setCell ⟨g, o + 1, none⟩ d1).setCell ⟨g, o + 2, none⟩ d2).setCell ⟨g, o + 3, none⟩ d3).setCell ⟨g, o + 4, none⟩ d4).setCell ⟨g, o + 5, none⟩ d5) (some g) := by
  have s0 := h.stored o d0
  have s1 := s0.1.stored (o + 1) d1
  have s2 := s1.1.stored (o + 2) d2
  have s3 := s2.1.stored (o + 3) d3
  have s4 := s3.1.stored (o + 4) d4
  have s5 := s4.1.stored (o + 5) d5
  exact ⟨s5.1, grownBy_transR s0.2 (grownBy_transR s1.2 (grownBy_transR s2.2 (grownBy_transR s3.2 (grownBy_transR s4.2 (s5.2)))))⟩

/-- Whether two trees are one. -/
noncomputable def sameB {α : Type} (x y : α) : Bool := @decide (x = y) (Classical.propDecidable _)
theorem sameB_true {α : Type} {x y : α} (h : x = y) : sameB x y = true := by exact @decide_eq_true _ (Classical.propDecidable _) h
theorem sameB_false {α : Type} {x y : α} (h : x ≠ y) : sameB x y = false := by exact @decide_eq_false _ (Classical.propDecidable _) h

theorem str_ne {a b : ByteArray} (h : ¬ a = b) : ¬ a.toList = b.toList := fun e => h (bytes_inj (by rw [← ByteArray.toList_eq, ← ByteArray.toList_eq, e]))
theorem str_neB {a b : ByteArray} (h : ¬ a = b) : (a.toList == b.toList) = false := by simpa using str_ne h

/-- A function of two values tells whether their trees are one, and makes memory alone. -/
def CmpC {α : Type} (F : FuncId) (H : World → Value → α → Prop) : Prop :=
  ∀ (w : World) (v1 v2 : Value) (x y : α), H w v1 x → H w v2 y → Calls Tryd.prog F #[v1, v2] w fun e w' => e = .returned (.bool (sameB x y)) ∧ Below w.heap.size w w'

theorem take_succ_same {α : Type} {xs ys : List α} {k : Nat} {x : α} (h : xs.take k = ys.take k) (hx : xs[k]? = some x) (hy : ys[k]? = some x) : xs.take (k + 1) = ys.take (k + 1) := by
  rw [List.take_add_one, List.take_add_one, h, hx, hy]
theorem take_all_same {α : Type} {xs ys : List α} {k : Nat} (h : xs.take k = ys.take k) (hx : xs.length ≤ k) (hy : ys.length ≤ k) : xs = ys := by
  rwa [List.take_of_length_le hx, List.take_of_length_le hy] at h
theorem ne_at {α : Type} {xs ys : List α} {k : Nat} {x y : α} (hx : xs[k]? = some x) (hy : ys[k]? = some y) (h : x ≠ y) : xs ≠ ys := by
  intro e; rw [e, hy] at hx; exact h (Option.some.inj hx).symm

theorem Blk.lt {w : World} {b : Nat} {cs : Array Value} {t : TypeId} (h : Blk w b cs t) : b < w.heap.size := by
  unfold Blk at h; exact (Array.getElem?_eq_some_iff.1 h).1
theorem Blk.next {w w' : World} {b : Nat} {cs : Array Value} {t : TypeId} (h : Blk w b cs t) (hb : Below w.heap.size w w') : Blk w' b cs t := h.below hb h.lt
theorem cell_next {w w' : World} {a : Addr} {v : Value} (hb : Below w.heap.size w w') (h : w.cell? a = some v) : w'.cell? a = some v := by
  refine (hb.cell (p := a) ?_).trans h
  unfold World.cell? at h
  split at h
  · rename_i heq; exact (Array.getElem?_eq_some_iff.1 heq).1
  · cases h

theorem agg_of_cells {v : Value} {cs : List Value} (h : v.cells.toList = cs) (hl : cs.length ≠ 1) : v = .agg cs.toArray := by
  subst h
  cases v <;> first | (exfalso; exact hl rfl) | rfl
theorem Blk.same_on {w w' : World} {b : Nat} {cs : Array Value} {t : TypeId} (h : Blk w b cs t) (hs : SameOn All w w') : Blk w' b cs t :=
  (hs.2 b trivial (by unfold Blk at h; exact (Array.getElem?_eq_some_iff.1 h).1)).trans h

end Go.Proofs.YtafehfpjogbmfaaDoor
