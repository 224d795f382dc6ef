/-
  Values that own their memory, of whatever depth.
-/
import Derived.Test.YtafehfpjogbmfaaDoorOVaDef
import Derived.Test.YtafehfpjogbmfaaDoorGrowO
namespace Go.Proofs.YtafehfpjogbmfaaDoor
open Go.ChangeShapes Go.WideShapes Go.ChangeAt Go.RowKit
set_option linter.unusedVariables false
set_option maxRecDepth 100000

theorem ORows.impV {α : Type} {w : World} {e : TypeId} {c : Nat} {R R' : List Value → α → List Nat → Prop} {v : Value} {xs : List α} {fp : List Nat} (h : ORows w e c R v xs fp) (hR : ∀ cs x f, x ∈ xs → R cs x f → R' cs x f) : ORows w e c R' v xs fp :=
  h.keep (fun a _ => rfl) (fun cs x f hx _ h => hR cs x f hx h)
theorem OVa.deeper {w : World} : ∀ {d d' : Nat} {cs : List Value} {x : Va} {fp : List Nat}, d ≤ d' → OVa w d cs x fp → OVa w d' cs x fp
  | 0, _, _, _, _, _, h => h.elim
  | d + 1, 0, _, _, _, hd, _ => by omega
  | d + 1, d' + 1, cs, x, fp, hd, h => by
    obtain ⟨kv, rfl, h1, h2, h3, hr⟩ := h
    exact ⟨kv, rfl, h1, h2, h3, hr.impV (fun cs x f _ h => h.deeper (by omega))⟩
/-- A value of whatever depth is one of its own size. -/
theorem OVa.fit {w : World} : ∀ {d d' : Nat} {cs : List Value} {x : Va} {fp : List Nat}, OVa w d cs x fp → SizeOf.sizeOf x ≤ d' → OVa w d' cs x fp
  | 0, _, _, _, _, h, _ => h.elim
  | d + 1, 0, _, .mk k n t ks, _, _, hd => by simp at hd
  | d + 1, d' + 1, cs, .mk k n t ks, fp, h, hd => by
    simp only [Va.mk.sizeOf_spec] at hd
    obtain ⟨kv, rfl, h1, h2, h3, hr⟩ := h
    refine ⟨kv, rfl, h1, h2, h3, hr.impV (fun cs y f hy h => ?_)⟩
    have := List.sizeOf_lt_of_mem hy
    simp only [Va.kids] at this
    exact h.fit (by omega)
/-- Of whatever depth. -/
def OVT (w : World) (cs : List Value) (x : Va) (fp : List Nat) : Prop := ∃ D, OVa w D cs x fp
theorem OVT.keeps : KeepsC OVT := fun w w' cs x fp ⟨D, h⟩ hk => ⟨D, h.keep hk⟩
theorem OVT.lt {w : World} {cs : List Value} {x : Va} {fp : List Nat} (h : OVT w cs x fp) : ∀ a ∈ fp, a < w.heap.size := by
  obtain ⟨D, h⟩ := h; exact h.lt
theorem OVT.fit {w : World} {cs : List Value} {x : Va} {fp : List Nat} (h : OVT w cs x fp) : OVa w (SizeOf.sizeOf x) cs x fp := by
  obtain ⟨D, h⟩ := h; exact h.fit (Nat.le_refl _)
theorem OVT.shape {w : World} {cs : List Value} {x : Va} {fp : List Nat} (h : OVT w cs x fp) : ∃ sk sn st p1 n1 q1, cs = [.int .i64 sk, .int .i64 sn, .string st, .slice p1 n1 q1] := by
  obtain ⟨D, h⟩ := h; exact h.shape
theorem sizeV_kids {k n : Int} {t : ByteArray} {ks : List Va} {y : Va} (hy : y ∈ ks) : SizeOf.sizeOf y < SizeOf.sizeOf (Va.mk k n t ks) := by
  have := List.sizeOf_lt_of_mem hy
  simp only [Va.mk.sizeOf_spec]
  omega
/-- A value out of its parts. -/
theorem OVT.mk {w : World} {k n : Int} {t : ByteArray} {kv : Value} {ks : List Va} {fp : List Nat} (hk : okI k) (hn : okI n) (ht : okS t) (h1 : ORows w 24 4 (OVT w) kv ks fp) :
    OVT w [.int .i64 k, .int .i64 n, .string t, kv] (.mk k n t ks) fp :=
  ⟨SizeOf.sizeOf (Va.mk k n t ks) + 1, kv, rfl, hk, hn, ht, h1.impV (fun cs x f hx h => h.fit.deeper (Nat.le_of_lt (sizeV_kids hx)))⟩
/-- A value without kids. -/
theorem OVT.leaf {w : World} {k n : Int} {t : ByteArray} (hk : okI k) (hn : okI n) (ht : okS t) : OVT w [.int .i64 k, .int .i64 n, .string t, .slice none 0 0] (.mk k n t []) [] :=
  OVT.mk hk hn ht (.inl ⟨rfl, rfl, none, 0, rfl, Nat.zero_le _⟩)
/-- A row of two that is laid at once. -/
theorem ORows.twoV {w : World} {a0 a1 a2 a3 b0 b1 b2 b3 : Value} {x y : Va} {f1 f2 : List Nat} (h1 : OVT w [a0, a1, a2, a3] x f1) (h2 : OVT w [b0, b1, b2, b3] y f2) :
    ORows (w.alloc (.cells #[a0, a1, a2, a3, b0, b1, b2, b3] 24)) 24 4 (OVT (w.alloc (.cells #[a0, a1, a2, a3, b0, b1, b2, b3] 24))) (.slice (some ⟨w.heap.size, 0, none⟩) 2 2) [x, y] (w.heap.size :: (f1 ++ f2)) := by
  have hb : Below w.heap.size w (w.alloc (.cells #[a0, a1, a2, a3, b0, b1, b2, b3] 24)) := (Below.refl _ _).alloc (Nat.le_refl _) _
  refine .inr ⟨by simp, [a0, a1, a2, a3, b0, b1, b2, b3], w.heap.size, 2, [f1, f2], ⟨rfl, .inr ⟨w.heap.size, 2, #[a0, a1, a2, a3, b0, b1, b2, b3], rfl, Nat.zero_le _, Blk.new (w := w), Nat.le_refl _, by unfold maxLen; omega, rfl, rfl⟩⟩, rfl, rfl, by simp, fun i z f hi hf => ?_⟩
  match i, hi, hf with
  | 0, hi, hf =>
    simp at hi hf; subst hi; subst hf
    refine ⟨_, rfl, fun j hj => ?_, OVT.keeps _ _ _ _ _ h1 (fun a ha => hb.block a (h1.lt a ha))⟩
    match j, hj with
    | 0, _ => rfl
    | 1, _ => rfl
    | 2, _ => rfl
    | 3, _ => rfl
  | 1, hi, hf =>
    simp at hi hf; subst hi; subst hf
    refine ⟨_, rfl, fun j hj => ?_, OVT.keeps _ _ _ _ _ h2 (fun a ha => hb.block a (h2.lt a ha))⟩
    match j, hj with
    | 0, _ => rfl
    | 1, _ => rfl
    | 2, _ => rfl
    | 3, _ => rfl
  | i + 2, hi, hf => simp at hi
/-- An answer of a reader of values: in memory of its own, laid from B on. -/
def OwnV (B : Nat) (x : Va) (v : Value) (w' : World) : Prop := ∃ cs fp, v = .agg cs.toArray ∧ OVT w' cs x fp ∧ fp.Nodup ∧ (∀ a ∈ fp, B ≤ a ∧ a < w'.heap.size) ∧ B ≤ w'.heap.size
end Go.Proofs.YtafehfpjogbmfaaDoor
