/-
  Expressions and clauses that own their memory.
-/
import Derived.Test.YthieikohcoajbaaDoorWt
import Derived.Test.YthieikohcoajbaaDoorOwn
namespace Go.Proofs.YthieikohcoajbaaDoor
open Go.ChangeShapes Go.WideShapes Go.ChangeAt Go.RowKit
set_option linter.unusedVariables false

/-- Two cells that are a clause which owns its memory. -/
def OCl (w : World) (O : List Value → Ex → List Nat → Prop) (cs : List Value) (c : Cl) (fp : List Nat) : Prop :=
  ∃ pv bv f1 f2, cs = [pv, bv] ∧ fp = f1 ++ f2 ∧ ORows w 82 6 O pv c.1 f1 ∧ ORows w 82 6 O bv c.2 f2
/-- Six cells that are an expression which owns its memory. -/
def OEx (w : World) : Nat → List Value → Ex → List Nat → Prop
  | 0, _, _, _ => False
  | d + 1, cs, e, fp => ∃ kv cv f1 f2, cs = [.int .i64 e.kind, .int .i64 e.n, .string e.text, .string e.mod, kv, cv] ∧ fp = f1 ++ f2 ∧ okI e.kind ∧ okI e.n ∧ okS e.text ∧ okS e.mod ∧
      ORows w 82 6 (OEx w d) kv e.kids f1 ∧ ORows w 64 2 (OCl w (OEx w d)) cv e.clauses f2
abbrev OCls (w : World) (d : Nat) : List Value → Cl → List Nat → Prop := OCl w (OEx w d)

theorem OCl.keep' {w w' : World} {O O' : List Value → Ex → List Nat → Prop} {cs : List Value} {c : Cl} {fp : List Nat} (h : OCl w O cs c fp) (hk : KeepOn fp w w') (hO : ∀ cs x f, (∀ a ∈ f, a ∈ fp) → O cs x f → O' cs x f) : OCl w' O' cs c fp := by
  obtain ⟨pv, bv, f1, f2, rfl, rfl, h1, h2⟩ := h
  refine ⟨pv, bv, f1, f2, rfl, rfl, h1.keep (hk.sub (fun a ha => by simp [ha])) (fun cs x f _ hs => hO cs x f (fun a ha => by simp [hs a ha])), h2.keep (hk.sub (fun a ha => by simp [ha])) (fun cs x f _ hs => hO cs x f (fun a ha => by simp [hs a ha]))⟩
theorem OEx.keep {w w' : World} : ∀ {d : Nat} {cs : List Value} {e : Ex} {fp : List Nat}, OEx w d cs e fp → KeepOn fp w w' → OEx w' d cs e fp
  | 0, _, _, _, h, _ => h.elim
  | d + 1, cs, e, fp, h, hk => by
    obtain ⟨kv, cv, f1, f2, rfl, rfl, h1, h2, h3, h4, hr, hc⟩ := h
    refine ⟨kv, cv, f1, f2, rfl, rfl, h1, h2, h3, h4, hr.keep (hk.sub (fun a ha => by simp [ha])) (fun cs x f _ hs h => h.keep (hk.sub (fun a ha => by simp [hs a ha]))), hc.keep (hk.sub (fun a ha => by simp [ha])) (fun cs x f _ hs h => ?_)⟩
    exact h.keep' (hk.sub (fun a ha => by simp [hs a ha])) (fun cs x g hg h => h.keep (hk.sub (fun a ha => by simp [hs a (hg a ha)])))
theorem OCls.keep {w w' : World} {d : Nat} {cs : List Value} {c : Cl} {fp : List Nat} (h : OCl w (OEx w d) cs c fp) (hk : KeepOn fp w w') : OCl w' (OEx w' d) cs c fp :=
  h.keep' hk (fun cs x g hg h => h.keep (hk.sub hg))
theorem OCl.tree' {w : World} {S : Nat → Prop} {O : List Value → Ex → List Nat → Prop} {R : List Value → Ex → Prop} {cs : List Value} {c : Cl} {fp : List Nat} (h : OCl w O cs c fp) (hS : ∀ a ∈ fp, S a) (hO : ∀ cs x f, (∀ a ∈ f, a ∈ fp) → O cs x f → R cs x) : HCl w S R cs c := by
  obtain ⟨pv, bv, f1, f2, rfl, rfl, h1, h2⟩ := h
  exact ⟨pv, bv, rfl, h1.rows (fun a ha => hS a (by simp [ha])) (fun cs x f _ hs => hO cs x f (fun a ha => by simp [hs a ha])), h2.rows (fun a ha => hS a (by simp [ha])) (fun cs x f _ hs => hO cs x f (fun a ha => by simp [hs a ha]))⟩
theorem OEx.tree {w : World} {S : Nat → Prop} : ∀ {d : Nat} {cs : List Value} {e : Ex} {fp : List Nat}, OEx w d cs e fp → (∀ a ∈ fp, S a) → HEx w S d cs e
  | 0, _, _, _, h, _ => h.elim
  | d + 1, cs, e, fp, h, hS => by
    obtain ⟨kv, cv, f1, f2, rfl, rfl, h1, h2, h3, h4, hr, hc⟩ := h
    refine ⟨kv, cv, rfl, h1, h2, h3, h4, hr.rows (fun a ha => hS a (by simp [ha])) (fun cs x f _ hs h => h.tree (fun a ha => hS a (by simp [hs a ha]))), hc.rows (fun a ha => hS a (by simp [ha])) (fun cs x f _ hs h => ?_)⟩
    exact h.tree' (fun a ha => hS a (by simp [hs a ha])) (fun cs x g hg h => h.tree (fun a ha => hS a (by simp [hs a (hg a ha)])))
theorem OCls.tree {w : World} {S : Nat → Prop} {d : Nat} {cs : List Value} {c : Cl} {fp : List Nat} (h : OCl w (OEx w d) cs c fp) (hS : ∀ a ∈ fp, S a) : HCl w S (HEx w S d) cs c :=
  h.tree' hS (fun cs x g hg h => h.tree (fun a ha => hS a (hg a ha)))
theorem OCl.lt' {w : World} {O : List Value → Ex → List Nat → Prop} {cs : List Value} {c : Cl} {fp : List Nat} (h : OCl w O cs c fp) (hO : ∀ cs x f, O cs x f → ∀ a ∈ f, a < w.heap.size) : ∀ a ∈ fp, a < w.heap.size := by
  obtain ⟨pv, bv, f1, f2, rfl, rfl, h1, h2⟩ := h
  intro a ha
  rcases List.mem_append.1 ha with ha | ha
  · exact h1.lt hO a ha
  · exact h2.lt hO a ha
theorem OEx.lt {w : World} : ∀ {d : Nat} {cs : List Value} {e : Ex} {fp : List Nat}, OEx w d cs e fp → ∀ a ∈ fp, a < w.heap.size
  | 0, _, _, _, h => h.elim
  | d + 1, cs, e, fp, h => by
    obtain ⟨kv, cv, f1, f2, rfl, rfl, h1, h2, h3, h4, hr, hc⟩ := h
    intro a ha
    rcases List.mem_append.1 ha with ha | ha
    · exact hr.lt (fun cs x f h => h.lt) a ha
    · exact hc.lt (fun cs x f h => h.lt' (fun cs x f h => h.lt)) a ha
theorem OEx.shape {w : World} {d : Nat} {cs : List Value} {x : Ex} {fp : List Nat} (h : OEx w d cs x fp) : ∃ sk sn st se p1 n1 q1 p2 n2 q2, cs = [.int .i64 sk, .int .i64 sn, .string st, .string se, .slice p1 n1 q1, .slice p2 n2 q2] := by
  cases d with
  | zero => exact h.elim
  | succ d =>
    obtain ⟨kv, cv, f1, f2, rfl, rfl, _, _, _, _, hr, hc⟩ := h
    obtain ⟨p1, c1, rfl, _⟩ := hr.shape
    obtain ⟨p2, c2, rfl, _⟩ := hc.shape
    exact ⟨_, _, _, _, _, _, _, _, _, _, rfl⟩
theorem OCl.shape {w : World} {O : List Value → Ex → List Nat → Prop} {cs : List Value} {x : Cl} {fp : List Nat} (h : OCl w O cs x fp) : ∃ p1 n1 q1 p2 n2 q2, cs = [.slice p1 n1 q1, .slice p2 n2 q2] := by
  obtain ⟨pv, bv, f1, f2, rfl, rfl, h1, h2⟩ := h
  obtain ⟨p1, c1, rfl, _⟩ := h1.shape
  obtain ⟨p2, c2, rfl, _⟩ := h2.shape
  exact ⟨_, _, _, _, _, _, rfl⟩
end Go.Proofs.YthieikohcoajbaaDoor
