/-
  Modules that own their memory.
-/
import Derived.Test.YthieikohcoajbaaDoorExOwn
namespace Go.Proofs.YthieikohcoajbaaDoor
open Go.ChangeShapes Go.WideShapes Go.ChangeAt Go.RowKit
set_option linter.unusedVariables false

/-- Two cells that are a name with its number: no memory. -/
def ORf (_ : World) (_ : Nat) (cs : List Value) (r : Rf) (fp : List Nat) : Prop := HRf cs r ∧ fp = []
/-- Three cells that are a function which owns its memory. -/
def OFn (w : World) (d : Nat) (cs : List Value) (f : Fn') (fp : List Nat) : Prop :=
  ∃ cv, cs = [.string f.name, .int .i64 f.arity, cv] ∧ okS f.name ∧ okI f.arity ∧ ORows w 64 2 (OCl w (OEx w d)) cv f.clauses fp
/-- Three cells that are a module which owns its memory. -/
def OMd (w : World) (d : Nat) (cs : List Value) (m : Md) (fp : List Nat) : Prop :=
  ∃ ev fv f1 f2, cs = [.string m.name, ev, fv] ∧ fp = f1 ++ f2 ∧ okS m.name ∧ ORows w 51 2 (ORf w d) ev m.exports f1 ∧ ORows w 59 3 (OFn w d) fv m.funs f2

theorem ORf.keep {w w' : World} {d : Nat} {cs : List Value} {r : Rf} {fp : List Nat} (h : ORf w d cs r fp) (_ : KeepOn fp w w') : ORf w' d cs r fp := h
theorem ORf.tree {w : World} {d : Nat} {cs : List Value} {r : Rf} {fp : List Nat} (h : ORf w d cs r fp) : HRf cs r := h.1
theorem ORf.lt {w : World} {d : Nat} {cs : List Value} {r : Rf} {fp : List Nat} (h : ORf w d cs r fp) : ∀ a ∈ fp, a < w.heap.size := by rw [h.2]; simp
theorem ORf.shape {w : World} {d : Nat} {cs : List Value} {x : Rf} {fp : List Nat} (h : ORf w d cs x fp) : ∃ st sk, cs = [.string st, .int .i64 sk] := by
  obtain ⟨⟨rfl, _⟩, _⟩ := h
  exact ⟨_, _, rfl⟩
theorem OFn.keep {w w' : World} {d : Nat} {cs : List Value} {f : Fn'} {fp : List Nat} (h : OFn w d cs f fp) (hk : KeepOn fp w w') : OFn w' d cs f fp := by
  obtain ⟨cv, rfl, h1, h2, h3⟩ := h
  exact ⟨cv, rfl, h1, h2, h3.keep hk (fun cs x f _ hs h => OCls.keep h (hk.sub hs))⟩
theorem OFn.tree {w : World} {S : Nat → Prop} {d : Nat} {cs : List Value} {f : Fn'} {fp : List Nat} (h : OFn w d cs f fp) (hS : ∀ a ∈ fp, S a) : HFn w S d cs f := by
  obtain ⟨cv, rfl, h1, h2, h3⟩ := h
  exact ⟨cv, rfl, h1, h2, h3.rows hS (fun cs x f _ hs h => OCls.tree h (fun a ha => hS a (hs a ha)))⟩
theorem OFn.lt {w : World} {d : Nat} {cs : List Value} {f : Fn'} {fp : List Nat} (h : OFn w d cs f fp) : ∀ a ∈ fp, a < w.heap.size := by
  obtain ⟨cv, rfl, h1, h2, h3⟩ := h
  exact h3.lt (fun cs x f h => h.lt' (fun cs x f h => h.lt))
theorem OFn.shape {w : World} {d : Nat} {cs : List Value} {x : Fn'} {fp : List Nat} (h : OFn w d cs x fp) : ∃ st sk p1 n1 q1, cs = [.string st, .int .i64 sk, .slice p1 n1 q1] := by
  obtain ⟨cv, rfl, h1, h2, h3⟩ := h
  obtain ⟨p1, c1, rfl, _⟩ := h3.shape
  exact ⟨_, _, _, _, _, rfl⟩
theorem OMd.keep {w w' : World} {d : Nat} {cs : List Value} {m : Md} {fp : List Nat} (h : OMd w d cs m fp) (hk : KeepOn fp w w') : OMd w' d cs m fp := by
  obtain ⟨ev, fv, f1, f2, rfl, rfl, h1, h2, h3⟩ := h
  exact ⟨ev, fv, f1, f2, rfl, rfl, h1, h2.keep (hk.sub (fun a ha => by simp [ha])) (fun cs x f _ hs h => h), h3.keep (hk.sub (fun a ha => by simp [ha])) (fun cs x f _ hs h => h.keep (hk.sub (fun a ha => by simp [hs a ha])))⟩
theorem OMd.tree {w : World} {S : Nat → Prop} {d : Nat} {cs : List Value} {m : Md} {fp : List Nat} (h : OMd w d cs m fp) (hS : ∀ a ∈ fp, S a) : HMd w S d cs m := by
  obtain ⟨ev, fv, f1, f2, rfl, rfl, h1, h2, h3⟩ := h
  exact ⟨ev, fv, rfl, h1, h2.rows (fun a ha => hS a (by simp [ha])) (fun cs x f _ hs h => h.1), h3.rows (fun a ha => hS a (by simp [ha])) (fun cs x f _ hs h => h.tree (fun a ha => hS a (by simp [hs a ha])))⟩
theorem OMd.lt {w : World} {d : Nat} {cs : List Value} {m : Md} {fp : List Nat} (h : OMd w d cs m fp) : ∀ a ∈ fp, a < w.heap.size := by
  obtain ⟨ev, fv, f1, f2, rfl, rfl, h1, h2, h3⟩ := h
  intro a ha
  rcases List.mem_append.1 ha with ha | ha
  · exact h2.lt (fun cs x f h => h.lt) a ha
  · exact h3.lt (fun cs x f h => h.lt) a ha
theorem OMd.shape {w : World} {d : Nat} {cs : List Value} {x : Md} {fp : List Nat} (h : OMd w d cs x fp) : ∃ st p1 n1 q1 p2 n2 q2, cs = [.string st, .slice p1 n1 q1, .slice p2 n2 q2] := by
  obtain ⟨ev, fv, f1, f2, rfl, rfl, h1, h2, h3⟩ := h
  obtain ⟨p1, c1, rfl, _⟩ := h2.shape
  obtain ⟨p2, c2, rfl, _⟩ := h3.shape
  exact ⟨_, _, _, _, _, _, _, rfl⟩
end Go.Proofs.YthieikohcoajbaaDoor
