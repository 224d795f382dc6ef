/-
  The specification's l04Sorted: names, ascending, each once.
-/
import Derived.Test.YtgmcjmmdhfbfpaaNameSpecD
import Derived.Deep.RegionLaw
import Derived.Deep.RegionHeldLaw
import Derived.Deep.AppendLies
import Derived.Deep.QuietTactic
import Derived.BigQuiet
namespace Go.Proofs.Ytgmcjmmdhfbfpaa
open Go.ChangeShapes Go.WideShapes Go.ChangeAt Go.RowKit
set_option linter.unusedVariables false
set_option maxRecDepth 100000

theorem step_append_own {P : Program} (w : World) {ops : Array Oper} {o : Oper} {a : Act} {K : Act → World → Prop} {Q : Exit → Act → World → Prop} {E : Prop} (hgd : o.guard = none) (s x : Operand) (t : TypeId)
    (ho : o.op = .call { callee := .builtin .append, args := #[s, x], argTypes := #[t, t] })
    (base : Nat) (e : TypeId) (i : TypeInfo) (z : Value) (size bytes : Nat) (ht : P.underlying t = some (.slice e)) (hi : P.info? e = some i) (hz : i.zero = some z)
    (hsize : i.size = size) (hby : i.bytes = bytes) (hzs : z.cells.size = size) (hsz : 0 < size)
    (v : Value) (n : Nat) (xs : List Value) (hs : a.eval s = v) (hown : w.ownsRow base e size v n xs)
    (ad : Addr) (m c : Nat) (news : List Value) (hx : a.eval x = .slice (some ad) m c) (hl : news.length = m * size) (hnews : ∀ j u, news[j]? = some u → w.cell? (ad.add j) = some u) (h1 : ∀ u ∈ news, u.oneCell' = true)
    (h63 : n + m ≤ maxLen) (hbytes : (n + m) * bytes ≤ 140737488355328) (hbase : base ≤ w.heap.size)
    (h : ∀ v' w', w'.ownsRow base e size v' (n + m) (xs ++ news) → w.grownBy w' v.ownBlock → (v' = .slice none 0 0 ↔ v = .slice none 0 0 ∧ m = 0) → K (a.put o.dst v') w') :
    if Region.wanted o (yielded ops a.tmps) = true then Oper.wp P o a w K Q else E := by
  have hw : Region.wanted o (yielded ops a.tmps) = true := by simp [Region.wanted, hgd]
  rw [if_pos hw]
  exact wp_append_own w s x t ho base e i z size bytes ht hi hz hsize hby hzs hsz v n xs hs hown ad m c news hx hl hnews h1 h63 hbytes hbase h

def ltS (a b : ByteArray) : Bool := Op.bytesLess a.toList b.toList
/-- One more name among ascending ones. -/
def insS : List ByteArray → ByteArray → List ByteArray
  | [], s => [s]
  | x :: xs, s => if ltS x s then x :: insS xs s else if x.toList = s.toList then x :: xs else s :: x :: xs
def sortS (l : List ByteArray) : List ByteArray := l.foldl insS []
theorem insS_at : ∀ (l : List ByteArray) (s : ByteArray) (k : Nat), k ≤ l.length → (∀ j x, j < k → l[j]? = some x → ltS x s = true) → (∀ x, l[k]? = some x → ltS x s = false) →
    insS l s = (match l[k]? with | some x => if x.toList = s.toList then l else l.take k ++ s :: l.drop k | none => l.take k ++ s :: l.drop k)
  | [], s, k, hk, h1, h2 => by
    obtain rfl : k = 0 := by simpa using hk
    rfl
  | x :: xs, s, 0, hk, h1, h2 => by
    have h := h2 x rfl
    simp only [insS, h, Bool.false_eq_true, if_false, List.getElem?_cons_zero]
    split <;> rfl
  | x :: xs, s, k + 1, hk, h1, h2 => by
    have h := h1 0 x (by omega) rfl
    have ih := insS_at xs s k (by simpa using hk) (fun j y hj hy => h1 (j + 1) y (by omega) (by simpa using hy)) (fun y hy => h2 y (by simpa using hy))
    simp only [insS, h, if_true, List.getElem?_cons_succ]
    rw [ih]
    cases hk : xs[k]? with
    | none => rfl
    | some y =>
      simp only
      split <;> rfl
theorem insS_length (l : List ByteArray) (s : ByteArray) : (insS l s).length ≤ l.length + 1 := by
  induction l with
  | nil => simp [insS]
  | cons x xs ih =>
    unfold insS
    split
    · simp only [List.length_cons]; omega
    · split <;> simp
theorem insS_mem (l : List ByteArray) (s : ByteArray) : ∀ y ∈ insS l s, y = s ∨ y ∈ l := by
  induction l with
  | nil => intro y hy; simp [insS] at hy; exact .inl hy
  | cons x xs ih =>
    intro y hy
    unfold insS at hy
    split at hy
    · rcases List.mem_cons.1 hy with rfl | hy
      · exact .inr (by simp)
      · rcases ih y hy with h | h
        · exact .inl h
        · exact .inr (by simp [h])
    · split at hy
      · exact .inr hy
      · rcases List.mem_cons.1 hy with rfl | hy
        · exact .inl rfl
        · exact .inr hy
theorem sortS_snoc (l : List ByteArray) (k : Nat) (s : ByteArray) (h : l[k]? = some s) : sortS (l.take (k + 1)) = insS (sortS (l.take k)) s := by
  unfold sortS; rw [List.take_add_one, h]; simp
theorem sortS_len (l : List ByteArray) : ∀ k, (sortS (l.take k)).length ≤ k := by
  intro k
  induction k with
  | zero => simp [sortS]
  | succ k ih =>
    cases h : l[k]? with
    | none =>
      rw [List.take_of_length_le (by have := List.getElem?_eq_none_iff.1 h; omega)] at *
      omega
    | some s => rw [sortS_snoc l k s h]; have := insS_length (sortS (l.take k)) s; omega
theorem sortS_mem (l : List ByteArray) : ∀ k, ∀ y ∈ sortS (l.take k), y ∈ l := by
  intro k
  induction k with
  | zero => intro y hy; simp [sortS] at hy
  | succ k ih =>
    intro y hy
    cases h : l[k]? with
    | none =>
      refine ih y ?_
      rwa [List.take_of_length_le (by have := List.getElem?_eq_none_iff.1 h; omega), ← List.take_of_length_le (l := l) (i := k) (by have := List.getElem?_eq_none_iff.1 h; omega)] at hy
    | some s =>
      rw [sortS_snoc l k s h] at hy
      rcases insS_mem _ _ y hy with rfl | hy
      · exact List.mem_of_getElem? h
      · exact ih y hy
end Go.Proofs.Ytgmcjmmdhfbfpaa
