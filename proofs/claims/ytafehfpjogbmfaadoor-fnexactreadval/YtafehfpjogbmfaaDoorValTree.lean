/-
  Values, as the document's chapter 3 has them, and names that are bound to them, as trees in memory.
-/
import Derived.Test.YtafehfpjogbmfaaDoorGen
namespace Go.Proofs.YtafehfpjogbmfaaDoor
open Go.ChangeShapes Go.WideShapes Go.ChangeAt Go.RowKit
set_option linter.unusedVariables false

inductive Va where
  | mk (kind n : Int) (text : ByteArray) (kids : List Va)
def Va.kind : Va → Int | .mk k _ _ _ => k
def Va.n : Va → Int | .mk _ n _ _ => n
def Va.text : Va → ByteArray | .mk _ _ t _ => t
def Va.kids : Va → List Va | .mk _ _ _ k => k
theorem Va.eq_iff (a b : Va) : a = b ↔ a.kind = b.kind ∧ a.n = b.n ∧ a.text = b.text ∧ a.kids = b.kids := by
  cases a; cases b; simp [Va.kind, Va.n, Va.text, Va.kids]
structure Bd where
  name : ByteArray
  val : Va

/-- Four cells that are a value, at most d deep, whose kids lie in blocks of S. -/
def HVa (w : World) (S : Nat → Prop) : Nat → List Value → Va → Prop
  | 0, _, _ => False
  | d + 1, cs, e => ∃ kv, cs = [.int .i64 e.kind, .int .i64 e.n, .string e.text, kv] ∧ okI e.kind ∧ okI e.n ∧ okS e.text ∧ Rows w S 4 (HVa w S d) kv e.kids

/-- Five cells: a name and a value. -/
def HBd (w : World) (S : Nat → Prop) (d : Nat) (cs : List Value) (b : Bd) : Prop :=
  ∃ vs, cs = .string b.name :: vs ∧ okS b.name ∧ HVa w S d vs b.val

theorem HVa.mono {w w' : World} {S S' : Nat → Prop} (hs : SameOn S w w') (hS : ∀ g, S g → S' g) : ∀ {d : Nat} {cs : List Value} {e : Va}, HVa w S d cs e → HVa w' S' d cs e
  | 0, _, _, h => h.elim
  | d + 1, cs, e, h => by
    obtain ⟨kv, rfl, h1, h2, h3, hk⟩ := h
    exact ⟨kv, rfl, h1, h2, h3, hk.mono hs hS (fun _ _ _ => HVa.mono hs hS)⟩
theorem HBd.mono {w w' : World} {S S' : Nat → Prop} (hs : SameOn S w w') (hS : ∀ g, S g → S' g) {d : Nat} {cs : List Value} {b : Bd} (h : HBd w S d cs b) : HBd w' S' d cs b := by
  obtain ⟨vs, rfl, h1, h2⟩ := h
  exact ⟨vs, rfl, h1, h2.mono hs hS⟩
theorem HVa.deeper {w : World} {S : Nat → Prop} : ∀ {d d' : Nat} {cs : List Value} {e : Va}, d ≤ d' → HVa w S d cs e → HVa w S d' cs e
  | 0, _, _, _, _, h => h.elim
  | d + 1, 0, _, _, hd, h => by omega
  | d + 1, d' + 1, cs, e, hd, h => by
    have hs : SameOn S w w := ⟨Nat.le_refl _, fun _ _ _ => rfl⟩
    obtain ⟨kv, rfl, h1, h2, h3, hk⟩ := h
    exact ⟨kv, rfl, h1, h2, h3, hk.mono hs (fun _ h => h) (fun _ _ _ => HVa.deeper (by omega))⟩
theorem HBd.deeper {w : World} {S : Nat → Prop} {d d' : Nat} (hd : d ≤ d') {cs : List Value} {b : Bd} (h : HBd w S d cs b) : HBd w S d' cs b := by
  obtain ⟨vs, rfl, h1, h2⟩ := h
  exact ⟨vs, rfl, h1, h2.deeper hd⟩
theorem HVa.shape {w : World} {S : Nat → Prop} {d : Nat} {cs : List Value} {x : Va} (h : HVa w S d cs x) : ∃ sk sn st p1 n1 q1, cs = [.int .i64 sk, .int .i64 sn, .string st, .slice p1 n1 q1] := by
  cases d with
  | zero => exact h.elim
  | succ d =>
    obtain ⟨kv, rfl, _, _, _, ⟨p1, c1, rfl, _⟩⟩ := h
    exact ⟨_, _, _, _, _, _, rfl⟩
theorem HBd.shape {w : World} {S : Nat → Prop} {d : Nat} {cs : List Value} {x : Bd} (h : HBd w S d cs x) : ∃ se sk sn st p1 n1 q1, cs = [.string se, .int .i64 sk, .int .i64 sn, .string st, .slice p1 n1 q1] := by
  obtain ⟨vs, rfl, _, h⟩ := h
  obtain ⟨sk, sn, st, p1, n1, q1, rfl⟩ := h.shape
  exact ⟨_, _, _, _, _, _, _, rfl⟩
theorem HVa.agg {w : World} {S : Nat → Prop} {d : Nat} {v : Value} {m : Va} (h : HVa w S d v.cells.toList m) : ∃ cs : List Value, v = .agg cs.toArray ∧ HVa w S d cs m :=
  ⟨v.cells.toList, agg_of_cells rfl (by obtain ⟨_, _, _, _, _, _, e⟩ := h.shape; rw [e]; simp), h⟩
theorem len4 {cs : List Value} (h : cs.length = 4) : ∃ a b c d, cs = [a, b, c, d] := by
  match cs, h with
  | [a, b, c, d], _ => exact ⟨a, b, c, d, rfl⟩
theorem len5 {cs : List Value} (h : cs.length = 5) : ∃ a b c d e, cs = [a, b, c, d, e] := by
  match cs, h with
  | [a, b, c, d, e], _ => exact ⟨a, b, c, d, e, rfl⟩

/-! What the statement's reader reads. -/
section
variable {H : Type} {enc : TypeId × Value → H} {P : Program} {w : World} {base : Nat} {sp : Nat → Bool} {held : Bool}

/-- The types of values, in a program. -/
structure VaTypes (P : Program) (tV tVs tI tS : TypeId) : Prop where
  v : ∃ fs, P.underlying tV = some (.struct fs) ∧ (fs.toList.map fun f => (f.type, f.offset)) = [(tI, 0), (tI, 1), (tS, 2), (tVs, 3)]
  vs : P.underlying tVs = some (.slice tV)
  i : P.underlying tI = some (.int .i64)
  s : P.underlying tS = some .string
  cv : P.cellsOf tV = 4
  ci : P.cellsOf tI = 1
  cS : P.cellsOf tS = 1
  cvs : P.cellsOf tVs = 1

variable {tV tVs tI tS : TypeId}

theorem open_vas {n : Nat} (T : VaTypes P tV tVs tI tS)
    (ih : ∀ fuel, fuel < n → ∀ cs x, DataW.trod enc P w base sp held fuel tV cs = some x → ∃ e, HVa w (fun g => g < w.heap.size) n cs e) {fuel : Nat} (hf : fuel ≤ n) {v : Value} {x : DataW H × List MemPlace}
    (h : DataW.trod enc P w base sp held fuel tVs [v] = some x) : ∃ es, Rows w (fun g => g < w.heap.size) 4 (HVa w (fun g => g < w.heap.size) n) v es := by
  cases fuel with
  | zero => simp [DataW.trod] at h
  | succ fuel =>
    obtain ⟨v', xs, hv, hr⟩ := open_rows T.vs T.cv (by decide) (ih fuel (by omega)) h
    cases hv
    exact ⟨xs, hr⟩

theorem open_va1 (T : VaTypes P tV tVs tI tS) : ∀ (n fuel : Nat), fuel < n → ∀ cs x, DataW.trod enc P w base sp held fuel tV cs = some x → ∃ e, HVa w (fun g => g < w.heap.size) n cs e := by
  intro n
  induction n with
  | zero => intro fuel hf; omega
  | succ n ihn =>
    intro fuel hf cs x h
    cases fuel with
    | zero => simp [DataW.trod] at h
    | succ fuel =>
      obtain ⟨fs, hu, hfs⟩ := T.v
      obtain ⟨hl, hat⟩ := open_fields hu hfs h
      rw [T.cv] at hl
      obtain ⟨a, b, c, d, rfl⟩ := len4 hl
      obtain ⟨y0, h0⟩ := hat 0 _ _ rfl
      obtain ⟨y1, h1⟩ := hat 1 _ _ rfl
      obtain ⟨y2, h2⟩ := hat 2 _ _ rfl
      obtain ⟨y3, h3⟩ := hat 3 _ _ rfl
      rw [T.ci] at h0 h1
      rw [T.cS] at h2
      rw [T.cvs] at h3
      obtain ⟨k, rfl, hk⟩ := open_int1 T.i h0
      obtain ⟨m, rfl, hm⟩ := open_int1 T.i h1
      obtain ⟨s, rfl, hs⟩ := open_str1 T.s h2
      obtain ⟨ks, hks⟩ := open_vas T ihn (by omega) h3
      exact ⟨.mk k m s ks, d, rfl, hk, hm, hs, hks⟩

theorem open_va (T : VaTypes P tV tVs tI tS) {v : Value} {dd : DataW H} {ps : List MemPlace} (h : DataW.Trod enc P w base sp held tV v dd ps) :
    ∃ d m, HVa w (fun g => g < w.heap.size) d v.cells.toList m := by
  obtain ⟨fuel, h⟩ := h
  obtain ⟨e, he⟩ := open_va1 T (fuel + 1) fuel (by omega) _ _ h
  exact ⟨_, e, he⟩

theorem open_bds (T : VaTypes P tV tVs tI tS) {tB tBs : TypeId} (hB : ∃ fs, P.underlying tB = some (.struct fs) ∧ (fs.toList.map fun f => (f.type, f.offset)) = [(tS, 0), (tV, 1)]) (hcB : P.cellsOf tB = 5)
    (hBs : P.underlying tBs = some (.slice tB)) {v : Value} {dd : DataW H} {ps : List MemPlace} (hc : v.cells.toList = [v]) (h : DataW.Trod enc P w base sp held tBs v dd ps) :
    ∃ d bs, Rows w (fun g => g < w.heap.size) 5 (HBd w (fun g => g < w.heap.size) d) v bs := by
  obtain ⟨fuel, h⟩ := h
  cases fuel with
  | zero => simp [DataW.trod] at h
  | succ fuel =>
    obtain ⟨v', xs, hv, hr⟩ := open_rows (R := HBd w (fun g => g < w.heap.size) fuel) hBs hcB (by decide) (fun cs x hx => by
      cases fuel with
      | zero => simp [DataW.trod] at hx
      | succ fuel =>
        obtain ⟨fs, hu, hfs⟩ := hB
        obtain ⟨hl, hat⟩ := open_fields hu hfs hx
        rw [hcB] at hl
        obtain ⟨a, b, c, d, e, rfl⟩ := len5 hl
        obtain ⟨y0, h0⟩ := hat 0 _ _ rfl
        obtain ⟨y1, h1⟩ := hat 1 _ _ rfl
        rw [T.cS] at h0
        rw [T.cv] at h1
        obtain ⟨s, rfl, hs⟩ := open_str1 T.s h0
        obtain ⟨m, hm⟩ := open_va1 T (fuel + 1) fuel (by omega) _ _ h1
        exact ⟨⟨s, m⟩, _, rfl, hs, hm⟩) h
    rw [hc] at hv
    cases hv
    exact ⟨_, _, hr⟩
end
end Go.Proofs.YtafehfpjogbmfaaDoor
