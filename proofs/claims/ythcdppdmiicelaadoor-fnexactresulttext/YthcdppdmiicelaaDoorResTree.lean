/-
  What a run answers, as the document's chapter 6 has it, as a tree in memory.
-/
import Derived.Test.YthcdppdmiicelaaDoorValTree
namespace Go.Proofs.YthcdppdmiicelaaDoor
open Go.ChangeShapes Go.WideShapes Go.ChangeAt Go.RowKit
set_option linter.unusedVariables false

structure Re where
  code : Int
  why : ByteArray
  val : Va
  out : List Va

/-- Seven cells that are what a run answers. -/
def HRe (w : World) (S : Nat → Prop) (d : Nat) (cs : List Value) (r : Re) : Prop :=
  ∃ sk sn st p1 n1 q1 ov, cs = [.int .i64 r.code, .string r.why, .int .i64 sk, .int .i64 sn, .string st, .slice p1 n1 q1, ov] ∧ okI r.code ∧ okS r.why ∧
    HVa w S d [.int .i64 sk, .int .i64 sn, .string st, .slice p1 n1 q1] r.val ∧ Rows w S 4 (HVa w S d) ov r.out
theorem HRe.mono {w w' : World} {S S' : Nat → Prop} (hs : SameOn S w w') (hS : ∀ g, S g → S' g) {d : Nat} {cs : List Value} {r : Re} (h : HRe w S d cs r) : HRe w' S' d cs r := by
  obtain ⟨sk, sn, st, p1, n1, q1, ov, rfl, h1, h2, h3, h4⟩ := h
  exact ⟨sk, sn, st, p1, n1, q1, ov, rfl, h1, h2, h3.mono hs hS, h4.mono hs hS (fun _ _ _ => HVa.mono hs hS)⟩
theorem HRe.deeper {w : World} {S : Nat → Prop} {d d' : Nat} (hd : d ≤ d') {cs : List Value} {r : Re} (h : HRe w S d cs r) : HRe w S d' cs r := by
  have hs : SameOn S w w := ⟨Nat.le_refl _, fun _ _ _ => rfl⟩
  obtain ⟨sk, sn, st, p1, n1, q1, ov, rfl, h1, h2, h3, h4⟩ := h
  exact ⟨sk, sn, st, p1, n1, q1, ov, rfl, h1, h2, h3.deeper hd, h4.mono hs (fun _ h => h) (fun _ _ _ => HVa.deeper hd)⟩
theorem HRe.shape {w : World} {S : Nat → Prop} {d : Nat} {cs : List Value} {r : Re} (h : HRe w S d cs r) :
    ∃ co wy sk sn st p1 n1 q1 p2 n2 q2, cs = [.int .i64 co, .string wy, .int .i64 sk, .int .i64 sn, .string st, .slice p1 n1 q1, .slice p2 n2 q2] := by
  obtain ⟨sk, sn, st, p1, n1, q1, ov, rfl, h1, h2, h3, p, c, rfl, _⟩ := h
  exact ⟨_, _, _, _, _, _, _, _, _, _, _, rfl⟩
theorem HRe.parts {w : World} {S : Nat → Prop} {d : Nat} {co : Int} {wy st : ByteArray} {sk sn : Int} {p1 : Option Addr} {n1 q1 : Nat} {ov : Value} {r : Re}
    (h : HRe w S d [.int .i64 co, .string wy, .int .i64 sk, .int .i64 sn, .string st, .slice p1 n1 q1, ov] r) :
    co = r.code ∧ wy = r.why ∧ okI r.code ∧ okS r.why ∧ HVa w S d [.int .i64 sk, .int .i64 sn, .string st, .slice p1 n1 q1] r.val ∧ Rows w S 4 (HVa w S d) ov r.out := by
  obtain ⟨sk, sn, st, p1, n1, q1, ov, e, h1, h2, h3, h4⟩ := h
  simp only [List.cons.injEq, Value.int.injEq, Value.string.injEq, Value.slice.injEq, true_and, and_true] at e
  obtain ⟨rfl, rfl, rfl, rfl, rfl, ⟨rfl, rfl, rfl⟩, rfl⟩ := e
  exact ⟨rfl, rfl, h1, h2, h3, h4⟩
theorem HRe.agg {w : World} {S : Nat → Prop} {d : Nat} {v : Value} {m : Re} (h : HRe w S d v.cells.toList m) : ∃ cs : List Value, v = .agg cs.toArray ∧ HRe w S d cs m :=
  ⟨v.cells.toList, agg_of_cells rfl (by obtain ⟨_, _, _, _, _, _, _, _, _, _, _, e⟩ := h.shape; rw [e]; simp), h⟩
theorem len7 {cs : List Value} (h : cs.length = 7) : ∃ a b c d e f g, cs = [a, b, c, d, e, f, g] := by
  match cs, h with
  | [a, b, c, d, e, f, g], _ => exact ⟨a, b, c, d, e, f, g, rfl⟩

/-! What the statement's reader reads. -/
theorem open_re {H : Type} {enc : TypeId × Value → H} {P : Program} {w : World} {base : Nat} {sp : Nat → Bool} {held : Bool} {tV tVs tI tS tR : TypeId} (T : VaTypes P tV tVs tI tS)
    (hR : ∃ fs, P.underlying tR = some (.struct fs) ∧ (fs.toList.map fun f => (f.type, f.offset)) = [(tI, 0), (tS, 1), (tV, 2), (tVs, 6)]) (hcR : P.cellsOf tR = 7)
    {v : Value} {dd : DataW H} {ps : List MemPlace} (h : DataW.Trod enc P w base sp held tR v dd ps) : ∃ d m, HRe w (fun g => g < w.heap.size) d v.cells.toList m := by
  obtain ⟨fuel, h⟩ := h
  cases fuel with
  | zero => simp [DataW.trod] at h
  | succ fuel =>
    obtain ⟨fs, hu, hfs⟩ := hR
    obtain ⟨hl, hat⟩ := open_fields hu hfs h
    rw [hcR] at hl
    obtain ⟨a, b, c, d, e, f, g, hcs⟩ := len7 hl
    rw [hcs] at hat ⊢
    obtain ⟨y0, h0⟩ := hat 0 _ _ rfl
    obtain ⟨y1, h1⟩ := hat 1 _ _ rfl
    obtain ⟨y2, h2⟩ := hat 2 _ _ rfl
    obtain ⟨y3, h3⟩ := hat 3 _ _ rfl
    rw [T.ci] at h0
    rw [T.cS] at h1
    rw [T.cv] at h2
    rw [T.cvs] at h3
    obtain ⟨k, rfl, hk⟩ := open_int1 T.i h0
    obtain ⟨s, rfl, hs⟩ := open_str1 T.s h1
    obtain ⟨x, hx⟩ := open_va1 T (fuel + 1) fuel (by omega) _ _ h2
    obtain ⟨xs, hxs⟩ := open_vas T (n := fuel + 1) (fun k hk => fun cs y hy => by obtain ⟨e, he⟩ := open_va1 T (k + 1) k (by omega) cs y hy; exact ⟨e, he.deeper (by omega)⟩) (by omega) h3
    have hx' : HVa w (fun g => g < w.heap.size) (fuel + 1) [c, d, e, f] x := hx
    obtain ⟨sk, sn, st, p1, n1, q1, e2⟩ := hx'.shape
    simp only [List.cons.injEq, and_true] at e2
    obtain ⟨rfl, rfl, rfl, rfl⟩ := e2
    exact ⟨fuel + 1, ⟨k, s, x, xs⟩, _, _, _, _, _, _, _, rfl, hk, hs, hx', hxs⟩
end Go.Proofs.YthcdppdmiicelaaDoor
