/-
  What the laws' own eqToken, eqTokenS, markTokenS and heldTokenS do with lists of words that lie in memory.
-/
import Derived.Test.YtijmppcfbdoocaaDoorSpecLex
import Derived.Test.YtijmppcfbdoocaaDoorMark
import Derived.Deep.QuietTactic
import Derived.BigQuiet
import Derived.Deep.RegionWith
import Derived.WalkSmall
namespace Go.Proofs.YtijmppcfbdoocaaDoor
open Go.ChangeShapes Go.WideShapes Go.ChangeAt Go.RowKit
set_option linter.unusedVariables false

set_option maxHeartbeats 1000000 in
theorem eqToken_same (a c d : Int) (x : ByteArray) (w : World) :
    Calls Tryd.prog 27 #[.agg #[.int .i64 a, .string x, .int .i64 c, .int .i64 d], .agg #[.int .i64 a, .string x, .int .i64 c, .int .i64 d]] w fun e w' => e = .returned (.bool true) ∧ Below w.heap.size w w' := by
  go_enter Tryd.func27, Tryd.ntmps27
  go_wp2
  go_ret
  exact ⟨rfl, ((Below.refl _ _).alloc (Nat.le_refl _) _).alloc (by simp) _⟩

/-- Word i of a list of words, in memory. -/
theorem toksC_get (ts : List Tok) (i : Nat) (h : i < ts.length) (j : Nat) (hj : j < 4) : (toksC ts)[i * 4 + j]? = (ts[i]).cells[j]? := by
  induction ts generalizing i with
  | nil => simp at h
  | cons t ts ih =>
    cases i with
    | zero =>
      simp only [toksC, List.flatMap_cons]
      rw [List.getElem?_append_left (by simp [Tok.cells]; omega)]
      simp
    | succ i =>
      simp only [toksC, List.flatMap_cons]
      rw [List.getElem?_append_right (by simp [Tok.cells]; omega)]
      have := ih i (by simpa using h)
      simp only [toksC] at this
      rw [show (i + 1) * 4 + j - t.cells.length = i * 4 + j by simp [Tok.cells]; omega, this]
      simp

theorem own_toks {w : World} {B g n cap : Nat} {e : TypeId} {ts : List Tok} (h : w.ownsRow B e 4 (.slice (some ⟨g, 0, none⟩) n cap) n (toksC ts)) (i : Nat) (hi : i < ts.length) :
    w.cell? ⟨g, i * 4, none⟩ = some (.int .i64 (ts[i]).kind) ∧ w.cell? ⟨g, i * 4 + 1, none⟩ = some (.string ⟨(ts[i]).text.toArray⟩) ∧ w.cell? ⟨g, i * 4 + 2, none⟩ = some (.int .i64 (ts[i]).n) ∧ w.cell? ⟨g, i * 4 + 3, none⟩ = some (.int .i64 (ts[i]).line) := by
  have hn : ts.length = n := by have := h.1; rw [toksC_length] at this; omega
  refine ⟨?_, ?_, ?_, ?_⟩
  · rw [h.cellAt (i * 4) (by omega), show i * 4 = i * 4 + 0 from rfl, toksC_get ts i hi 0 (by omega)]; rfl
  · rw [h.cellAt (i * 4 + 1) (by omega), toksC_get ts i hi 1 (by omega)]; rfl
  · rw [h.cellAt (i * 4 + 2) (by omega), toksC_get ts i hi 2 (by omega)]; rfl
  · rw [h.cellAt (i * 4 + 3) (by omega), toksC_get ts i hi 3 (by omega)]; rfl

set_option maxHeartbeats 2000000 in
theorem eqTokenS_some (g1 g2 c1 c2 B1 B2 n : Nat) (ts : List Tok) (w : World) (hl : n ≤ 4194304) (hn : ts.length = n) (hc1 : n ≤ c1) (hc2 : n ≤ c2)
    (h1 : w.ownsRow B1 33 4 (.slice (some ⟨g1, 0, none⟩) n c1) n (toksC ts)) (h2 : w.ownsRow B2 33 4 (.slice (some ⟨g2, 0, none⟩) n c2) n (toksC ts)) :
    Calls Tryd.prog 11 #[.slice (some ⟨g1, 0, none⟩) n c1, .slice (some ⟨g2, 0, none⟩) n c2] w fun e w' => e = .returned (.bool true) ∧ Below w.heap.size w w' := by
  have H1 : Hid (w.ownsRow B1 33 4 (.slice (some ⟨g1, 0, none⟩) n c1) n (toksC ts)) := h1
  have H2 : Hid (w.ownsRow B2 33 4 (.slice (some ⟨g2, 0, none⟩) n c2) n (toksC ts)) := h2
  have hg1 : g1 < w.heap.size := (h1.lt g1 rfl).2
  have hg2 : g2 < w.heap.size := (h2.lt g2 rfl).2
  have HN : Hid (ts.length = n) := hn
  clear h1 h2 hn
  go_enter Tryd.func11, Tryd.ntmps11
  go_wp2
  go_loopw [5] (fun i wr => ∃ k : Nat, k ≤ n ∧ i = .int .i64 k ∧ Below w.heap.size w wr) (fun i _ => n - (intOf i).toNat)
  case atStart => exact ⟨0, Nat.zero_le _, rfl, Below.refl _ _⟩
  case round =>
    obtain ⟨k, hk, rfl, hb⟩ := hrel
    have HB : Hid (Below w.heap.size w wr) := hb
    by_cases hlt : k < n
    · obtain ⟨a0, a1, a2, a3⟩ := own_toks H1.out k (by rw [HN.out]; exact hlt)
      obtain ⟨b0, b1, b2, b3⟩ := own_toks H2.out k (by rw [HN.out]; exact hlt)
      generalize (ts[k]'(by rw [HN.out]; exact hlt)) = t at a0 a1 a2 a3 b0 b1 b2 b3
      rw [← hb.cell (p := ⟨g1, _, none⟩) hg1] at a0 a1 a2 a3
      rw [← hb.cell (p := ⟨g2, _, none⟩) hg2] at b0 b1 b2 b3
      clear hb
      go_wp2
      go_region_with ((go_at_call 27; refine (eqToken_same _ _ _ _ _).mono ?_; rintro e w1 ⟨rfl, hb1⟩; have HB1 : Hid _ := hb1; clear hb1))
      all_goals go_wp2
      all_goals
        have hbe : Below w.heap.size w w1 := by
          refine Below.trans ?_ (HB1.out.mono (by exact HB.out.size))
          repeat (first | exact HB.out | apply Below.drew)
        exact ⟨⟨k + 1, by omega, by go_num, hbe⟩, by simp [intOf]; omega⟩
    · go_wp2
      go_ret
      exact ⟨rfl, HB.out⟩

theorem markText_of (m : Int) (n : Nat) (hm : m = n) (w : World) (h0 : 1 ≤ n) (h1 : n ≤ 1099511627776) :
    Calls Tryd.prog 28 #[.int .i64 m] w fun e w' => e = .returned (.string ⟨(109 :: Lib.decDigits n).toArray⟩) ∧ Below w.heap.size w w' := by
  subst hm; exact markText_any n w h0 h1

def markTok (k : Nat) : Tok := ⟨k, 109 :: Lib.decDigits (k + 1), (k : Int) + 1 + 1, (k : Int) + 1 + 1 + 1⟩
def markToks (k n : Nat) : List Tok := (List.range n).map fun i => markTok (k + 4 * i)
theorem markToks_length (k n : Nat) : (markToks k n).length = n := by simp [markToks]
theorem toksC_set : ∀ (L : List Tok) (i : Nat), i < L.length → ∀ t : Tok, ((((toksC L).set (i * 4) (.int .i64 t.kind)).set (i * 4 + 1) (.string ⟨t.text.toArray⟩)).set (i * 4 + 2) (.int .i64 t.n)).set (i * 4 + 3) (.int .i64 t.line) = toksC (L.set i t)
  | [], i, h, t => by simp at h
  | x :: L, 0, h, t => by simp [toksC, Tok.cells]
  | x :: L, i + 1, h, t => by
    have ih := toksC_set L i (by simpa using h) t
    simp only [toksC, List.flatMap_cons, List.set_cons_succ] at *
    rw [← ih]
    have e : ∀ j, (i + 1) * 4 + j = x.cells.length + (i * 4 + j) := fun j => by simp [Tok.cells]; omega
    rw [show (i + 1) * 4 = x.cells.length + i * 4 by simp [Tok.cells]; omega, Nat.add_assoc, Nat.add_assoc, Nat.add_assoc]
    simp [List.set_append_right]
theorem markToks_set (k i : Nat) (ts : List Tok) (h : i < ts.length) : (markToks k i ++ ts.drop i).set i (markTok (k + 4 * i)) = markToks k (i + 1) ++ ts.drop (i + 1) := by
  have h1 : (markToks k i).length = i := markToks_length k i
  rw [List.set_append_right _ _ (by omega), h1, Nat.sub_self, List.drop_eq_getElem_cons h, List.set_cons_zero]
  simp [markToks, List.range_succ]
theorem grownBy_transT {a b c : World} {r : Option Nat} (h : a.grownBy b r) (k : b.grownBy c r) : a.grownBy c r :=
  ⟨k.os.trans h.os, k.tape.trans h.tape, k.output.trans h.output, Nat.le_trans h.size k.size, fun j hj hr => (k.block j (Nat.lt_of_lt_of_le hj h.size) hr).trans (h.block j hj hr)⟩
theorem grownBy_belowT {a b : World} {r : Option Nat} (h : Below a.heap.size a b) : a.grownBy b r := ⟨h.os, h.tape, h.output, h.size, fun j hj _ => h.block j hj⟩
theorem below_grownByT {a b : World} {B g : Nat} (h : a.grownBy b (some g)) (hB : B ≤ g) (hs : B ≤ a.heap.size) : Below B a b :=
  ⟨h.os, h.tape, h.output, h.size, fun j hj => h.block j (by omega) (by simp; omega)⟩
theorem own_some {w : World} {B g n cap : Nat} {e : TypeId} {xs : List Value} (h : w.ownsRow B e 4 (.slice (some ⟨g, 0, none⟩) n cap) n xs) (j : Nat) (hj : j < n * 4) : ∃ u, w.cell? ⟨g, j, none⟩ = some u :=
  ⟨_, (h.cellAt j hj).trans (List.getElem?_eq_getElem (by rw [h.1]; exact hj))⟩

/-- What four stores make of a row of words. -/
theorem mark_stored {wr w1 : World} {B g n cap k0 i : Nat} {ts : List Tok} {e : TypeId} {kk : Nat} (ht : ts.length = n) (hi : i < n) (hk : kk = k0 + 4 * i)
    (h : wr.ownsRow B e 4 (.slice (some ⟨g, 0, none⟩) n cap) n (toksC (markToks k0 i ++ ts.drop i)))
    (hb : Below (wr.setCell ⟨g, i * 4, none⟩ (.int .i64 kk)).heap.size (wr.setCell ⟨g, i * 4, none⟩ (.int .i64 kk)) w1) :
    (((w1.setCell ⟨g, i * 4 + 1, none⟩ (.string ⟨(109 :: Lib.decDigits (kk + 1)).toArray⟩)).setCell ⟨g, i * 4 + 2, none⟩ (.int .i64 ((kk : Int) + 1 + 1))).setCell ⟨g, i * 4 + 3, none⟩ (.int .i64 ((kk : Int) + 1 + 1 + 1))).ownsRow B e 4 (.slice (some ⟨g, 0, none⟩) n cap) n (toksC (markToks k0 (i + 1) ++ ts.drop (i + 1))) ∧
    wr.grownBy (((w1.setCell ⟨g, i * 4 + 1, none⟩ (.string ⟨(109 :: Lib.decDigits (kk + 1)).toArray⟩)).setCell ⟨g, i * 4 + 2, none⟩ (.int .i64 ((kk : Int) + 1 + 1))).setCell ⟨g, i * 4 + 3, none⟩ (.int .i64 ((kk : Int) + 1 + 1 + 1))) (some g) := by
  have s0 := h.stored (i * 4) (.int .i64 kk)
  have s0' := s0.1.kept (grownBy_belowT (r := none) hb) (Or.inr (by simp [Value.ownBlock]))
  have s1 := s0'.stored (i * 4 + 1) (.string ⟨(109 :: Lib.decDigits (kk + 1)).toArray⟩)
  have s2 := s1.1.stored (i * 4 + 2) (.int .i64 ((kk : Int) + 1 + 1))
  have s3 := s2.1.stored (i * 4 + 3) (.int .i64 ((kk : Int) + 1 + 1 + 1))
  refine ⟨?_, grownBy_transT s0.2 (grownBy_transT (grownBy_belowT hb) (grownBy_transT s1.2 (grownBy_transT s2.2 s3.2)))⟩
  have hs := s3.1
  have e := toksC_set (markToks k0 i ++ ts.drop i) i (by rw [List.length_append, markToks_length, List.length_drop]; omega) (markTok kk)
  rw [hk, markToks_set k0 i ts (by omega), ← hk] at e
  rw [← e]; exact hs

set_option maxHeartbeats 2000000 in
theorem markTokenS_own (B g n cap k0 : Nat) (ts : List Tok) (w : World) (hn : n ≤ 4194304) (ht : ts.length = n) (hk : 1 ≤ k0) (hk' : k0 ≤ 4194304) (h : w.ownsRow B 33 4 (.slice (some ⟨g, 0, none⟩) n cap) n (toksC ts)) :
    Calls Tryd.prog 12 #[.slice (some ⟨g, 0, none⟩) n cap, .int .i64 k0] w fun e w' => e = .returned (.int .i64 ((k0 + 4 * n : Nat) : Int)) ∧ w'.ownsRow B 33 4 (.slice (some ⟨g, 0, none⟩) n cap) n (toksC (markToks k0 n)) ∧ w.grownBy w' (some g) := by
  have hcap : n ≤ cap := by
    rcases h.2 with ⟨hv, _⟩ | ⟨g', cap', cur, hv, _, _, hc, _⟩
    · cases hv
    · cases hv; exact hc
  have H : Hid (w.ownsRow B 33 4 (.slice (some ⟨g, 0, none⟩) n cap) n (toksC ts)) := h
  have HT : Hid (ts.length = n) := ht
  clear h ht
  go_enter Tryd.func12, Tryd.ntmps12
  go_wp2
  go_loopw [1, 5] (fun kv iv wr => ∃ i kk : Nat, i ≤ n ∧ iv = .int .i64 i ∧ kv = .int .i64 kk ∧ Hid (kk = k0 + 4 * i) ∧ wr.ownsRow B 33 4 (.slice (some ⟨g, 0, none⟩) n cap) n (toksC (markToks k0 i ++ ts.drop i)) ∧ w.grownBy wr (some g)) (fun _ iv _ => n - (intOf iv).toNat)
  case atStart => exact ⟨0, k0, Nat.zero_le _, rfl, rfl, rfl, by simpa [markToks] using H.out, World.grownBy.refl _ _⟩
  case round =>
    obtain ⟨i, kk, hi, rfl, rfl, hkk, hown, hgr⟩ := hrel
    have hkb : 1 ≤ kk ∧ kk ≤ 33554432 := by have := hkk.out; omega
    have HO : Hid (wr.ownsRow B 33 4 (.slice (some ⟨g, 0, none⟩) n cap) n (toksC (markToks k0 i ++ ts.drop i))) := hown
    have HG : Hid (w.grownBy wr (some g)) := hgr
    clear hown hgr
    by_cases hlt : i < n
    · have f0 := HO.out.frozenAt (i * 4)
      obtain ⟨u0, c0⟩ := own_some HO.out (i * 4) (by omega)
      go_wp2_with fail
      refine (markText_of _ (kk + 1) (by omega) _ (by omega) (by omega)).mono ?_
      rintro e w1 ⟨rfl, hb1⟩
      have st := mark_stored HT.out hlt hkk.out HO.out hb1
      have HST : Hid _ := st
      have o1 := (HO.out.stored (i * 4) (.int .i64 kk)).1.kept (grownBy_belowT (r := none) hb1) (Or.inr (by simp [Value.ownBlock]))
      have f1 := o1.frozenAt (i * 4 + 1)
      have f2 := o1.frozenAt (i * 4 + 2)
      have f3 := o1.frozenAt (i * 4 + 3)
      obtain ⟨u1, c1⟩ := own_some o1 (i * 4 + 1) (by omega)
      obtain ⟨u2, c2⟩ := own_some o1 (i * 4 + 2) (by omega)
      obtain ⟨u3, c3⟩ := own_some o1 (i * 4 + 3) (by omega)
      clear st o1 hb1 f0 c0
      go_wp2
      refine ⟨⟨i + 1, kk + 4, by omega, by go_num, by go_num, (by have := hkk.out; show kk + 4 = k0 + 4 * (i + 1); omega), HST.out.1, grownBy_transT HG.out HST.out.2⟩, by simp [intOf]; omega⟩
    · have e2 : markToks k0 i ++ ts.drop i = markToks k0 n := by
        obtain rfl : i = n := by omega
        rw [List.drop_eq_nil_of_le (by rw [HT.out]; omega), List.append_nil]
      have HO' := HO.out
      rw [e2] at HO'
      have HO2 : Hid (wr.ownsRow B 33 4 (.slice (some ⟨g, 0, none⟩) n cap) n (toksC (markToks k0 n))) := HO'
      have HK : Hid (kk = k0 + 4 * n) := by have := hkk.out; show kk = k0 + 4 * n; omega
      clear HO' e2
      go_wp2
      go_ret
      exact ⟨by rw [HK.out]; rfl, HO2.out, HG.out⟩
end Go.Proofs.YtijmppcfbdoocaaDoor
