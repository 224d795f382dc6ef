/-
  Texts of the proof, packed: DrawN, DrawY, FirstN, AtomOk.
-/
import Derived.Test.YtmnghlkkfkpjhaaGreatDoorPackK
import Derived.Test.YtmnghlkkfkpjhaaGreatDoorPackE
import Derived.ArgAppend
import Derived.Test.YtmnghlkkfkpjhaaGreatDoorPackC
/-
  The specification's l03Any and DrawValOk.
-/
namespace Go.Proofs.YtmnghlkkfkpjhaaGreatDoor
open Go.ChangeShapes Go.WideShapes Go.ChangeAt Go.RowKit
set_option linter.unusedVariables false
set_option maxRecDepth 100000

/-- Within l03Any: v's box and the answer's, and the value that v holds, in new memory beside them. -/
structure AnyS (w : World) (p vb : Nat) (V : World) (a b : Int) (s : ByteArray) (pk : Option Addr) (nk ck : Nat) : Prop where
  vB : Blk V vb #[.int .i64 a, .int .i64 b, .string s, .slice pk nk ck] 26
  rB : Blk V w.heap.size #[.int .i64 0, .int .i64 0, .string ⟨#[]⟩, .slice none 0 0] 26
  tr : ∃ d x, HVa V (fun g => w.heap.size + 1 ≤ g ∧ g ≠ vb) d [.int .i64 a, .int .i64 b, .string s, .slice pk nk ck] x
  cu : Cur V p
  off : Off [p] w V
  lv : w.heap.size + 1 ≤ vb
theorem any_end {w V : World} {p vb : Nat} {a b : Int} {s : ByteArray} {pk : Option Addr} {nk ck : Nat} (h : AnyS w p vb V a b s pk nk ck) (hp : p < w.heap.size) :
    ∃ d x, HVa ((((V.setCell ⟨w.heap.size, 0, none⟩ (.int .i64 a)).setCell ⟨w.heap.size, 1, none⟩ (.int .i64 b)).setCell ⟨w.heap.size, 2, none⟩ (.string s)).setCell ⟨w.heap.size, 3, none⟩ (.slice pk nk ck)) (fun g => w.heap.size ≤ g) d [.int .i64 a, .int .i64 b, .string s, .slice pk nk ck] x ∧ Cur ((((V.setCell ⟨w.heap.size, 0, none⟩ (.int .i64 a)).setCell ⟨w.heap.size, 1, none⟩ (.int .i64 b)).setCell ⟨w.heap.size, 2, none⟩ (.string s)).setCell ⟨w.heap.size, 3, none⟩ (.slice pk nk ck)) p ∧ Off [p] w ((((V.setCell ⟨w.heap.size, 0, none⟩ (.int .i64 a)).setCell ⟨w.heap.size, 1, none⟩ (.int .i64 b)).setCell ⟨w.heap.size, 2, none⟩ (.string s)).setCell ⟨w.heap.size, 3, none⟩ (.slice pk nk ck)) := by
  obtain ⟨d, x, hx⟩ := h.tr
  have hb : Below w.heap.size V ((((V.setCell ⟨w.heap.size, 0, none⟩ (.int .i64 a)).setCell ⟨w.heap.size, 1, none⟩ (.int .i64 b)).setCell ⟨w.heap.size, 2, none⟩ (.string s)).setCell ⟨w.heap.size, 3, none⟩ (.slice pk nk ck)) := below_set4 (Below.refl _ _) (Nat.le_refl _)
  refine ⟨d, x, hx.mono ?_ (fun g hg => by have := hg.1; show _ ≤ g; omega), h.cu.low (hb.mono (by omega)), h.off.under (Nat.le_refl _) hb⟩
  exact SameOn.setCell (SameOn.setCell (SameOn.setCell (SameOn.setCell (SameOn.of_below (Below.refl _ _)) (by show ¬ (w.heap.size + 1 ≤ w.heap.size ∧ _); omega) _) (by show ¬ (w.heap.size + 1 ≤ w.heap.size ∧ _); omega) _) (by show ¬ (w.heap.size + 1 ≤ w.heap.size ∧ _); omega) _) (by show ¬ (w.heap.size + 1 ≤ w.heap.size ∧ _); omega) _
theorem HVa.head {w : World} {S : Nat → Prop} {d : Nat} {a b a' b' : Int} {s s' : ByteArray} {kv : Value} {x : Va} (h : HVa w S d [.int .i64 a, .int .i64 b, .string s, kv] x) (ha : okI a') (hb : okI b') (hs : okS s') : ∃ x', HVa w S d [.int .i64 a', .int .i64 b', .string s', kv] x' := by
  cases d with
  | zero => exact h.elim
  | succ d =>
    obtain ⟨kv', e, h1, h2, h3, hr⟩ := h
    injection e with e1 e2; injection e2 with e2 e3; injection e3 with e3 e4; injection e4 with e4 _
    subst e4
    exact ⟨.mk a' b' s' x.kids, _, rfl, ha, hb, hs, hr⟩
theorem AnyS.next {w V V' : World} {p vb : Nat} {a b : Int} {s : ByteArray} {pk : Option Addr} {nk ck : Nat} (h : AnyS w p vb V a b s pk nk ck) (ho : Off [p] V V') (hc : Cur V' p) (hp : p < w.heap.size) : AnyS w p vb V' a b s pk nk ck := by
  obtain ⟨d, x, hx⟩ := h.tr
  have hl := h.lv
  refine ⟨(ho.block vb h.vB.lt (by simp; omega)).trans h.vB, (ho.block _ h.rB.lt (by simp; omega)).trans h.rB, ⟨d, x, hx.mono ⟨ho.size, fun g hg hgl => ho.block g hgl (by simp; have := hg.1; omega)⟩ (fun _ h => h)⟩, hc, h.off.trans ho, hl⟩
theorem AnyS.put {w V : World} {p vb j : Nat} {a b a' b' : Int} {s s' : ByteArray} {pk : Option Addr} {nk ck : Nat} {v : Value} (h : AnyS w p vb V a b s pk nk ck) (hp : p < w.heap.size) (ha : okI a') (hb : okI b') (hs : okS s')
    (hv : (#[.int .i64 a, .int .i64 b, .string s, .slice pk nk ck] : Array Value).setIfInBounds j v = #[.int .i64 a', .int .i64 b', .string s', .slice pk nk ck]) : AnyS w p vb (V.setCell ⟨vb, j, none⟩ v) a' b' s' pk nk ck := by
  obtain ⟨d, x, hx⟩ := h.tr
  have hl := h.lv
  obtain ⟨x', hx'⟩ := hx.head ha hb hs
  have bs : Below vb V (V.setCell ⟨vb, j, none⟩ v) := (Below.refl vb V).setCell (p := ⟨vb, j, none⟩) (Nat.le_refl vb) _
  exact ⟨h.vB.same hv, h.rB.other (by show _ ≠ vb; omega), ⟨d, x', hx'.mono (SameOn.setCell (SameOn.of_below (Below.refl _ _)) (by show ¬ (w.heap.size + 1 ≤ vb ∧ vb ≠ vb); omega) _) (fun _ h => h)⟩, h.cu.low (bs.mono (by omega)), h.off.under (by omega) bs, hl⟩

theorem AnyS.wrap {w V : World} {p vb : Nat} {a b : Int} {s : ByteArray} {pk : Option Addr} {nk ck : Nat} (h : AnyS w p vb V a b s pk nk ck) (hp : p < w.heap.size) : AnyS w p vb (((((V.alloc (.cells #[.int .i64 a, .int .i64 b, .string s, .slice pk nk ck] 26)).setCell ⟨vb, 0, none⟩ (.int .i64 2)).setCell ⟨vb, 1, none⟩ (.int .i64 0)).setCell ⟨vb, 2, none⟩ (.string ⟨#[]⟩)).setCell ⟨vb, 3, none⟩ (.slice (some ⟨V.heap.size, 0, none⟩) 1 1)) 2 0 ⟨#[]⟩ (some ⟨V.heap.size, 0, none⟩) 1 1 := by
  obtain ⟨d, x, hx⟩ := h.tr
  have hl := h.lv
  have hvl := h.vB.lt
  have hal : Below V.heap.size V (V.alloc (.cells #[.int .i64 a, .int .i64 b, .string s, .slice pk nk ck] 26)) := (Below.refl _ _).alloc (Nat.le_refl _) _
  have bs : Below vb (V.alloc (.cells #[.int .i64 a, .int .i64 b, .string s, .slice pk nk ck] 26)) (((((V.alloc (.cells #[.int .i64 a, .int .i64 b, .string s, .slice pk nk ck] 26)).setCell ⟨vb, 0, none⟩ (.int .i64 2)).setCell ⟨vb, 1, none⟩ (.int .i64 0)).setCell ⟨vb, 2, none⟩ (.string ⟨#[]⟩)).setCell ⟨vb, 3, none⟩ (.slice (some ⟨V.heap.size, 0, none⟩) 1 1)) := below_set4 (Below.refl _ _) (Nat.le_refl _)
  have hs2 : SameOn (fun g => w.heap.size + 1 ≤ g ∧ g ≠ vb) (V.alloc (.cells #[.int .i64 a, .int .i64 b, .string s, .slice pk nk ck] 26)) (((((V.alloc (.cells #[.int .i64 a, .int .i64 b, .string s, .slice pk nk ck] 26)).setCell ⟨vb, 0, none⟩ (.int .i64 2)).setCell ⟨vb, 1, none⟩ (.int .i64 0)).setCell ⟨vb, 2, none⟩ (.string ⟨#[]⟩)).setCell ⟨vb, 3, none⟩ (.slice (some ⟨V.heap.size, 0, none⟩) 1 1)) := SameOn.setCell (SameOn.setCell (SameOn.setCell (SameOn.setCell (SameOn.of_below (Below.refl _ _)) (by show ¬ (w.heap.size + 1 ≤ vb ∧ vb ≠ vb); omega) _) (by show ¬ (w.heap.size + 1 ≤ vb ∧ vb ≠ vb); omega) _) (by show ¬ (w.heap.size + 1 ≤ vb ∧ vb ≠ vb); omega) _) (by show ¬ (w.heap.size + 1 ≤ vb ∧ vb ≠ vb); omega) _
  have hT : HVa (V.alloc (.cells #[.int .i64 a, .int .i64 b, .string s, .slice pk nk ck] 26)) (fun g => w.heap.size + 1 ≤ g ∧ g ≠ vb) (d + 1) [.int .i64 2, .int .i64 0, .string ⟨#[]⟩, .slice (some ⟨V.heap.size, 0, none⟩) 1 1] (.mk 2 0 ⟨#[]⟩ [x]) := by
    refine ⟨_, rfl, okI_of (show (-100 : Int) ≤ 2 by decide) (show (2 : Int) ≤ 100 by decide), okI_zero, Nat.zero_le _, _, _, rfl, Nat.le_refl _, by show 1 ≤ maxLen; unfold maxLen; omega, fun _ => ⟨V.heap.size, 0, rfl, ⟨by omega, by omega⟩, by rw [alloc_hs]; omega, fun i y hi => ?_⟩⟩
    have hi : ([x] : List Va)[i]? = some y := hi
    match i, hi with
    | 0, hi =>
      obtain rfl : x = y := by simpa using hi
      refine ⟨_, rfl, fun j hj => ?_, hx.mono (SameOn.of_below hal) (fun _ h => h)⟩
      rw [show 0 + 0 * 4 + j = j by omega]
      have bl := Blk.new (w := V) (cs := #[.int .i64 a, .int .i64 b, .string s, .slice pk nk ck]) (t := 26)
      rcases (by omega : j = 0 ∨ j = 1 ∨ j = 2 ∨ j = 3) with rfl | rfl | rfl | rfl
      · exact bl.cell 0 _ rfl
      · exact bl.cell 1 _ rfl
      · exact bl.cell 2 _ rfl
      · exact bl.cell 3 _ rfl
    | j + 1, hi => simp at hi
  have b1 := h.vB.next hal
  exact ⟨(((b1.same (j := 0) rfl).same (j := 1) rfl).same (j := 2) rfl).same (j := 3) rfl, blk_set4 (h.rB.next hal) (by show _ ≠ vb; omega), ⟨d + 1, _, hT.mono hs2 (fun _ h => h)⟩, (h.cu.next hal).low (bs.mono (by omega)), (h.off.trans (Off.of_below hal)).under (by omega) bs, hl⟩

theorem CellsR.rowsS {α : Type} {c : Nat} {R : List Value → α → Prop} {cells : List Value} {l : List α} {w : World} {B : Nat} {e : TypeId} {v : Value} {n : Nat} {S : Nat → Prop} (h : w.ownsRow B e c v n cells) (k : CellsR c R cells l) (hn : n = l.length) (hS : ∀ g, B ≤ g → S g) : Rows w S c R v l := by
  subst hn
  have hl := k.1
  rcases h.2 with ⟨rfl, hz⟩ | ⟨g, cap, cur, rfl, hB, hg, h1, h2, h3, h4⟩
  · obtain rfl := List.length_eq_zero_iff.1 hz
    exact Rows.nil (Nat.zero_le _)
  · refine ⟨_, cap, rfl, h1, h2, fun hne => ⟨g, 0, rfl, hS g hB, (Array.getElem?_eq_some_iff.1 hg).1, fun i x hi => ?_⟩⟩
    obtain ⟨cs, k1, k2, k3⟩ := k.2 i x hi
    refine ⟨cs, k1, fun j hj => ?_, k3⟩
    have hil := (List.getElem?_eq_some_iff.1 hi).1
    have hlt : i * c + j < l.length * c := by
      have : (i + 1) * c ≤ l.length * c := Nat.mul_le_mul_right _ hil
      rw [Nat.add_mul] at this
      omega
    rw [← k2 j hj, Nat.zero_add]
    exact h.cellAt _ hlt
theorem cell_nextA {w w' : World} {a : Addr} {u : Value} (hb : Below w.heap.size w w') (h : w.cell? a = some u) : w'.cell? a = some u := by
  by_cases hl : a.block < w.heap.size
  · exact (hb.cell hl).trans h
  · exfalso
    have hn : w.heap[a.block]? = none := by simp; omega
    unfold World.cell? at h
    rw [hn] at h
    simp at h
theorem add_cells {w : World} {g : Nat} {t : TypeId} (h : Blk w g #[.int .i64 0, .int .i64 1, .string ⟨#[]⟩, .slice none 0 0] t) : ∀ (j : Nat) (u : Value), ([.int .i64 0, .int .i64 1, .string ⟨#[]⟩, .slice none 0 0] : List Value)[j]? = some u → w.cell? ((⟨g, 0, none⟩ : Addr).add j) = some u := fun j u hj => by
  have := h.cell j u (by simpa using hj)
  rw [← this]
  unfold Addr.add
  by_cases h0 : j = 0
  · simp [h0]
  · simp [h0]
theorem one_cells : ∀ u ∈ ([.int .i64 0, .int .i64 1, .string ⟨#[]⟩, .slice none 0 0] : List Value), u.oneCell' = true := by
  intro u hu
  simp at hu
  rcases hu with rfl | rfl | rfl | rfl <;> rfl
theorem AnyS.grow {w V : World} {p vb : Nat} {a b : Int} {s : ByteArray} {pk : Option Addr} {nk : Nat} (h : AnyS w p vb V a b s pk nk nk) (hp : p < w.heap.size) :
    ∃ olds : List Value, olds.length = nk * 4 ∧ (∀ bb, pk = some bb → ∀ j u, olds[j]? = some u → V.cell? (bb.add j) = some u) ∧ (pk = none → nk = 0) ∧
      ∀ (V1 V' : World) (v' : Value), Below V.heap.size V V1 → V'.ownsRow V1.heap.size 26 4 v' (nk + 1) (olds ++ [.int .i64 0, .int .i64 1, .string ⟨#[]⟩, .slice none 0 0]) → V1.grownBy V' none →
        ∃ g cap, v' = .slice (some ⟨g, 0, none⟩) (nk + 1) cap ∧ Blk V' vb #[.int .i64 a, .int .i64 b, .string s, .slice pk nk nk] 26 ∧ AnyS w p vb (V'.setCell ⟨vb, 3, none⟩ v') a b s (some ⟨g, 0, none⟩) (nk + 1) cap := by
  obtain ⟨d, x, hx⟩ := h.tr
  have hl := h.lv
  have hvl := h.vB.lt
  cases d with
  | zero => exact hx.elim
  | succ d =>
  obtain ⟨kv, e, h1, h2, h3, hr⟩ := hx
  injection e with e1 e2; injection e2 with e2 e3; injection e3 with e3 e4; injection e4 with e4 _
  injection e1 with _ e1
  injection e2 with _ e2
  injection e3 with e3
  subst e4
  have hnk : nk = x.kids.length := by obtain ⟨_, _, e5, _⟩ := hr; injection e5
  have key : ∃ olds : List Value, CellsR 4 (HVa V (fun g => w.heap.size + 1 ≤ g ∧ g ≠ vb) d) olds x.kids ∧ ∀ bb, pk = some bb → ∀ j u, olds[j]? = some u → V.cell? (bb.add j) = some u := by
    cases pk with
    | none =>
      have hz : x.kids = [] := by
        refine Classical.byContradiction fun hne => ?_
        obtain ⟨_, _, e5, _, _, hh⟩ := hr
        injection e5 with e5 _ _
        obtain ⟨g, off, e6, _⟩ := hh hne
        rw [← e5] at e6
        cases e6
      exact ⟨[], by rw [hz]; exact CellsR.nil, fun bb hb => by cases hb⟩
    | some ad =>
      obtain ⟨-, cells, c1, c2⟩ := rowsCellsR (by decide) hr
      exact ⟨cells, c1, fun bb hb => by cases hb; exact c2⟩
  obtain ⟨olds, c1, c2⟩ := key
  refine ⟨olds, by rw [c1.1, hnk], c2, fun e => ?_, fun V1 V' v' hb hown hgr => ?_⟩
  · refine Classical.byContradiction fun hne => ?_
    obtain ⟨_, _, e5, _, _, hh⟩ := hr
    injection e5 with e5 _ _
    obtain ⟨g, off, e6, _⟩ := hh (fun hz => hne (by rw [hnk, hz]; rfl))
    rw [← e5, e] at e6
    cases e6
  · have hgb : Below V1.heap.size V1 V' := ⟨hgr.os, hgr.tape, hgr.output, hgr.size, fun j hj => hgr.block j hj (by simp)⟩
    have hVV : Below V.heap.size V V' := hb.trans (hgb.mono hb.size)
    have hvB : Blk V' vb #[.int .i64 a, .int .i64 b, .string s, .slice pk nk nk] 26 := h.vB.next hVV
    rcases hown.2 with ⟨rfl, hz⟩ | ⟨g, cap, cur, hv', hB, hg, g1, g2, g3, g4⟩
    · exact absurd hz (by omega)
    subst hv'
    refine ⟨g, cap, rfl, hvB, ?_⟩
    have hs1 : SameOn (fun g => w.heap.size + 1 ≤ g ∧ g ≠ vb) V V' := SameOn.of_below hVV
    have hc : CellsR 4 (HVa V' (fun g => w.heap.size + 1 ≤ g ∧ g ≠ vb) (d + 1)) (olds ++ [.int .i64 0, .int .i64 1, .string ⟨#[]⟩, .slice none 0 0]) (x.kids ++ [.mk 0 1 ⟨#[]⟩ []]) :=
      (c1.mono (fun cs y _ hy => (hy.deeper (Nat.le_succ d)).mono hs1 (fun _ h => h))).append (CellsR.one rfl ⟨_, rfl, okI_zero, okI_of (by decide) (by decide), Nat.zero_le _, Rows.nil (Nat.zero_le _)⟩)
    have hrow : Rows V' (fun g => w.heap.size + 1 ≤ g ∧ g ≠ vb) 4 (HVa V' (fun g => w.heap.size + 1 ≤ g ∧ g ≠ vb) (d + 1)) (.slice (some ⟨g, 0, none⟩) (nk + 1) cap) (x.kids ++ [.mk 0 1 ⟨#[]⟩ []]) :=
      CellsR.rowsS hown hc (by rw [hnk]; simp) (fun g hg => ⟨by have := hb.size; omega, by have := hb.size; omega⟩)
    have bs : Below vb V' (V'.setCell ⟨vb, 3, none⟩ (.slice (some ⟨g, 0, none⟩) (nk + 1) cap)) := (Below.refl vb V').setCell (p := ⟨vb, 3, none⟩) (Nat.le_refl vb) _
    have hs2 : SameOn (fun g => w.heap.size + 1 ≤ g ∧ g ≠ vb) V' (V'.setCell ⟨vb, 3, none⟩ (.slice (some ⟨g, 0, none⟩) (nk + 1) cap)) := SameOn.setCell (SameOn.of_below (Below.refl _ _)) (by show ¬ (w.heap.size + 1 ≤ vb ∧ vb ≠ vb); omega) _
    have hT : HVa V' (fun g => w.heap.size + 1 ≤ g ∧ g ≠ vb) (d + 2) [.int .i64 a, .int .i64 b, .string s, .slice (some ⟨g, 0, none⟩) (nk + 1) cap] (.mk a b s (x.kids ++ [.mk 0 1 ⟨#[]⟩ []])) := ⟨_, rfl, by rw [e1]; exact h1, by rw [e2]; exact h2, by rw [e3]; exact h3, hrow⟩
    exact ⟨hvB.same rfl, (h.rB.next hVV).other (by show _ ≠ vb; omega), ⟨d + 2, _, hT.mono hs2 (fun _ h => h)⟩, (h.cu.next hVV).low (bs.mono (by omega)), (h.off.trans (Off.of_below hVV)).under (by omega) bs, hl⟩

set_option maxHeartbeats 8000000 in
theorem l03Any_any (p : Nat) (w : World) (hc : Cur w p) : Calls Tryz.prog 48 #[.pointer (some ⟨p, 0, none⟩)] w fun e w' =>
    ∃ a b s pk nk ck d x, e = .returned (.agg #[.int .i64 a, .int .i64 b, .string s, .slice pk nk ck]) ∧ HVa w' (fun g => w.heap.size ≤ g) d [.int .i64 a, .int .i64 b, .string s, .slice pk nk ck] x ∧ Cur w' p ∧ Off [p] w w' := by
  have HP : Hid (p < w.heap.size) := hc.lt
  obtain ⟨W0, hW0⟩ : ∃ W0, W0 = w.alloc (.cells #[.int .i64 0, .int .i64 0, .string ⟨#[]⟩, .slice none 0 0] 26) := ⟨_, rfl⟩
  have hal0 : Below w.heap.size w W0 := by rw [hW0]; exact (Below.refl _ _).alloc (Nat.le_refl _) _
  have C0 : Hid (Cur W0 p) := hc.next hal0
  have O0 : Hid (Off [p] w W0) := Off.of_below hal0
  have r0 : Hid (Blk W0 w.heap.size #[.int .i64 0, .int .i64 0, .string ⟨#[]⟩, .slice none 0 0] 26) := by show Blk _ _ _ _; rw [hW0]; exact Blk.new
  have HS0 : Hid (W0.heap.size = w.heap.size + 1) := by show _ = _; rw [hW0, alloc_hs]
  have HW0 : Hid (W0 = w.alloc (.cells #[.int .i64 0, .int .i64 0, .string ⟨#[]⟩, .slice none 0 0] 26)) := hW0
  clear hc hW0 hal0
  go_enter Tryz.func48, Tryz.ntmps48
  go_wp2_with fail
  rw [← HW0.out]
  refine (l03Val_all 3 (by decide) p _ C0.out).mono ?_
  rintro e w1 ⟨sk, sn, st, pk, nk, x, rfl, hT, hc1, ho1⟩
  obtain ⟨W2, hW2⟩ : ∃ W2, W2 = w1.alloc (.cells #[.int .i64 sk, .int .i64 sn, .string st, .slice pk nk nk] 26) := ⟨_, rfl⟩
  have hal2 : Below w1.heap.size w1 W2 := by rw [hW2]; exact (Below.refl _ _).alloc (Nat.le_refl _) _
  have HX : Hid (okI sk ∧ okI sn ∧ okS st ∧ nk ≤ 2 ∧ ∃ xs : List Va, xs.length = nk) := by
    obtain ⟨kv, e, h1, h2, h3, hr⟩ := hT.1
    injection e with e1 e2; injection e2 with e2 e3; injection e3 with e3 e4; injection e4 with e4 _
    injection e1 with _ e1
    injection e2 with _ e2
    injection e3 with e3
    subst e1 e2 e3 e4
    obtain ⟨_, _, e5, _⟩ := hr
    injection e5 with _ e5 _
    exact ⟨h1, h2, h3, by have := hT.2.2.2.2.1; omega, x.kids, e5.symm⟩
  have A2 : Hid (AnyS w p w1.heap.size W2 sk sn st pk nk nk) := by
    have hs := ho1.size
    have h0 := HS0.out
    refine ⟨by rw [hW2]; exact Blk.new, Blk.next ((ho1.block _ r0.out.lt (by simp; have := HP.out; omega)).trans r0.out) hal2, ⟨4, x, (HVa.lowT hT.1).mono (SameOn.of_below hal2) (fun g hg => ⟨by have := hg.1; omega, by have := hg.2; omega⟩)⟩, hc1.next hal2, (O0.out.trans ho1).trans (Off.of_below hal2), by omega⟩
  have HW2 : Hid (W2 = w1.alloc (.cells #[.int .i64 sk, .int .i64 sn, .string st, .slice pk nk nk] 26)) := hW2
  generalize hvb : w1.heap.size = vb at *
  clear hT hc1 ho1 hW2 hal2 C0 O0 r0
  go_wp2_with fail
  rw [show (w1.alloc (.cells #[.int .i64 sk, .int .i64 sn, .string st, .slice pk nk nk] 26)) = W2 from HW2.out.symm]
  clear HW2 HW0 HS0
  refine (l01Below_any p 14 _ A2.out.cu (by decide) (by decide)).mono ?_
  rintro e w3 ⟨kk, hkk, rfl, hc3, ho3⟩
  have A3 : Hid (AnyS w p vb w3 sk sn st pk nk nk) := A2.out.next ho3 hc3 HP.out
  clear hc3 ho3 A2
  rcases (by omega : kk = 0 ∨ kk = 1 ∨ kk = 2 ∨ kk = 3 ∨ 4 ≤ kk) with rfl | rfl | rfl | rfl | h4
  · skip
    go_wp2_with fail
    refine (l01Below_any p 7 _ A3.out.cu (by decide) (by decide)).mono ?_
    rintro e w4 ⟨k2, hk2, rfl, hc4, ho4⟩
    have A4 : Hid (AnyS w p vb w4 sk sn st pk nk nk) := A3.out.next ho4 hc4 HP.out
    obtain ⟨W5, hW5⟩ : ∃ W5, W5 = w4.setCell ⟨vb, 0, none⟩ (.int .i64 ((k2 : Int) - 1)) := ⟨_, rfl⟩
    have A5 : Hid (AnyS w p vb W5 ((k2 : Int) - 1) sn st pk nk nk) := by show AnyS _ _ _ _ _ _ _ _ _ _; rw [hW5]; exact A4.out.put HP.out (okI_of (by omega) (by omega)) HX.out.2.1 HX.out.2.2.1 rfl
    have HW5 : Hid (W5 = w4.setCell ⟨vb, 0, none⟩ (.int .i64 ((k2 : Int) - 1))) := hW5
    have y0 := A4.out.vB.cell 0 _ rfl
    have g0 := A4.out.vB.frozen 0
    clear hc4 ho4 hW5
    have x0 := A5.out.vB.cell 0 _ rfl
    have x1 := A5.out.vB.cell 1 _ rfl
    have x2 := A5.out.vB.cell 2 _ rfl
    have x3 := A5.out.vB.cell 3 _ rfl
    have q0 := A5.out.rB.cell 0 _ rfl
    have q1 := A5.out.rB.cell 1 _ rfl
    have q2 := A5.out.rB.cell 2 _ rfl
    have q3 := A5.out.rB.cell 3 _ rfl
    have f0 := A5.out.rB.frozen 0
    have f1 := A5.out.rB.frozen 1
    have f2 := A5.out.rB.frozen 2
    have f3 := A5.out.rB.frozen 3
    rw [HW5.out] at x0 x1 x2 x3 q0 q1 q2 q3 f0 f1 f2 f3
    go_wp2_with fail
    rw [← HW5.out] at *
    obtain ⟨d, x, d1, d2, d3⟩ := any_end A5.out HP.out
    exact bodyPost_ret (v := .agg #[.int .i64 ((k2 : Int) - 1), .int .i64 sn, .string st, .slice pk nk nk]) (by simp [results, Tryz.results48, go_sem, q0, q1, q2, q3]) rfl (by first | exact ⟨_, _, _, _, _, _, d, x, rfl, d1, d2, d3⟩ | exact ⟨_, _, _, _, _, _, rfl, ⟨d, x, d1⟩, d2, d3⟩)
  · skip
    obtain ⟨W4, hW4⟩ : ∃ W4, W4 = w3.alloc (.cells (strs [⟨#[97]⟩, ⟨#[65]⟩, ⟨#[]⟩]).toArray 9) := ⟨_, rfl⟩
    have hal : Below w3.heap.size w3 W4 := by rw [hW4]; exact (Below.refl _ _).alloc (Nat.le_refl _) _
    have SP : Hid (StrP W4 p (.slice (some ⟨w3.heap.size, 0, none⟩) 3 3) [⟨#[97]⟩, ⟨#[65]⟩, ⟨#[]⟩]) := by show StrP _ _ _ _; rw [hW4]; exact strP_new [⟨#[97]⟩, ⟨#[65]⟩, ⟨#[]⟩] A3.out.cu (by decide) (by decide)
    have A4 : Hid (AnyS w p vb W4 sk sn st pk nk nk) := A3.out.next (Off.of_below hal) (A3.out.cu.next hal) HP.out
    have HW4 : Hid (W4 = w3.alloc (.cells (strs [⟨#[97]⟩, ⟨#[65]⟩, ⟨#[]⟩]).toArray 9)) := hW4
    clear hal hW4
    go_wp2_with fail
    rw [show (w3.alloc (.cells #[.string ⟨#[97]⟩, .string ⟨#[65]⟩, .string ⟨#[]⟩] 9)) = W4 from HW4.out.symm]
    refine (l01Pick_any p _ [⟨#[97]⟩, ⟨#[65]⟩, ⟨#[]⟩] _ A4.out.cu (by decide) (by decide) SP.out).mono ?_
    rintro e w5 ⟨nm, hnm, rfl, hc5, ho5⟩
    have A5 : Hid (AnyS w p vb w5 sk sn st pk nk nk) := A4.out.next ho5 hc5 HP.out
    have HNM : Hid (nm.size ≤ 2) := (by decide : ∀ x ∈ ([⟨#[97]⟩, ⟨#[65]⟩, ⟨#[]⟩] : List ByteArray), x.size ≤ 2) nm hnm
    obtain ⟨W6, hW6⟩ : ∃ W6, W6 = w5.setCell ⟨vb, 2, none⟩ (.string nm) := ⟨_, rfl⟩
    have A6 : Hid (AnyS w p vb W6 sk sn nm pk nk nk) := by show AnyS _ _ _ _ _ _ _ _ _ _; rw [hW6]; exact A5.out.put HP.out HX.out.1 HX.out.2.1 (Nat.le_trans HNM.out (by unfold maxLen; omega)) rfl
    have HW6 : Hid (W6 = w5.setCell ⟨vb, 2, none⟩ (.string nm)) := hW6
    have y2 := A5.out.vB.cell 2 _ rfl
    have g2 := A5.out.vB.frozen 2
    clear hc5 ho5 hW6 hnm
    have x0 := A6.out.vB.cell 0 _ rfl
    have x1 := A6.out.vB.cell 1 _ rfl
    have x2 := A6.out.vB.cell 2 _ rfl
    have x3 := A6.out.vB.cell 3 _ rfl
    have q0 := A6.out.rB.cell 0 _ rfl
    have q1 := A6.out.rB.cell 1 _ rfl
    have q2 := A6.out.rB.cell 2 _ rfl
    have q3 := A6.out.rB.cell 3 _ rfl
    have f0 := A6.out.rB.frozen 0
    have f1 := A6.out.rB.frozen 1
    have f2 := A6.out.rB.frozen 2
    have f3 := A6.out.rB.frozen 3
    rw [HW6.out] at x0 x1 x2 x3 q0 q1 q2 q3 f0 f1 f2 f3
    go_wp2_with fail
    rw [← HW6.out] at *
    obtain ⟨d, x, d1, d2, d3⟩ := any_end A6.out HP.out
    exact bodyPost_ret (v := .agg #[.int .i64 sk, .int .i64 sn, .string nm, .slice pk nk nk]) (by simp [results, Tryz.results48, go_sem, q0, q1, q2, q3]) rfl (by first | exact ⟨_, _, _, _, _, _, d, x, rfl, d1, d2, d3⟩ | exact ⟨_, _, _, _, _, _, rfl, ⟨d, x, d1⟩, d2, d3⟩)
  · skip
    obtain ⟨olds, hol, holds, hno, hfin⟩ := AnyS.grow A3.out HP.out
    have HF : Hid (∀ (V1 V' : World) (v' : Value), Below w3.heap.size w3 V1 → V'.ownsRow V1.heap.size 26 4 v' (nk + 1) (olds ++ [.int .i64 0, .int .i64 1, .string ⟨#[]⟩, .slice none 0 0]) → V1.grownBy V' none → ∃ g cap, v' = .slice (some ⟨g, 0, none⟩) (nk + 1) cap ∧ Blk V' vb #[.int .i64 sk, .int .i64 sn, .string st, .slice pk nk nk] 26 ∧ AnyS w p vb (V'.setCell ⟨vb, 3, none⟩ v') sk sn st (some ⟨g, 0, none⟩) (nk + 1) cap) := hfin
    have x3' := A3.out.vB.cell 3 _ rfl
    have KW : Hid (Below w3.heap.size w3 (w3.alloc (.cells #[.int .i64 0, .int .i64 1, .string ⟨#[]⟩, .slice none 0 0] 26))) := (Below.refl _ _).alloc (Nat.le_refl _) _
    have KN : Hid (Blk (w3.alloc (.cells #[.int .i64 0, .int .i64 1, .string ⟨#[]⟩, .slice none 0 0] 26)) w3.heap.size #[.int .i64 0, .int .i64 1, .string ⟨#[]⟩, .slice none 0 0] 26) := Blk.new
    have hnn : (nk + 1) * 56 ≤ 140737488355328 := by have := HX.out.2.2.2.1; omega
    have hnm : nk + 1 ≤ maxLen := by have := HX.out.2.2.2.1; unfold maxLen; omega
    have hfu : nk < nk + 1 := by omega
    obtain ⟨i0, hi, hz0, hz1, hz2⟩ : ∃ i, Tryz.prog.info? 26 = some i ∧ i.zero = some (.agg #[.int .i64 0, .int .i64 0, .string ⟨#[]⟩, .slice none 0 0]) ∧ i.size = 4 ∧ i.bytes = 56 := by
      have h := infoVal
      cases hh : Tryz.prog.info? 26 with
      | none => rw [hh] at h; cases h
      | some i => rw [hh] at h; simp at h; exact ⟨i, rfl, h.1, h.2.1, h.2.2⟩
    have HI : Hid (Tryz.prog.info? 26 = some i0 ∧ i0.zero = some (.agg #[.int .i64 0, .int .i64 0, .string ⟨#[]⟩, .slice none 0 0]) ∧ i0.size = 4 ∧ i0.bytes = 56) := ⟨hi, hz0, hz1, hz2⟩
    have HO : Hid (olds.length = nk * 4 ∧ (pk = none → nk = 0 ∧ nk = 0) ∧ ∀ bb, pk = some bb → ∀ j u, olds[j]? = some u → (w3.alloc (.cells #[.int .i64 0, .int .i64 1, .string ⟨#[]⟩, .slice none 0 0] 26)).cell? (bb.add j) = some u) := ⟨hol, fun e => ⟨hno e, hno e⟩, fun bb e j u h => cell_nextA KW.out (holds bb e j u h)⟩
    clear hfin hi hz0 hz1 hz2 hol holds hno
    go_wp2_with (at_builtin; refine wpList_append_grows _ rfl _ _ 24 rfl 26 i0 _ 4 56 Tryz.underlying24 HI.out.1 HI.out.2.1 HI.out.2.2.1 HI.out.2.2.2 rfl (by decide) pk nk nk olds rfl HO.out.2.1 HO.out.1 HO.out.2.2 ⟨w3.heap.size, 0, none⟩ 1 1 [.int .i64 0, .int .i64 1, .string ⟨#[]⟩, .slice none 0 0] rfl rfl (add_cells KN.out) one_cells hfu hnm hnn ?_; intro v' w' hown hgr; obtain ⟨g, cap, hv', hvB', hA'⟩ := HF.out _ _ _ KW.out hown hgr; have AA : Hid (AnyS w p vb (w'.setCell ⟨vb, 3, none⟩ v') sk sn st (some ⟨g, 0, none⟩) (nk + 1) cap) := hA'; have BB : Hid (Blk w' vb #[.int .i64 sk, .int .i64 sn, .string st, .slice pk nk nk] 26) := hvB'; subst hv'; have y3 := BB.out.cell 3 _ rfl; have g3 := BB.out.frozen 3; have x0 := AA.out.vB.cell 0 _ rfl; have x1 := AA.out.vB.cell 1 _ rfl; have x2 := AA.out.vB.cell 2 _ rfl; have x3 := AA.out.vB.cell 3 _ rfl; have q0 := AA.out.rB.cell 0 _ rfl; have q1 := AA.out.rB.cell 1 _ rfl; have q2 := AA.out.rB.cell 2 _ rfl; have q3 := AA.out.rB.cell 3 _ rfl; have f0 := AA.out.rB.frozen 0; have f1 := AA.out.rB.frozen 1; have f2 := AA.out.rB.frozen 2; have f3 := AA.out.rB.frozen 3; clear hown hgr hA' hvB' x3'; dsimp only)
    obtain ⟨d, x, d1, d2, d3⟩ := any_end AA.out HP.out
    exact bodyPost_ret (v := .agg #[.int .i64 sk, .int .i64 sn, .string st, .slice (some ⟨g, 0, none⟩) (nk + 1) cap]) (by simp [results, Tryz.results48, go_sem, q0, q1, q2, q3]) rfl ⟨_, _, _, _, _, _, d, x, rfl, d1, d2, d3⟩
  · skip
    go_wp2_with fail
    refine (l01Below_any p 4 _ A3.out.cu (by decide) (by decide)).mono ?_
    rintro e w4 ⟨k4, hk4, rfl, hc4, ho4⟩
    have I4 : Hid (∃ a b s pk nk ck, AnyS w p vb w4 a b s pk nk ck) := ⟨_, _, _, _, _, _, A3.out.next ho4 hc4 HP.out⟩
    have e4 : IntKind.i64.wrap (198 + (k4 : Int)) = 198 + (k4 : Int) := by rcases (by omega : k4 = 0 ∨ k4 = 1 ∨ k4 = 2 ∨ k4 = 3) with rfl | rfl | rfl | rfl <;> decide
    clear hc4 ho4 A3
    go_wp2_with fail
    go_loopw [5] (fun iv wr => ∃ i : Nat, i ≤ 198 + k4 ∧ iv = .int .i64 i ∧ Hid (∃ a b s pk nk ck, AnyS w p vb wr a b s pk nk ck)) (fun iv _ => 198 + k4 - (intOf iv).toNat)
    case atStart => exact ⟨0, Nat.zero_le _, rfl, I4⟩
    case round =>
      obtain ⟨i, hi, rfl, HI⟩ := hrel
      obtain ⟨a, b, s, pk2, nk2, ck2, hA⟩ := HI.out
      have AR : Hid (AnyS w p vb wr a b s pk2 nk2 ck2) := hA
      clear hA HI
      by_cases hlt : i < 198 + k4
      · have hli : (i : Int) < 198 + (k4 : Int) := by omega
        have x0 := AR.out.vB.cell 0 _ rfl
        have x1 := AR.out.vB.cell 1 _ rfl
        have x2 := AR.out.vB.cell 2 _ rfl
        have x3 := AR.out.vB.cell 3 _ rfl
        have g0 := AR.out.vB.frozen 0
        have g1 := AR.out.vB.frozen 1
        have g2 := AR.out.vB.frozen 2
        have g3 := AR.out.vB.frozen 3
        have AL : Hid (Blk (wr.alloc (.cells #[.int .i64 a, .int .i64 b, .string s, .slice pk2 nk2 ck2] 26)) vb #[.int .i64 a, .int .i64 b, .string s, .slice pk2 nk2 ck2] 26) := AR.out.vB.next ((Below.refl _ _).alloc (Nat.le_refl _) _)
        have y0 := AL.out.cell 0 _ rfl
        have y1 := AL.out.cell 1 _ rfl
        have y2 := AL.out.cell 2 _ rfl
        have y3 := AL.out.cell 3 _ rfl
        have h0 := AL.out.frozen 0
        have h1 := AL.out.frozen 1
        have h2 := AL.out.frozen 2
        have h3 := AL.out.frozen 3
        go_wp2_with fail
        exact ⟨⟨i + 1, by omega, by go_num, ⟨_, _, _, _, _, _, AR.out.wrap HP.out⟩⟩, by simp [intOf]; omega⟩
      · have hli : ¬ (i : Int) < 198 + (k4 : Int) := by omega
        have x0 := AR.out.vB.cell 0 _ rfl
        have x1 := AR.out.vB.cell 1 _ rfl
        have x2 := AR.out.vB.cell 2 _ rfl
        have x3 := AR.out.vB.cell 3 _ rfl
        have q0 := AR.out.rB.cell 0 _ rfl
        have q1 := AR.out.rB.cell 1 _ rfl
        have q2 := AR.out.rB.cell 2 _ rfl
        have q3 := AR.out.rB.cell 3 _ rfl
        have f0 := AR.out.rB.frozen 0
        have f1 := AR.out.rB.frozen 1
        have f2 := AR.out.rB.frozen 2
        have f3 := AR.out.rB.frozen 3
        go_wp2_with fail
        obtain ⟨d, x, d1, d2, d3⟩ := any_end AR.out HP.out
        exact bodyPost_ret (v := .agg #[.int .i64 a, .int .i64 b, .string s, .slice pk2 nk2 ck2]) (by simp [results, Tryz.results48, go_sem, q0, q1, q2, q3]) rfl (by first | exact ⟨_, _, _, _, _, _, d, x, rfl, d1, d2, d3⟩ | exact ⟨_, _, _, _, _, _, rfl, ⟨d, x, d1⟩, d2, d3⟩)

  · skip
    have hne0 : ¬ (kk : Int) = 0 := by omega
    have hne1 : ¬ (kk : Int) = 1 := by omega
    have hne2 : ¬ (kk : Int) = 2 := by omega
    have hne3 : ¬ (kk : Int) = 3 := by omega
    have x0 := A3.out.vB.cell 0 _ rfl
    have x1 := A3.out.vB.cell 1 _ rfl
    have x2 := A3.out.vB.cell 2 _ rfl
    have x3 := A3.out.vB.cell 3 _ rfl
    have q0 := A3.out.rB.cell 0 _ rfl
    have q1 := A3.out.rB.cell 1 _ rfl
    have q2 := A3.out.rB.cell 2 _ rfl
    have q3 := A3.out.rB.cell 3 _ rfl
    have f0 := A3.out.rB.frozen 0
    have f1 := A3.out.rB.frozen 1
    have f2 := A3.out.rB.frozen 2
    have f3 := A3.out.rB.frozen 3
    go_wp2_with fail
    obtain ⟨d, x, d1, d2, d3⟩ := any_end A3.out HP.out
    exact bodyPost_ret (v := .agg #[.int .i64 sk, .int .i64 sn, .string st, .slice pk nk nk]) (by simp [results, Tryz.results48, go_sem, q0, q1, q2, q3]) rfl (by first | exact ⟨_, _, _, _, _, _, d, x, rfl, d1, d2, d3⟩ | exact ⟨_, _, _, _, _, _, rfl, ⟨d, x, d1⟩, d2, d3⟩)

set_option maxHeartbeats 8000000 in
theorem drawValOk_any (cv : Value) (xs : List Nat) (w : World) (hx : xs.length ≤ 1048576) (hr : Rows w All 1 HByte cv xs) :
    Calls Tryz.prog 16 #[cv] w fun e w' => ∃ a b s pk nk ck d x, e = .returned (.agg #[.int .i64 a, .int .i64 b, .string s, .slice pk nk ck]) ∧ HVa w' (fun g => w.heap.size ≤ g) d [.int .i64 a, .int .i64 b, .string s, .slice pk nk ck] x ∧ Below w.heap.size w w' := by
  obtain ⟨W0, hW0⟩ : ∃ W0, W0 = w.alloc (.cells #[.int .i64 0, .int .i64 0, .string ⟨#[]⟩, .slice none 0 0] 26) := ⟨_, rfl⟩
  have hal0 : Below w.heap.size w W0 := by rw [hW0]; exact (Below.refl _ _).alloc (Nat.le_refl _) _
  have B0 : Hid (Below w.heap.size w W0) := hal0
  have r0 : Hid (Blk W0 w.heap.size #[.int .i64 0, .int .i64 0, .string ⟨#[]⟩, .slice none 0 0] 26) := by show Blk _ _ _ _; rw [hW0]; exact Blk.new
  have HS0 : Hid (W0.heap.size = w.heap.size + 1) := by show _ = _; rw [hW0, alloc_hs]
  have HR0 : Hid (Rows W0 All 1 HByte cv xs) := Rows.mono hr ⟨hal0.size, fun g _ hl => hal0.block g hl⟩ (fun _ h => h) (fun _ _ _ h => h)
  have HW0 : Hid (W0 = w.alloc (.cells #[.int .i64 0, .int .i64 0, .string ⟨#[]⟩, .slice none 0 0] 26)) := hW0
  clear hr hW0 hal0
  go_enter Tryz.func16, Tryz.ntmps16
  go_wp2_with fail
  rw [← HW0.out]
  refine (l01New_any cv xs _ hx HR0.out).mono ?_
  rintro e w1 ⟨p, rfl, hp, hc1, hb1⟩
  have C1 : Hid (Cur w1 p) := hc1
  have HP : Hid (w.heap.size + 1 ≤ p ∧ p < w1.heap.size) := ⟨by have := HS0.out; omega, hc1.lt⟩
  have B1 : Hid (Below w.heap.size w w1) := B0.out.trans (hb1.mono B0.out.size)
  have r1 : Hid (Blk w1 w.heap.size #[.int .i64 0, .int .i64 0, .string ⟨#[]⟩, .slice none 0 0] 26) := r0.out.next hb1
  clear hp hc1 hb1
  go_wp2_with fail
  refine (l03Any_any p _ C1.out).mono ?_
  rintro e w2 ⟨a, b, s, pk, nk, ck, d, x, rfl, hT, hc2, ho2⟩
  have r2 : Hid (Blk w2 w.heap.size #[.int .i64 0, .int .i64 0, .string ⟨#[]⟩, .slice none 0 0] 26) := (ho2.block _ r1.out.lt (by simp; have := HP.out; omega)).trans r1.out
  have B2 : Hid (Below w.heap.size w w2) := Below.offP B1.out ho2 (by have := HP.out.1; omega) B1.out.size
  have T2 : Hid (HVa w2 (fun g => w1.heap.size ≤ g) d [.int .i64 a, .int .i64 b, .string s, .slice pk nk ck] x) := hT
  have q0 := r2.out.cell 0 _ rfl
  have q1 := r2.out.cell 1 _ rfl
  have q2 := r2.out.cell 2 _ rfl
  have q3 := r2.out.cell 3 _ rfl
  have f0 := r2.out.frozen 0
  have f1 := r2.out.frozen 1
  have f2 := r2.out.frozen 2
  have f3 := r2.out.frozen 3
  clear hT hc2 ho2
  go_wp2_with fail
  have hl : w.heap.size < w1.heap.size := by have := HP.out; omega
  refine bodyPost_ret (v := .agg #[.int .i64 a, .int .i64 b, .string s, .slice pk nk ck]) (by simp [results, Tryz.results16, go_sem, q0, q1, q2, q3]) rfl ⟨_, _, _, _, _, _, d, x, rfl, ?_, below_set4 B2.out (Nat.le_refl _)⟩
  exact T2.out.mono (SameOn.setCell (SameOn.setCell (SameOn.setCell (SameOn.setCell (SameOn.of_below (Below.refl _ _)) (by show ¬ (w1.heap.size ≤ w.heap.size); omega) _) (by show ¬ (w1.heap.size ≤ w.heap.size); omega) _) (by show ¬ (w1.heap.size ≤ w.heap.size); omega) _) (by show ¬ (w1.heap.size ≤ w.heap.size); omega) _) (fun g hg => by have : w1.heap.size ≤ g := hg; show _ ≤ g; omega)
end Go.Proofs.YtmnghlkkfkpjhaaGreatDoor
/-
  The specification's DrawReckon.
-/
namespace Go.Proofs.YtmnghlkkfkpjhaaGreatDoor
open Go.ChangeShapes Go.WideShapes Go.ChangeAt Go.RowKit
set_option linter.unusedVariables false
set_option maxRecDepth 100000

set_option maxHeartbeats 8000000 in
theorem drawReckon_any (cv : Value) (xs : List Nat) (w : World) (hx : xs.length ≤ 1048576) (hr : Rows w All 1 HByte cv xs) :
    Calls Tryz.prog 13 #[cv] w fun e w' => ∃ op sk sn st pk nk ck xa sk2 sn2 st2 pk2 nk2 ck2 xb, e = .returned (.tuple #[.string op, .agg #[.int .i64 sk, .int .i64 sn, .string st, .slice pk nk ck], .agg #[.int .i64 sk2, .int .i64 sn2, .string st2, .slice pk2 nk2 ck2]]) ∧ DvT w' w.heap.size 2 [.int .i64 sk, .int .i64 sn, .string st, .slice pk nk ck] xa ∧ DvT w' w.heap.size 2 [.int .i64 sk2, .int .i64 sn2, .string st2, .slice pk2 nk2 ck2] xb ∧ op ∈ ([⟨#[43]⟩, ⟨#[45]⟩, ⟨#[42]⟩, ⟨#[61, 61]⟩, ⟨#[60]⟩, ⟨#[47]⟩] : List ByteArray) ∧ Below w.heap.size w w' := by
  obtain ⟨W0, hW0⟩ : ∃ W0, W0 = (w.alloc (.cells #[.int .i64 0, .int .i64 0, .string ⟨#[]⟩, .slice none 0 0] 26)).alloc (.cells #[.int .i64 0, .int .i64 0, .string ⟨#[]⟩, .slice none 0 0] 26) := ⟨_, rfl⟩
  have hal0 : Below w.heap.size w W0 := by rw [hW0]; exact ((Below.refl _ _).alloc (Nat.le_refl _) _).alloc (by rw [alloc_hs]; omega) _
  have B0 : Hid (Below w.heap.size w W0) := hal0
  have b0 : Hid (Blk W0 w.heap.size #[.int .i64 0, .int .i64 0, .string ⟨#[]⟩, .slice none 0 0] 26) := by show Blk _ _ _ _; rw [hW0]; exact Blk.next Blk.new ((Below.refl _ _).alloc (Nat.le_refl _) _)
  have r0 : Hid (Blk W0 (w.heap.size + 1) #[.int .i64 0, .int .i64 0, .string ⟨#[]⟩, .slice none 0 0] 26) := by show Blk _ _ _ _; rw [hW0]; have := Blk.new (w := w.alloc (.cells #[.int .i64 0, .int .i64 0, .string ⟨#[]⟩, .slice none 0 0] 26)) (cs := #[.int .i64 0, .int .i64 0, .string ⟨#[]⟩, .slice none 0 0]) (t := 26); rwa [alloc_hs] at this
  have HS0 : Hid (W0.heap.size = w.heap.size + 2) := by show _ = _; rw [hW0, alloc_hs, alloc_hs]
  have HR0 : Hid (Rows W0 All 1 HByte cv xs) := Rows.mono hr ⟨hal0.size, fun g _ hl => hal0.block g hl⟩ (fun _ h => h) (fun _ _ _ h => h)
  have HW0 : Hid (W0 = (w.alloc (.cells #[.int .i64 0, .int .i64 0, .string ⟨#[]⟩, .slice none 0 0] 26)).alloc (.cells #[.int .i64 0, .int .i64 0, .string ⟨#[]⟩, .slice none 0 0] 26)) := hW0
  clear hr hW0 hal0
  go_enter Tryz.func13, Tryz.ntmps13
  go_wp2_with fail
  rw [← HW0.out]
  refine (l01New_any cv xs _ hx HR0.out).mono ?_
  rintro e wa ⟨p, rfl, hp, hc1, hb1⟩
  have HP0 : Hid (w.heap.size + 2 ≤ p ∧ p < wa.heap.size) := ⟨by have := HS0.out; omega, hc1.lt⟩
  have Ba : Hid (Below w.heap.size w wa) := B0.out.trans (hb1.mono B0.out.size)
  have ba : Hid (Blk wa w.heap.size #[.int .i64 0, .int .i64 0, .string ⟨#[]⟩, .slice none 0 0] 26) := b0.out.next hb1
  have ra : Hid (Blk wa (w.heap.size + 1) #[.int .i64 0, .int .i64 0, .string ⟨#[]⟩, .slice none 0 0] 26) := r0.out.next hb1
  have Ca : Hid (Cur wa p) := hc1
  obtain ⟨Wb, hWb⟩ : ∃ Wb, Wb = wa.alloc (.cells (strs [⟨#[43]⟩, ⟨#[45]⟩, ⟨#[42]⟩, ⟨#[61, 61]⟩, ⟨#[60]⟩, ⟨#[47]⟩]).toArray 9) := ⟨_, rfl⟩
  have hal : Below wa.heap.size wa Wb := by rw [hWb]; exact (Below.refl _ _).alloc (Nat.le_refl _) _
  have SP : Hid (StrP Wb p (.slice (some ⟨wa.heap.size, 0, none⟩) 6 6) [⟨#[43]⟩, ⟨#[45]⟩, ⟨#[42]⟩, ⟨#[61, 61]⟩, ⟨#[60]⟩, ⟨#[47]⟩]) := by show StrP _ _ _ _; rw [hWb]; exact strP_new [⟨#[43]⟩, ⟨#[45]⟩, ⟨#[42]⟩, ⟨#[61, 61]⟩, ⟨#[60]⟩, ⟨#[47]⟩] hc1 (by decide) (by decide)
  have Bb : Hid (Below w.heap.size w Wb) := Ba.out.trans (hal.mono Ba.out.size)
  have bb : Hid (Blk Wb w.heap.size #[.int .i64 0, .int .i64 0, .string ⟨#[]⟩, .slice none 0 0] 26) := ba.out.next hal
  have rb : Hid (Blk Wb (w.heap.size + 1) #[.int .i64 0, .int .i64 0, .string ⟨#[]⟩, .slice none 0 0] 26) := ra.out.next hal
  have Cb : Hid (Cur Wb p) := hc1.next hal
  have HWb : Hid (Wb = wa.alloc (.cells (strs [⟨#[43]⟩, ⟨#[45]⟩, ⟨#[42]⟩, ⟨#[61, 61]⟩, ⟨#[60]⟩, ⟨#[47]⟩]).toArray 9)) := hWb
  have HPb : Hid (wa.heap.size ≤ Wb.heap.size) := hal.size
  have HN : Hid (w.heap.size ∉ [p]) := by show ¬ _; simp; have := HP0.out; omega
  have HM : Hid (w.heap.size + 1 ∉ [p]) := by show ¬ _; simp; have := HP0.out; omega
  clear hp hc1 hb1 hal hWb
  go_wp2_with fail
  rw [show (wa.alloc (.cells #[.string ⟨#[43]⟩, .string ⟨#[45]⟩, .string ⟨#[42]⟩, .string ⟨#[61, 61]⟩, .string ⟨#[60]⟩, .string ⟨#[47]⟩] 9)) = Wb from HWb.out.symm]
  refine (l01Pick_any p _ [⟨#[43]⟩, ⟨#[45]⟩, ⟨#[42]⟩, ⟨#[61, 61]⟩, ⟨#[60]⟩, ⟨#[47]⟩] _ Cb.out (by decide) (by decide) SP.out).mono ?_
  rintro e w1 ⟨op, hop, rfl, hc1, ho1⟩
  have HOP : Hid (op ∈ ([⟨#[43]⟩, ⟨#[45]⟩, ⟨#[42]⟩, ⟨#[61, 61]⟩, ⟨#[60]⟩, ⟨#[47]⟩] : List ByteArray)) := hop
  have C1 : Hid (Cur w1 p) := hc1
  have HP : Hid (w.heap.size + 2 ≤ p ∧ p < w1.heap.size) := ⟨HP0.out.1, hc1.lt⟩
  have B1 : Hid (Below w.heap.size w w1) := Below.offP Bb.out ho1 (by have := HP0.out.1; omega) Bb.out.size
  have b1 : Hid (Blk w1 w.heap.size #[.int .i64 0, .int .i64 0, .string ⟨#[]⟩, .slice none 0 0] 26) := (ho1.block _ bb.out.lt HN.out).trans bb.out
  have r1 : Hid (Blk w1 (w.heap.size + 1) #[.int .i64 0, .int .i64 0, .string ⟨#[]⟩, .slice none 0 0] 26) := (ho1.block _ rb.out.lt HM.out).trans rb.out
  clear hop hc1 ho1 HN HM
  go_wp2_with fail
  refine (l03Val_all 2 (by decide) p _ C1.out).mono ?_
  rintro e w2 ⟨sk, sn, st, pk, nk, xa, rfl, hT, hc2, ho2⟩
  have C2 : Hid (Cur w2 p) := hc2
  have HS2 : Hid (w1.heap.size ≤ w2.heap.size) := ho2.size
  have B2 : Hid (Below w.heap.size w w2) := Below.offP B1.out ho2 (by have := HP.out.1; omega) B1.out.size
  have HN : Hid (w.heap.size ∉ [p]) := by show ¬ _; simp; have := HP.out; omega
  have HM : Hid (w.heap.size + 1 ∉ [p]) := by show ¬ _; simp; have := HP.out; omega
  have b2 : Hid (Blk w2 w.heap.size #[.int .i64 0, .int .i64 0, .string ⟨#[]⟩, .slice none 0 0] 26) := (ho2.block _ b1.out.lt HN.out).trans b1.out
  have r2 : Hid (Blk w2 (w.heap.size + 1) #[.int .i64 0, .int .i64 0, .string ⟨#[]⟩, .slice none 0 0] 26) := (ho2.block _ r1.out.lt HM.out).trans r1.out
  have T2 : Hid (DvT w2 w1.heap.size 2 [.int .i64 sk, .int .i64 sn, .string st, .slice pk nk nk] xa) := hT
  clear hT hc2 ho2
  obtain ⟨W3, hW3⟩ : ∃ W3, W3 = w2.alloc (.cells #[.int .i64 sk, .int .i64 sn, .string st, .slice pk nk nk] 26) := ⟨_, rfl⟩
  have hal3 : Below w2.heap.size w2 W3 := by rw [hW3]; exact (Below.refl _ _).alloc (Nat.le_refl _) _
  have C3 : Hid (Cur W3 p) := C2.out.next hal3
  have B3 : Hid (Below w.heap.size w W3) := B2.out.trans (hal3.mono B2.out.size)
  have b3 : Hid (Blk W3 w.heap.size #[.int .i64 0, .int .i64 0, .string ⟨#[]⟩, .slice none 0 0] 26) := b2.out.next hal3
  have r3 : Hid (Blk W3 (w.heap.size + 1) #[.int .i64 0, .int .i64 0, .string ⟨#[]⟩, .slice none 0 0] 26) := r2.out.next hal3
  have A3 : Hid (Blk W3 w2.heap.size #[.int .i64 sk, .int .i64 sn, .string st, .slice pk nk nk] 26) := by show Blk _ _ _ _; rw [hW3]; exact Blk.new
  have T3 : Hid (DvT W3 w1.heap.size 2 [.int .i64 sk, .int .i64 sn, .string st, .slice pk nk nk] xa) := T2.out.same (SameOn.of_below hal3)
  have HA : Hid (w2.heap.size ∉ [p]) := by show ¬ _; simp; have := HP.out; have := HS2.out; omega
  have HW3 : Hid (W3 = w2.alloc (.cells #[.int .i64 sk, .int .i64 sn, .string st, .slice pk nk nk] 26)) := hW3
  have HL : Hid (w1.heap.size ≤ W3.heap.size) := Nat.le_trans HS2.out hal3.size
  clear hal3 hW3
  go_wp2_with fail
  rw [show (w2.alloc (.cells #[.int .i64 sk, .int .i64 sn, .string st, .slice pk nk nk] 26)) = W3 from HW3.out.symm]
  refine (l01Once_any p 3 _ C3.out (by decide) (by decide)).mono ?_
  rintro e w4 ⟨bb, rfl, hc4, ho4⟩
  have C4 : Hid (Cur w4 p) := hc4
  have B4 : Hid (Below w.heap.size w w4) := Below.offP B3.out ho4 (by have := HP.out.1; omega) B3.out.size
  have b4 : Hid (Blk w4 w.heap.size #[.int .i64 0, .int .i64 0, .string ⟨#[]⟩, .slice none 0 0] 26) := (ho4.block _ b3.out.lt HN.out).trans b3.out
  have r4 : Hid (Blk w4 (w.heap.size + 1) #[.int .i64 0, .int .i64 0, .string ⟨#[]⟩, .slice none 0 0] 26) := (ho4.block _ r3.out.lt HM.out).trans r3.out
  have A4 : Hid (Blk w4 w2.heap.size #[.int .i64 sk, .int .i64 sn, .string st, .slice pk nk nk] 26) := (ho4.block _ A3.out.lt HA.out).trans A3.out
  have T4 : Hid (DvT w4 w1.heap.size 2 [.int .i64 sk, .int .i64 sn, .string st, .slice pk nk nk] xa) := T3.out.off ho4 HP.out.2
  have HL4 : Hid (w1.heap.size ≤ w4.heap.size) := Nat.le_trans HL.out ho4.size
  have LT0 : Hid (w.heap.size < w1.heap.size) := by have := HP.out; show _ < _; omega
  have LT1 : Hid (w.heap.size + 1 < w1.heap.size) := by have := HP.out; show _ < _; omega
  clear hc4 ho4
  have z0 := A4.out.cell 0 _ rfl
  have z1 := A4.out.cell 1 _ rfl
  have z2 := A4.out.cell 2 _ rfl
  have z3 := A4.out.cell 3 _ rfl
  cases bb with
  | false =>
    go_wp2_with fail
    go_region_law
      (first
        | (go_simp; go_at_call 26; refine (l03Val_all 2 (by decide) p w4.drew (cur_heapV C4.out rfl)).mono ?_; rintro e w5 ⟨sk2, sn2, st2, pk2, nk2, xb, rfl, hT5, hc5, ho5⟩; have o5 : Hid (Off [p] w4 w5) := (Off.of_below (below_drewN (Below.refl _ _) 1)).trans ho5; have TB5 : Hid (DvT w5 w1.heap.size 2 [.int .i64 sk2, .int .i64 sn2, .string st2, .slice pk2 nk2 nk2] xb) := hT5.base HL4.out; have TA5 : Hid (DvT w5 w1.heap.size 2 [.int .i64 sk, .int .i64 sn, .string st, .slice pk nk nk] xa) := T4.out.off o5.out HP.out.2; have K5 : Hid (Below w.heap.size w w5) := Below.offP B4.out o5.out (by have := HP.out.1; omega) B4.out.size; have A5 : Hid (Blk w5 w2.heap.size #[.int .i64 sk, .int .i64 sn, .string st, .slice pk nk nk] 26) := (o5.out.block _ A4.out.lt HA.out).trans A4.out; have b5 : Hid (Blk w5 w.heap.size #[.int .i64 0, .int .i64 0, .string ⟨#[]⟩, .slice none 0 0] 26) := (o5.out.block _ b4.out.lt HN.out).trans b4.out; have r5 : Hid (Blk w5 (w.heap.size + 1) #[.int .i64 0, .int .i64 0, .string ⟨#[]⟩, .slice none 0 0] 26) := (o5.out.block _ r4.out.lt HM.out).trans r4.out; have x0 := A5.out.cell 0 _ rfl; have x1 := A5.out.cell 1 _ rfl; have x2 := A5.out.cell 2 _ rfl; have x3 := A5.out.cell 3 _ rfl; have q0 := b5.out.cell 0 _ rfl; have f0 := b5.out.frozen 0; have q1 := b5.out.cell 1 _ rfl; have f1 := b5.out.frozen 1; have q2 := b5.out.cell 2 _ rfl; have f2 := b5.out.frozen 2; have q3 := b5.out.cell 3 _ rfl; have f3 := b5.out.frozen 3; have v5 : Hid (Blk ((((w5.setCell ⟨w.heap.size, 0, none⟩ (.int .i64 sk)).setCell ⟨w.heap.size, 1, none⟩ (.int .i64 sn)).setCell ⟨w.heap.size, 2, none⟩ (.string st)).setCell ⟨w.heap.size, 3, none⟩ (.slice pk nk nk)) (w.heap.size + 1) #[.int .i64 0, .int .i64 0, .string ⟨#[]⟩, .slice none 0 0] 26) := blk_set4 r5.out (Nat.succ_ne_self _); have y0 := v5.out.cell 0 _ rfl; have g0 := v5.out.frozen 0; have y1 := v5.out.cell 1 _ rfl; have g1 := v5.out.frozen 1; have y2 := v5.out.cell 2 _ rfl; have g2 := v5.out.frozen 2; have y3 := v5.out.cell 3 _ rfl; have g3 := v5.out.frozen 3; clear hT5 hc5 ho5; dsimp only))
    all_goals
      go_wp2_with fail
      exact bodyPost_ret (v := .tuple #[.string op, .agg #[.int .i64 sk, .int .i64 sn, .string st, .slice pk nk nk], .agg #[.int .i64 sk2, .int .i64 sn2, .string st2, .slice pk2 nk2 nk2]]) (by simp [results, Tryz.results13, go_sem, q0, q1, q2, q3, y0, y1, y2, y3]) rfl ⟨op, _, _, _, _, _, _, xa, _, _, _, _, _, _, xb, rfl, (dv_set4 (dv_set4 TA5.out LT0.out) LT1.out).base (Nat.le_of_lt LT0.out), (dv_set4 (dv_set4 TB5.out LT0.out) LT1.out).base (Nat.le_of_lt LT0.out), HOP.out, below_set4 (below_set4 K5.out (Nat.le_refl _)) (Nat.le_succ _)⟩
  | true =>
    go_wp2_with fail
    go_region_law
      (first
        | (go_simp; go_at_call 28; refine (l03Copy_dv (w := w4.drew) (n := 2) (T4.out.same ⟨Nat.le_refl _, fun _ _ _ => rfl⟩) (by decide)).mono ?_; rintro e w5 ⟨sk2, sn2, st2, pk2, nk2, nk3, rfl, hv5, hb5⟩; have k5 : Hid (Below w4.heap.size w4 w5) := ⟨hb5.os, hb5.tape, hb5.output, hb5.size, hb5.block⟩; have TB5 : Hid (DvT w5 w1.heap.size 2 [.int .i64 sk2, .int .i64 sn2, .string st2, .slice pk2 nk2 nk3] xa) := hv5.base HL4.out; have TA5 : Hid (DvT w5 w1.heap.size 2 [.int .i64 sk, .int .i64 sn, .string st, .slice pk nk nk] xa) := T4.out.same (SameOn.of_below k5.out); have K5 : Hid (Below w.heap.size w w5) := B4.out.trans (k5.out.mono B4.out.size); have A5 : Hid (Blk w5 w2.heap.size #[.int .i64 sk, .int .i64 sn, .string st, .slice pk nk nk] 26) := A4.out.next k5.out; have b5 : Hid (Blk w5 w.heap.size #[.int .i64 0, .int .i64 0, .string ⟨#[]⟩, .slice none 0 0] 26) := b4.out.next k5.out; have r5 : Hid (Blk w5 (w.heap.size + 1) #[.int .i64 0, .int .i64 0, .string ⟨#[]⟩, .slice none 0 0] 26) := r4.out.next k5.out; have x0 := A5.out.cell 0 _ rfl; have x1 := A5.out.cell 1 _ rfl; have x2 := A5.out.cell 2 _ rfl; have x3 := A5.out.cell 3 _ rfl; have q0 := b5.out.cell 0 _ rfl; have f0 := b5.out.frozen 0; have q1 := b5.out.cell 1 _ rfl; have f1 := b5.out.frozen 1; have q2 := b5.out.cell 2 _ rfl; have f2 := b5.out.frozen 2; have q3 := b5.out.cell 3 _ rfl; have f3 := b5.out.frozen 3; have v5 : Hid (Blk ((((w5.setCell ⟨w.heap.size, 0, none⟩ (.int .i64 sk)).setCell ⟨w.heap.size, 1, none⟩ (.int .i64 sn)).setCell ⟨w.heap.size, 2, none⟩ (.string st)).setCell ⟨w.heap.size, 3, none⟩ (.slice pk nk nk)) (w.heap.size + 1) #[.int .i64 0, .int .i64 0, .string ⟨#[]⟩, .slice none 0 0] 26) := blk_set4 r5.out (Nat.succ_ne_self _); have y0 := v5.out.cell 0 _ rfl; have g0 := v5.out.frozen 0; have y1 := v5.out.cell 1 _ rfl; have g1 := v5.out.frozen 1; have y2 := v5.out.cell 2 _ rfl; have g2 := v5.out.frozen 2; have y3 := v5.out.cell 3 _ rfl; have g3 := v5.out.frozen 3; clear hv5 hb5; dsimp only))
    all_goals
      go_wp2_with fail
      exact bodyPost_ret (v := .tuple #[.string op, .agg #[.int .i64 sk, .int .i64 sn, .string st, .slice pk nk nk], .agg #[.int .i64 sk2, .int .i64 sn2, .string st2, .slice pk2 nk2 nk3]]) (by simp [results, Tryz.results13, go_sem, q0, q1, q2, q3, y0, y1, y2, y3]) rfl ⟨op, _, _, _, _, _, _, xa, _, _, _, _, _, _, xa, rfl, (dv_set4 (dv_set4 TA5.out LT0.out) LT1.out).base (Nat.le_of_lt LT0.out), (dv_set4 (dv_set4 TB5.out LT0.out) LT1.out).base (Nat.le_of_lt LT0.out), HOP.out, below_set4 (below_set4 K5.out (Nat.le_refl _)) (Nat.le_succ _)⟩
end Go.Proofs.YtmnghlkkfkpjhaaGreatDoor
/-
  A name by its first byte.
-/
namespace Go.Proofs.YtmnghlkkfkpjhaaGreatDoor
open Go.ChangeShapes Go.WideShapes Go.ChangeAt Go.RowKit
set_option linter.unusedVariables false

def firstN (s : ByteArray) : Int := ((s.data.toList.headD 0).toNat : Int)
def varB (s : ByteArray) : Bool := nameB s && inB (firstN s) 65 90
theorem nameB_size (s : ByteArray) (h : nameB s = true) : 0 < s.size := by
  unfold nameB at h
  rw [Bool.and_eq_true] at h
  have := of_decide_eq_true h.2
  omega
theorem first_eq (s : ByteArray) (h : 0 < s.size) : (s[0].toNat : Int) = firstN s := by
  have e : s.data.toList.headD 0 = s[0] := by
    have h' : 0 < s.data.toList.length := by simpa using h
    rw [List.headD_eq_head?_getD, List.head?_eq_getElem?, List.getElem?_eq_getElem h']
    rfl
  rw [firstN, e]
end Go.Proofs.YtmnghlkkfkpjhaaGreatDoor
/-
  What AtomOk answers, of the program and of the specification. Conditions: the text is no longer than any text may be; the program's variable of the three words holds them.
-/
namespace Go.Proofs.YtmnghlkkfkpjhaaGreatDoor
open Go.ChangeShapes Go.WideShapes Go.ChangeAt Go.RowKit
set_option linter.unusedVariables false

def keyB (s : ByteArray) : Bool := s.toList == [99, 97, 115, 101] || s.toList == [111, 102] || s.toList == [101, 110, 100]
/-- The three words lie in the program's variable. -/
def KeysAt (w : World) : Prop :=
  w.cell? ⟨1, 0, none⟩ = some (.string ⟨#[99, 97, 115, 101]⟩) ∧ w.cell? ⟨1, 1, none⟩ = some (.string ⟨#[111, 102]⟩) ∧ w.cell? ⟨1, 2, none⟩ = some (.string ⟨#[101, 110, 100]⟩)
def atomB (s : ByteArray) : Bool := nameB s && inB (firstN s) 97 122 && !keyB s

theorem keyB_not {s : ByteArray} (h0 : (s.toList == [99, 97, 115, 101]) = false) (h1 : (s.toList == [111, 102]) = false) (h2 : (s.toList == [101, 110, 100]) = false) : keyB s = false := by
  rw [keyB, h0, h1, h2]; rfl

theorem key0_yes {s : ByteArray} (h : ([99, 97, 115, 101] == s.toList) = true) : keyB s = true := by
  have e := (beq_iff_eq.1 h).symm
  simp [keyB, e]
theorem key0_no {s : ByteArray} (h : ([99, 97, 115, 101] == s.toList) = false) : (s.toList == [99, 97, 115, 101]) = false := by
  rw [beq_eq_false_iff_ne] at h ⊢
  exact fun e => h e.symm
theorem key1_yes {s : ByteArray} (h : ([111, 102] == s.toList) = true) : keyB s = true := by
  have e := (beq_iff_eq.1 h).symm
  simp [keyB, e]
theorem key1_no {s : ByteArray} (h : ([111, 102] == s.toList) = false) : (s.toList == [111, 102]) = false := by
  rw [beq_eq_false_iff_ne] at h ⊢
  exact fun e => h e.symm
theorem key2_yes {s : ByteArray} (h : ([101, 110, 100] == s.toList) = true) : keyB s = true := by
  have e := (beq_iff_eq.1 h).symm
  simp [keyB, e]
theorem key2_no {s : ByteArray} (h : ([101, 110, 100] == s.toList) = false) : (s.toList == [101, 110, 100]) = false := by
  rw [beq_eq_false_iff_ne] at h ⊢
  exact fun e => h e.symm

theorem l01Key_any (s : ByteArray) (w : World) :
    Calls Tryz.prog 77 #[.string s] w fun e w' => e = .returned (.bool (keyB s)) ∧ w' = w := by
  go_enter Tryz.func77, Tryz.ntmps77
  go_wp2
  all_goals go_ret
  · exact ⟨ret_bool (by simp [keyB, *]), rfl⟩
  · exact ⟨ret_bool (by simp [keyB, *]), rfl⟩
  · exact ⟨ret_bool (by simp [keyB]), rfl⟩

theorem keys_at0 (w : World) : Sem.run Tryz.prog (Instr.index 107 (.agg #[.string ⟨#[99, 97, 115, 101]⟩, .string ⟨#[111, 102]⟩, .string ⟨#[101, 110, 100]⟩]) (.int .i64 0)) w = .ok (.string ⟨#[99, 97, 115, 101]⟩) w := by kernel_rfl
theorem keys_at1 (w : World) : Sem.run Tryz.prog (Instr.index 107 (.agg #[.string ⟨#[99, 97, 115, 101]⟩, .string ⟨#[111, 102]⟩, .string ⟨#[101, 110, 100]⟩]) (.int .i64 1)) w = .ok (.string ⟨#[111, 102]⟩) w := by kernel_rfl
theorem keys_at2 (w : World) : Sem.run Tryz.prog (Instr.index 107 (.agg #[.string ⟨#[99, 97, 115, 101]⟩, .string ⟨#[111, 102]⟩, .string ⟨#[101, 110, 100]⟩]) (.int .i64 2)) w = .ok (.string ⟨#[101, 110, 100]⟩) w := by kernel_rfl
set_option maxRecDepth 100000 in
theorem isKeyword_any (s : ByteArray) (w : World) (hk : KeysAt w) :
    Calls Tryz.prog 81 #[.string s] w fun e w' => e = .returned (.bool (keyB s)) ∧ w' = w := by
  obtain ⟨h0, h1, h2⟩ := hk
  go_enter Tryz.func81, Tryz.ntmps81
  go_wp2
  go_loop [6] (fun i => ∃ k : Nat, k ≤ 3 ∧ i = .int .i64 k ∧ (1 ≤ k → (s.toList == [99, 97, 115, 101]) = false) ∧ (2 ≤ k → (s.toList == [111, 102]) = false) ∧ (3 ≤ k → (s.toList == [101, 110, 100]) = false)) (fun i => 3 - (intOf i).toNat)
  case atStart => exact ⟨0, by omega, rfl, by omega, by omega, by omega⟩
  case round =>
    obtain ⟨k, hk, rfl, n0, n1, n2⟩ := hrel
    have H0 : Hid (1 ≤ k → (s.toList == [99, 97, 115, 101]) = false) := n0
    have H1 : Hid (2 ≤ k → (s.toList == [111, 102]) = false) := n1
    have H2 : Hid (3 ≤ k → (s.toList == [101, 110, 100]) = false) := n2
    clear n0 n1 n2 h0 h1 h2
    rcases (by omega : k = 0 ∨ k = 1 ∨ k = 2 ∨ k = 3) with rfl | rfl | rfl | rfl
    · have r0 := keys_at0
      go_wp2
      · go_ret
        exact ⟨ret_bool (key0_yes ‹_›).symm, rfl⟩
      · go_round
        case rel => exact ⟨1, by omega, rfl, fun _ => key0_no ‹_›, by omega, by omega⟩
        case measure => simp [intOf]
    · have r1 := keys_at1
      go_wp2
      · go_ret
        exact ⟨ret_bool (key1_yes ‹_›).symm, rfl⟩
      · go_round
        case rel => exact ⟨2, by omega, rfl, fun _ => H0.out (by omega), fun _ => key1_no ‹_›, by omega⟩
        case measure => simp [intOf]
    · have r2 := keys_at2
      go_wp2
      · go_ret
        exact ⟨ret_bool (key2_yes ‹_›).symm, rfl⟩
      · go_round
        case rel => exact ⟨3, by omega, rfl, fun _ => H0.out (by omega), fun _ => H1.out (by omega), fun _ => key2_no ‹_›⟩
        case measure => simp [intOf]
    · go_wp2
      go_ret
      exact ⟨ret_bool (keyB_not (H0.out (by omega)) (H1.out (by omega)) (H2.out (by omega))).symm, rfl⟩

theorem specAtomOk_any (s : ByteArray) (w : World) (hs : s.size ≤ maxLen) :
    Calls Tryz.prog 68 #[.string s] w fun e w' => e = .returned (.bool (atomB s)) ∧ w' = w := by
  have hs' := hs
  unfold maxLen at hs
  have hn : nameB s = true ∨ nameB s = false := by cases nameB s <;> simp
  rcases hn with hn | hn
  · have hz := nameB_size s hn
    have hb := byte_lt s 0 hz
    have hf := first_eq s hz
    have HF : Hid ((s[0].toNat : Int) = firstN s) := hf
    clear hf
    have hi : inB (s[0].toNat : Int) 97 122 = true ∨ inB (s[0].toNat : Int) 97 122 = false := by cases inB (s[0].toNat : Int) 97 122 <;> simp
    rcases hi with hi | hi
    · go_enter Tryz.func68, Tryz.ntmps68
      go_wp2_with (first
        | (go_at_call 75; go_must (refine (l01Name_any _ _ hs').mono ?_; rintro e w' ⟨rfl, rfl⟩))
        | (go_at_call 76; go_must (refine (l01Small_any _ _ hb.1 hb.2).mono ?_; rintro e w' ⟨rfl, rfl⟩))
        | (go_at_call 77; go_must (refine (l01Key_any _ _).mono ?_; rintro e w' ⟨rfl, rfl⟩)))
      go_ret
      exact ⟨ret_bool (by rw [HF.out] at hi; simp [atomB, hn, hi]), rfl⟩
    · go_enter Tryz.func68, Tryz.ntmps68
      go_wp2_with (first
        | (go_at_call 75; go_must (refine (l01Name_any _ _ hs').mono ?_; rintro e w' ⟨rfl, rfl⟩))
        | (go_at_call 76; go_must (refine (l01Small_any _ _ hb.1 hb.2).mono ?_; rintro e w' ⟨rfl, rfl⟩)))
      go_ret
      exact ⟨ret_bool (by rw [HF.out] at hi; simp [atomB, hi]), rfl⟩
  · go_enter Tryz.func68, Tryz.ntmps68
    go_wp2_with (go_at_call 75; go_must (refine (l01Name_any _ _ hs').mono ?_; rintro e w' ⟨rfl, rfl⟩))
    go_ret
    exact ⟨ret_bool (by simp [atomB, hn]), rfl⟩

theorem implAtomOk_any (s : ByteArray) (w : World) (hs : s.size ≤ maxLen) (hk : KeysAt w) :
    Calls Tryz.prog 73 #[.string s] w fun e w' => e = .returned (.bool (atomB s)) ∧ w' = w := by
  have hs' := hs
  unfold maxLen at hs
  have hn : nameB s = true ∨ nameB s = false := by cases nameB s <;> simp
  rcases hn with hn | hn
  · have hz := nameB_size s hn
    have hb := byte_lt s 0 hz
    have hf := first_eq s hz
    have HF : Hid ((s[0].toNat : Int) = firstN s) := hf
    clear hf
    have hi : inB (s[0].toNat : Int) 97 122 = true ∨ inB (s[0].toNat : Int) 97 122 = false := by cases inB (s[0].toNat : Int) 97 122 <;> simp
    rcases hi with hi | hi
    · go_enter Tryz.func73, Tryz.ntmps73
      go_wp2_with (first
        | (go_at_call 79; go_must (refine (nameOk_any _ _ hs').mono ?_; rintro e w' ⟨rfl, rfl⟩))
        | (go_at_call 80; go_must (refine (isSmall_any _ _ hb.1 hb.2).mono ?_; rintro e w' ⟨rfl, rfl⟩))
        | (go_at_call 81; go_must (refine (isKeyword_any _ _ hk).mono ?_; rintro e w' ⟨rfl, rfl⟩)))
      go_ret
      exact ⟨ret_bool (by rw [HF.out] at hi; simp [atomB, hn, hi]), rfl⟩
    · go_enter Tryz.func73, Tryz.ntmps73
      go_wp2_with (first
        | (go_at_call 79; go_must (refine (nameOk_any _ _ hs').mono ?_; rintro e w' ⟨rfl, rfl⟩))
        | (go_at_call 80; go_must (refine (isSmall_any _ _ hb.1 hb.2).mono ?_; rintro e w' ⟨rfl, rfl⟩)))
      go_ret
      exact ⟨ret_bool (by rw [HF.out] at hi; simp [atomB, hi]), rfl⟩
  · go_enter Tryz.func73, Tryz.ntmps73
    go_wp2_with (go_at_call 79; go_must (refine (nameOk_any _ _ hs').mono ?_; rintro e w' ⟨rfl, rfl⟩))
    go_ret
    exact ⟨ret_bool (by simp [atomB, hn]), rfl⟩
end Go.Proofs.YtmnghlkkfkpjhaaGreatDoor
