/-
  Texts of the proof, packed: RowH, CutRow, CmpImpl.
-/
import Derived.Test.YtmnghlkkfkpjhaaGreatDoorPackD
import Derived.Test.YtmnghlkkfkpjhaaGreatDoorPackB
/-
  Rows that are grown by append: what a step of append leaves as it was.
-/
namespace Go.Proofs.YtmnghlkkfkpjhaaGreatDoor
open Go.ChangeShapes Go.WideShapes Go.ChangeAt Go.RowKit
set_option linter.unusedVariables false

theorem owns_below {w w' : World} {B : Nat} {e : TypeId} {c n : Nat} {v : Value} {cells : List Value} (h : w.ownsRow B e c v n cells) (hg : w.grownBy w' v.ownBlock) (hB : B ≤ w.heap.size) : Below B w w' :=
  ⟨hg.os, hg.tape, hg.output, hg.size, fun j hj => hg.block j (by omega) (fun e => by
    have := (owns_own_lt h e.symm).1
    omega)⟩
theorem owns_next {w w' : World} {B : Nat} {e : TypeId} {c n : Nat} {v : Value} {cells : List Value} (h : w.ownsRow B e c v n cells) (hb : Below w.heap.size w w') : w'.ownsRow B e c v n cells := by
  refine ⟨h.1, ?_⟩
  rcases h.2 with hn | ⟨g, cap, cur, hv, hB, hg, hr⟩
  · exact .inl hn
  · exact .inr ⟨g, cap, cur, hv, hB, (hb.block g (Array.getElem?_eq_some_iff.1 hg).1).trans hg, hr⟩
theorem owns_fresh {w : World} {e : TypeId} {c : Nat} : (w.alloc (.cells #[] e)).ownsRow w.heap.size e c (.slice (some ⟨w.heap.size, 0, none⟩) 0 0) 0 [] := by
  refine ⟨by simp, .inr ⟨w.heap.size, 0, #[], rfl, Nat.le_refl _, ?_, Nat.le_refl _, Nat.zero_le _, by simp, by simp⟩⟩
  exact Blk.new (w := w) (cs := #[]) (t := e)
/-- Two rows of other types lie in other blocks: one grows, the other stays. -/
theorem owns_apart {w w' : World} {B B' : Nat} {e e' : TypeId} {c c' n n' : Nat} {v v' : Value} {xs xs' : List Value} (h : w.ownsRow B e c v n xs) (k : w.ownsRow B' e' c' v' n' xs') (hne : e ≠ e') (hg : w.grownBy w' v.ownBlock) : w'.ownsRow B' e' c' v' n' xs' := by
  refine ⟨k.1, ?_⟩
  rcases k.2 with hn | ⟨g, cap, cur, hv, hB, hh, hr⟩
  · exact .inl hn
  · refine .inr ⟨g, cap, cur, hv, hB, (hg.block g (Array.getElem?_eq_some_iff.1 hh).1 (fun e1 => ?_)).trans hh, hr⟩
    rcases h.2 with ⟨rfl, _⟩ | ⟨g2, cap2, cur2, rfl, _, hh2, _⟩
    · simp [Value.ownBlock] at e1
    · simp [Value.ownBlock] at e1
      subst e1
      rw [hh] at hh2
      simp at hh2
      exact hne hh2.2.symm
theorem owns_base {w : World} {B : Nat} {e : TypeId} {c n : Nat} {v : Value} {xs : List Value} (h : w.ownsRow B e c v n xs) : w.ownsRow 0 e c v n xs := by
  refine ⟨h.1, ?_⟩
  rcases h.2 with hn | ⟨g, cap, cur, hv, hB, hr⟩
  · exact .inl hn
  · exact .inr ⟨g, cap, cur, hv, Nat.zero_le _, hr⟩
theorem owns_slice {w : World} {B : Nat} {e : TypeId} {c n : Nat} {v : Value} {xs : List Value} (h : w.ownsRow B e c v n xs) : ∃ p q, v = .slice p n q ∧ n ≤ maxLen := by
  rcases h.2 with ⟨rfl, rfl⟩ | ⟨g, cap, cur, rfl, hB, hh, h1, h2, _⟩
  · exact ⟨_, _, rfl, Nat.zero_le _⟩
  · exact ⟨_, _, rfl, Nat.le_trans h1 h2⟩
theorem owns_some {w : World} {B : Nat} {e : TypeId} {c n q : Nat} {p : Option Addr} {xs : List Value} (h : w.ownsRow B e c (.slice p n q) n xs) (hn : 0 < n) : ∃ g, p = some ⟨g, 0, none⟩ := by
  rcases h.2 with ⟨hv, rfl⟩ | ⟨g, cap, cur, hv, _⟩
  · omega
  · simp at hv
    exact ⟨g, hv.1⟩


/-- Blocks of other types than e lie as they did. -/
def ApartE (e : TypeId) (w w' : World) : Prop := ∀ (b : Nat) (cs : Array Value) (t : TypeId) (fr : Nat × Nat), w.heap[b]? = some (Obj.cells cs t fr) → t ≠ e → w'.heap[b]? = w.heap[b]?
theorem ApartE.blk {e t : TypeId} {w w' : World} (h : ApartE e w w') {b : Nat} {cs : Array Value} (hb : Blk w b cs t) (ht : t ≠ e) : Blk w' b cs t := (h b cs t _ hb ht).trans hb
theorem ApartE.owns {e t : TypeId} {w w' : World} (h : ApartE e w w') {B c n : Nat} {v : Value} {xs : List Value} (k : w.ownsRow B t c v n xs) (ht : t ≠ e) : w'.ownsRow B t c v n xs := by
  refine ⟨k.1, ?_⟩
  rcases k.2 with hn | ⟨g, cap, cur, hv, hB, hh, hr⟩
  · exact .inl hn
  · exact .inr ⟨g, cap, cur, hv, hB, (h g _ _ _ hh ht).trans hh, hr⟩
theorem ApartE.refl (e : TypeId) (w : World) : ApartE e w w := fun _ _ _ _ _ _ => rfl
theorem ApartE.of_below {e : TypeId} {w w' : World} (h : Below w.heap.size w w') : ApartE e w w' := fun b _ _ _ hb _ => h.block b (Array.getElem?_eq_some_iff.1 hb).1
theorem ApartE.trans {e : TypeId} {a b c : World} (h : ApartE e a b) (k : ApartE e b c) : ApartE e a c := fun g cs t fr hg ht => by
  have h1 := h g cs t fr hg ht
  exact (k g cs t fr (h1.trans hg) ht).trans h1
theorem ApartE.of_grown {e : TypeId} {w w' : World} {B c n : Nat} {v : Value} {xs : List Value} (h : w.ownsRow B e c v n xs) (hg : w.grownBy w' v.ownBlock) : ApartE e w w' := fun b cs t fr hb ht =>
  hg.block b (Array.getElem?_eq_some_iff.1 hb).1 (fun e1 => by
    rcases h.2 with ⟨rfl, _⟩ | ⟨g2, cap2, cur2, rfl, _, hh2, _⟩
    · simp [Value.ownBlock] at e1
    · simp [Value.ownBlock] at e1
      subst e1
      rw [hb] at hh2
      simp at hh2
      exact ht hh2.2.1)

/-- The row v holds just the elements l, by R; it lies in a block of its own at B or above. -/
def OwnG {α : Type} (e : TypeId) (c : Nat) (R : List Value → α → Prop) (w : World) (B : Nat) (v : Value) (l : List α) : Prop := (∃ cells, w.ownsRow B e c v l.length cells ∧ CellsR c R cells l) ∧ B ≤ w.heap.size
section
variable {α : Type} {e : TypeId} {c : Nat} {R : List Value → α → Prop} {w w' : World} {B B' : Nat} {v : Value} {l : List α}
theorem OwnG.next (h : OwnG e c R w B v l) (hb : Below w.heap.size w w') : OwnG e c R w' B v l := by
  obtain ⟨⟨cells, h1, h2⟩, h3⟩ := h
  exact ⟨⟨cells, owns_next h1 hb, h2⟩, Nat.le_trans h3 hb.size⟩
theorem OwnG.base (h : OwnG e c R w B v l) (hB : B' ≤ B) : OwnG e c R w B' v l := by
  obtain ⟨⟨cells, h1, h2⟩, h3⟩ := h
  refine ⟨⟨cells, ⟨h1.1, ?_⟩, h2⟩, Nat.le_trans hB h3⟩
  rcases h1.2 with hn | ⟨g, cap, cur, hv, hB1, hr⟩
  · exact .inl hn
  · exact .inr ⟨g, cap, cur, hv, Nat.le_trans hB hB1, hr⟩
theorem OwnG.fresh : OwnG e c R (w.alloc (.cells #[] e)) w.heap.size (.slice (some ⟨w.heap.size, 0, none⟩) 0 0) [] :=
  ⟨⟨[], owns_fresh, CellsR.nil⟩, by rw [alloc_hs]; omega⟩
theorem OwnG.rows (h : OwnG e c R w B v l) : Rows w All c R v l := by
  obtain ⟨⟨cells, h1, h2⟩, h3⟩ := h
  exact CellsR.rows h1 h2 rfl
theorem OwnG.slice (h : OwnG e c R w B v l) : ∃ p q, v = .slice p l.length q ∧ l.length ≤ maxLen := by
  obtain ⟨⟨cells, h1, h2⟩, h3⟩ := h
  exact owns_slice h1
/-- append(s, x): x was built in a block of its own just ahead. -/
theorem wpList_append_one {P : Program} {w0 : World} {ops : Array Oper} {rest : List Oper} {o : Oper} {a : Act} {Q : Exit → Act → World → Prop} (hgd : o.guard = none) (s x : Operand) (t : TypeId)
    (ho : o.op = .call { callee := .builtin .append, args := #[s, x], argTypes := #[t, t] })
    (z : Value) (bytes : Nat) (ht : P.underlying t = some (.slice e)) (hi : (P.info? e).map (fun i => (i.zero, i.size, i.bytes)) = some (some z, c, bytes)) (hzs : z.cells.size = c) (hsz : 0 < c)
    (h : OwnG e c R w0 B v l) (cs : Array Value) (q : α) (hq : R cs.toList q) (hc : cs.size = c) (h1 : ∀ u ∈ cs.toList, u.oneCell' = true) (hs : a.eval s = v) (hx : a.eval x = .slice (some ⟨w0.heap.size, 0, none⟩) 1 1)
    (hl : l.length + 1 ≤ 1048576) (hb : bytes ≤ 1000)
    (k : ∀ v' w', OwnG e c R w' B v' (l ++ [q]) → Below B w0 w' → ApartE e w0 w' → wpList P ops Q rest (a.put o.dst v') w') : wpList P ops Q (o :: rest) a (w0.alloc (.cells cs e)) := by
  obtain ⟨i, hi', hz0, hz1, hz2⟩ := info_parts hi
  obtain ⟨⟨cells, g1, g2⟩, g3⟩ := h
  have hal : Below w0.heap.size w0 (w0.alloc (.cells cs e)) := (Below.refl _ _).alloc (Nat.le_refl _) _
  have own := owns_next g1 hal
  refine wpList_append_own _ hgd s x t ho B e i z c bytes ht hi' hz0 hz1 hz2 hzs hsz v l.length cells hs own ⟨w0.heap.size, 0, none⟩ 1 1 cs.toList hx (by simp [hc]) (World.news_of_block (cs := cs) (t := e) (fr := (0, 0)) (heap_alloc_new w0 _)) h1 (by unfold maxLen; omega) (by
    have : (l.length + 1) * bytes ≤ 1048576 * 1000 := Nat.mul_le_mul hl hb
    omega) (by rw [alloc_hs]; omega) ?_
  intro v' w' k1 k2 _
  refine k v' w' ⟨⟨_, by simpa using k1, g2.append (CellsR.one (by simpa using hc) hq)⟩, Nat.le_trans (by rw [alloc_hs]; omega) k2.size⟩ ?_ ((ApartE.of_below hal).trans (ApartE.of_grown own k2))
  exact (hal.mono g3).trans (owns_below own k2 (by rw [alloc_hs]; omega))
/-- append(s, xs...) of a row of the same elements. -/
theorem wpList_append_own_rows {P : Program} {S : Nat → Prop} {ops : Array Oper} {rest : List Oper} {o : Oper} {a : Act} {Q : Exit → Act → World → Prop} (hgd : o.guard = none) (s x : Operand) (t : TypeId)
    (ho : o.op = .call { callee := .builtin .append, args := #[s, x], argTypes := #[t, t] })
    (z : Value) (bytes : Nat) (ht : P.underlying t = some (.slice e)) (hi : (P.info? e).map (fun i => (i.zero, i.size, i.bytes)) = some (some z, c, bytes)) (hzs : z.cells.size = c) (hsz : 0 < c)
    (h : OwnG e c R w B v l) (hs : a.eval s = v) (u : Value) (m : List α) (hx : a.eval x = u) (hr : Rows w S c R u m) (hone : ∀ cs y, R cs y → ∀ q ∈ cs, q.oneCell' = true)
    (hl : l.length + m.length ≤ 1048576) (hb : bytes ≤ 1000)
    (k : ∀ v' w', OwnG e c R w' B v' (l ++ m) → Below B w w' → ApartE e w w' → wpList P ops Q rest (a.put o.dst v') w') : wpList P ops Q (o :: rest) a w := by
  obtain ⟨i, hi', hz0, hz1, hz2⟩ := info_parts hi
  obtain ⟨⟨cells, g1, g2⟩, g3⟩ := h
  refine wpList_append_rows hgd s x t ho B e i z c bytes ht hi' hz0 hz1 hz2 hzs hsz v l.length cells hs g1 u m hx hr hone (by unfold maxLen; omega) (by
    have : (l.length + m.length) * bytes ≤ 1048576 * 1000 := Nat.mul_le_mul hl hb
    omega) g3 ?_
  intro v' w' news hc k1 k2
  exact k v' w' ⟨⟨_, by simpa using k1, g2.append hc⟩, Nat.le_trans g3 k2.size⟩ (owns_below g1 k2 g3) (ApartE.of_grown g1 k2)
/-- append(s, x), and where the row lies behind it: where it lay, or in a new block. -/
theorem wpList_append_lies {P : Program} {w0 : World} {ops : Array Oper} {rest : List Oper} {o : Oper} {a : Act} {Q : Exit → Act → World → Prop} (hgd : o.guard = none) (s x : Operand) (t : TypeId)
    (ho : o.op = .call { callee := .builtin .append, args := #[s, x], argTypes := #[t, t] })
    (z : Value) (bytes : Nat) (ht : P.underlying t = some (.slice e)) (hi : (P.info? e).map (fun i => (i.zero, i.size, i.bytes)) = some (some z, c, bytes)) (hzs : z.cells.size = c) (hsz : 0 < c)
    (h : OwnG e c R w0 B v l) (cs : Array Value) (q : α) (hq : R cs.toList q) (hc : cs.size = c) (h1 : ∀ u ∈ cs.toList, u.oneCell' = true) (hs : a.eval s = v) (hx : a.eval x = .slice (some ⟨w0.heap.size, 0, none⟩) 1 1)
    (hl : l.length + 1 ≤ 1048576) (hb : bytes ≤ 1000)
    (k : ∀ g cap w', OwnG e c R w' B (.slice (some ⟨g, 0, none⟩) (l.length + 1) cap) (l ++ [q]) → Below B w0 w' → ApartE e w0 w' → (v.ownBlock = some g ∨ w0.heap.size ≤ g) → (∀ j, j < w0.heap.size → some j ≠ v.ownBlock → w'.heap[j]? = w0.heap[j]?) → wpList P ops Q rest (a.put o.dst (.slice (some ⟨g, 0, none⟩) (l.length + 1) cap)) w') : wpList P ops Q (o :: rest) a (w0.alloc (.cells cs e)) := by
  obtain ⟨i, hi', hz0, hz1, hz2⟩ := info_parts hi
  obtain ⟨⟨cells, g1, g2⟩, g3⟩ := h
  have hal : Below w0.heap.size w0 (w0.alloc (.cells cs e)) := (Below.refl _ _).alloc (Nat.le_refl _) _
  have own := owns_next g1 hal
  refine wpList_plain hgd fun _ hK => wp_append_lies _ s x t ho B e i z c bytes ht hi' hz0 hz1 hz2 hzs hsz v l.length cells hs own ⟨w0.heap.size, 0, none⟩ 1 1 cs.toList hx (by simp [hc]) (World.news_of_block (cs := cs) (t := e) (fr := (0, 0)) (heap_alloc_new w0 _)) h1 (by omega) (by unfold maxLen; omega) (by
    have : (l.length + 1) * bytes ≤ 1048576 * 1000 := Nat.mul_le_mul hl hb
    omega) (by rw [alloc_hs]; omega) (w0.heap.size + 1) (by rw [alloc_hs]) ?_
  intro g cap w' k1 k2 k3 k4
  refine hK _ _ (k g cap w' ⟨⟨_, by simpa using k1, g2.append (CellsR.one (by simpa using hc) hq)⟩, Nat.le_trans (by rw [alloc_hs]; omega) k2.size⟩ ?_ ((ApartE.of_below hal).trans (ApartE.of_grown own k2)) (k3.imp id (fun e => by omega)) (fun j hj hn => ?_))
  · exact (hal.mono g3).trans (owns_below own k2 (by rw [alloc_hs]; omega))
  · exact (k2.block j (by rw [alloc_hs]; omega) hn).trans (hal.block j hj)
theorem OwnG.setCell {b j : Nat} {cs : Array Value} {t : TypeId} {x : Value} (h : OwnG e c R w B v l) (hb : Blk w b cs t) (ht : t ≠ e) : OwnG e c R (w.setCell ⟨b, j, none⟩ x) B v l := by
  obtain ⟨⟨cells, g1, g2⟩, g3⟩ := h
  refine ⟨⟨cells, ⟨g1.1, ?_⟩, g2⟩, by rw [setCell_hs]; exact g3⟩
  rcases g1.2 with hn | ⟨g, cap, cur, hv, hB, hh, hr⟩
  · exact .inl hn
  · refine .inr ⟨g, cap, cur, hv, hB, (Below.heap_setCell _ _ _ _ (fun e1 => ?_)).trans hh, hr⟩
    have e2 : g = b := e1
    subst e2
    rw [show w.heap[g]? = _ from hb] at hh
    simp at hh
    exact ht hh.2
/-- The same as an arm of a region that draws its order: what is appended lies in the block g. -/
theorem step_append_blk {P : Program} {ops : Array Oper} {o : Oper} {a : Act} {K : Act → World → Prop} {Q : Exit → Act → World → Prop} {E : Prop} (hgd : o.guard = none) (s x : Operand) (t : TypeId)
    (ho : o.op = .call { callee := .builtin .append, args := #[s, x], argTypes := #[t, t] })
    (z : Value) (bytes : Nat) (ht : P.underlying t = some (.slice e)) (hi : (P.info? e).map (fun i => (i.zero, i.size, i.bytes)) = some (some z, c, bytes)) (hzs : z.cells.size = c) (hsz : 0 < c)
    (h : OwnG e c R w B v l) (g : Nat) (cs : Array Value) (hg : w.heap[g]? = some (Obj.cells cs e (0, 0))) (q : α) (hq : R cs.toList q) (hc : cs.size = c) (h1 : ∀ u ∈ cs.toList, u.oneCell' = true) (hs : a.eval s = v) (hx : a.eval x = .slice (some ⟨g, 0, none⟩) 1 1)
    (hl : l.length + 1 ≤ 1048576) (hb : bytes ≤ 1000)
    (k : ∀ v' w', OwnG e c R w' B v' (l ++ [q]) → Below B w w' → ApartE e w w' → K (a.put o.dst v') w') :
    if Region.wanted o (yielded ops a.tmps) = true then Oper.wp P o a w K Q else E := by
  have hw : Region.wanted o (yielded ops a.tmps) = true := by simp [Region.wanted, hgd]
  rw [if_pos hw]
  obtain ⟨i, hi', hz0, hz1, hz2⟩ := info_parts hi
  obtain ⟨⟨cells, g1, g2⟩, g3⟩ := h
  refine wp_append_own w s x t ho B e i z c bytes ht hi' hz0 hz1 hz2 hzs hsz v l.length cells hs g1 ⟨g, 0, none⟩ 1 1 cs.toList hx (by simp [hc]) (World.news_of_block (cs := cs) (t := e) (fr := (0, 0)) hg) h1 (by unfold maxLen; omega) (by
    have : (l.length + 1) * bytes ≤ 1048576 * 1000 := Nat.mul_le_mul hl hb
    omega) g3 ?_
  intro v' w' k1 k2 _
  exact k v' w' ⟨⟨_, by simpa using k1, g2.append (CellsR.one (by simpa using hc) hq)⟩, Nat.le_trans g3 k2.size⟩ (owns_below g1 k2 g3) (ApartE.of_grown g1 k2)
end
end Go.Proofs.YtmnghlkkfkpjhaaGreatDoor
/-
  Rows that are owned, or that are cut (no room behind them): an append to one of these leaves all that lies below N as it was.
-/
namespace Go.Proofs.YtmnghlkkfkpjhaaGreatDoor
open Go.ChangeShapes Go.WideShapes Go.ChangeAt Go.RowKit
set_option linter.unusedVariables false

def BnG {α : Type} (e : TypeId) (c : Nat) (R : List Value → α → Prop) (w : World) (N : Nat) (v : Value) (l : List α) : Prop :=
  OwnG e c R w N v l ∨ (N ≤ w.heap.size ∧ Rows w (fun g => g < N) c R v l ∧ ∃ p, v = .slice p l.length l.length)
section
variable {α : Type} {e : TypeId} {c : Nat} {R : List Value → α → Prop} {w w' : World} {N : Nat} {v : Value} {l : List α}
theorem BnG.low (h : BnG e c R w N v l) : N ≤ w.heap.size := by
  rcases h with h | h
  · exact h.2
  · exact h.1
theorem BnG.rows (h : BnG e c R w N v l) : Rows w All c R v l := by
  rcases h with h | h
  · exact h.rows
  · exact h.2.1.mono ⟨Nat.le_refl _, fun _ _ _ => rfl⟩ (fun _ _ => trivial) (fun _ _ _ h => h)
theorem BnG.next (h : BnG e c R w N v l) (hb : Below w.heap.size w w') : BnG e c R w' N v l := by
  rcases h with h | ⟨h1, h2, h3⟩
  · exact .inl (h.next hb)
  · exact .inr ⟨Nat.le_trans h1 hb.size, h2.mono (SameOn.of_below hb) (fun _ h => h) (fun _ _ _ h => h), h3⟩
theorem BnG.slice (h : BnG e c R w N v l) : ∃ p q, v = .slice p l.length q ∧ l.length ≤ maxLen := by
  rcases h with h | ⟨_, ⟨p, cap, hv, h1, h2, _⟩, _⟩
  · exact h.slice
  · exact ⟨p, cap, hv, by omega⟩

theorem run_append_bn {P : Program} (t ty : TypeId) (z : Value) (bytes : Nat) (ht : P.underlying t = some (.slice e)) (hi : (P.info? e).map (fun i => (i.zero, i.size, i.bytes)) = some (some z, c, bytes)) (hzs : z.cells.size = c) (hsz : 0 < c)
    (h : BnG e c R w N v l) (g : Nat) (cs : Array Value) (hg : w.heap[g]? = some (Obj.cells cs e (0, 0))) (q : α) (hq : R cs.toList q) (hc : cs.size = c) (h1 : ∀ u ∈ cs.toList, u.oneCell' = true)
    (hl : l.length + 1 ≤ 1048576) (hb : bytes ≤ 1000) :
    ∃ v' w', (Builtin.append_ #[t, t] ty #[v, .slice (some ⟨g, 0, none⟩) 1 1]).run P w = .ok v' w' ∧ OwnG e c R w' N v' (l ++ [q]) ∧ Below N w w' := by
  obtain ⟨i, hi', hz0, hz1, hz2⟩ := info_parts hi
  have hnews := World.news_of_block (cs := cs) (t := e) (fr := (0, 0)) hg
  have hbytes : (l.length + 1) * bytes ≤ 140737488355328 := by
    have : (l.length + 1) * bytes ≤ 1048576 * 1000 := Nat.mul_le_mul hl hb
    omega
  have hncl : cs.toList.length = 1 * c := by simp [hc]
  have own : ∀ cells, w.ownsRow N e c v l.length cells → CellsR c R cells l → N ≤ w.heap.size →
      ∃ v' w', (Builtin.append_ #[t, t] ty #[v, .slice (some ⟨g, 0, none⟩) 1 1]).run P w = .ok v' w' ∧ OwnG e c R w' N v' (l ++ [q]) ∧ Below N w w' := by
    intro cells g1 g2 g3
    obtain ⟨v', w', r1, r2, r3, _⟩ := run_append_own (P := P) w N t ty e i z c bytes ht hi' hz0 hz1 hz2 hzs hsz v l.length cells g1 ⟨g, 0, none⟩ 1 1 cs.toList hncl hnews h1 (by unfold maxLen; omega) hbytes g3
    exact ⟨v', w', r1, ⟨⟨_, by simpa using r2, g2.append (CellsR.one (by simpa using hc) hq)⟩, Nat.le_trans g3 r3.size⟩, owns_below g1 r3 g3⟩
  rcases h with ⟨⟨cells, g1, g2⟩, g3⟩ | ⟨hN, hr, p, rfl⟩
  · exact own cells g1 g2 g3
  · cases p with
    | none =>
      obtain ⟨p', cap', hv, _, _, hx⟩ := id hr
      have hle : l = [] := Classical.byContradiction fun hne => by
        obtain ⟨g', off, hp, _⟩ := hx hne
        rw [hp] at hv
        cases hv
      subst hle
      exact own [] (World.ownsRow_nil w N e c) CellsR.nil hN
    | some ad =>
      obtain ⟨-, cells, hcr, hcells⟩ := rowsCellsR hsz hr
      have hlen0 : cells.length = l.length * c := hcr.1
      have hrun := run_append_grow (P := P) w t ty e i z ht hi' hz0 ad l.length l.length cells (by rw [hz1]; exact hlen0) hcells ⟨g, 0, none⟩ 1 1 cs.toList (by rw [hz1]; exact hncl) hnews (by omega) (by omega) (by rw [hz2]; exact growslice_fits (by omega) hbytes)
      have hge := grownCap_ge w (l.length + 1) l.length e
      have hcm2 : grownCap w (l.length + 1) l.length e ≤ maxLen := grownCap_le_maxLen w (l.length + 1) l.length e (by unfold maxLen; omega)
      have hlen : (cells ++ cs.toList).length = (l.length + 1) * c := by rw [List.length_append, hlen0, hncl, Nat.add_mul]
      refine ⟨_, _, hrun, ⟨⟨cells ++ cs.toList, ⟨by simpa using hlen, .inr ⟨w.heap.size, _, _, by simp, hN, heap_alloc_new w.drew _, by simpa using hge, hcm2, ?_, ?_⟩⟩, hcr.append (CellsR.one (by simpa using hc) hq)⟩, ?_⟩, ⟨rfl, rfl, rfl, ?_, fun k hk => ?_⟩⟩
      · simp only [Array.size_append, List.size_toArray, size_zeroCells, hzs, hlen0, hncl, ← Nat.add_mul]
        congr 1
        omega
      · have h2 : (l ++ [q]).length * c = (cells ++ cs.toList).length := by rw [hlen]; simp
        simp only [Array.toList_append, List.append_assoc]
        rw [← List.append_assoc, h2]
        exact List.take_left
      · simp only [alloc_hs]; show N ≤ w.heap.size + 1; omega
      · simp only [alloc_hs]; show w.heap.size ≤ w.heap.size + 1; omega
      · exact Go.heap_alloc_old w.drew _ (show k < w.heap.size by omega)

/-- append(s, x) to a row that is owned or cut: what is appended lies in the block g; an arm of a region that draws its order. -/
theorem step_append_bn {P : Program} {ops : Array Oper} {o : Oper} {a : Act} {K : Act → World → Prop} {Q : Exit → Act → World → Prop} {E : Prop} (hgd : o.guard = none) (s x : Operand) (t : TypeId)
    (ho : o.op = .call { callee := .builtin .append, args := #[s, x], argTypes := #[t, t] })
    (z : Value) (bytes : Nat) (ht : P.underlying t = some (.slice e)) (hi : (P.info? e).map (fun i => (i.zero, i.size, i.bytes)) = some (some z, c, bytes)) (hzs : z.cells.size = c) (hsz : 0 < c)
    (h : BnG e c R w N v l) (g : Nat) (cs : Array Value) (hg : w.heap[g]? = some (Obj.cells cs e (0, 0))) (q : α) (hq : R cs.toList q) (hc : cs.size = c) (h1 : ∀ u ∈ cs.toList, u.oneCell' = true) (hs : a.eval s = v) (hx : a.eval x = .slice (some ⟨g, 0, none⟩) 1 1)
    (hl : l.length + 1 ≤ 1048576) (hb : bytes ≤ 1000)
    (k : ∀ v' w', OwnG e c R w' N v' (l ++ [q]) → Below N w w' → K (a.put o.dst v') w') :
    if Region.wanted o (yielded ops a.tmps) = true then Oper.wp P o a w K Q else E := by
  have hw : Region.wanted o (yielded ops a.tmps) = true := by simp [Region.wanted, hgd]
  rw [if_pos hw]
  obtain ⟨v', w', hr, h2, h3⟩ := run_append_bn (P := P) t o.type z bytes ht hi hzs hsz h g cs hg q hq hc h1 hl hb
  unfold Oper.wp execOp
  simp only [ho, resolve, invoke, builtin, Sem.run_bind, Sem.run_pure, Result.andThen_ok, List.map_toArray, List.map_cons, List.map_nil, hs, hx, hr]
  exact k v' w' h2 h3
/-- The same in a region that goes in order. -/
theorem wpList_append_bn {P : Program} {ops : Array Oper} {rest : List Oper} {o : Oper} {a : Act} {Q : Exit → Act → World → Prop} (hgd : o.guard = none) (s x : Operand) (t : TypeId)
    (ho : o.op = .call { callee := .builtin .append, args := #[s, x], argTypes := #[t, t] })
    (z : Value) (bytes : Nat) (ht : P.underlying t = some (.slice e)) (hi : (P.info? e).map (fun i => (i.zero, i.size, i.bytes)) = some (some z, c, bytes)) (hzs : z.cells.size = c) (hsz : 0 < c)
    (h : BnG e c R w N v l) (g : Nat) (cs : Array Value) (hg : w.heap[g]? = some (Obj.cells cs e (0, 0))) (q : α) (hq : R cs.toList q) (hc : cs.size = c) (h1 : ∀ u ∈ cs.toList, u.oneCell' = true) (hs : a.eval s = v) (hx : a.eval x = .slice (some ⟨g, 0, none⟩) 1 1)
    (hl : l.length + 1 ≤ 1048576) (hb : bytes ≤ 1000)
    (k : ∀ v' w', OwnG e c R w' N v' (l ++ [q]) → Below N w w' → wpList P ops Q rest (a.put o.dst v') w') : wpList P ops Q (o :: rest) a w := by
  refine wpList_plain hgd fun K hK => ?_
  obtain ⟨v', w', hr, h2, h3⟩ := run_append_bn (P := P) t o.type z bytes ht hi hzs hsz h g cs hg q hq hc h1 hl hb
  unfold Oper.wp execOp
  simp only [ho, resolve, invoke, builtin, Sem.run_bind, Sem.run_pure, Result.andThen_ok, List.map_toArray, List.map_cons, List.map_nil, hs, hx, hr]
  exact hK _ _ (k v' w' h2 h3)
end
end Go.Proofs.YtmnghlkkfkpjhaaGreatDoor
/-
  The order of values: the program's CompareVal, by contract.
-/
namespace Go.Proofs.YtmnghlkkfkpjhaaGreatDoor
open Go.ChangeShapes Go.WideShapes Go.ChangeAt Go.RowKit
set_option linter.unusedVariables false

theorem isNaN_any (a : Int) (w : World) : Calls Tryz.prog 56 #[.int .i64 a] w fun e w' => e = .returned (.bool false) ∧ w' = w := by
  go_enter Tryz.func56, Tryz.ntmps56
  go_wp2
  go_ret
  exact ⟨rfl, rfl⟩

theorem cmpInt_any (a b : Int) (w : World) : Calls Tryz.prog 30 #[.int .i64 a, .int .i64 b] w fun e w' => e = .returned (.int .i64 (cmpI a b)) ∧ w' = w := by
  by_cases h1 : a < b
  · have HS : Hid (cmpI a b = -1) := cmpI_lt h1
    go_enter Tryz.func30, Tryz.ntmps30
    go_wp2_with (go_at_call 56; go_must (refine (isNaN_any _ _).mono ?_; rintro e w' ⟨rfl, rfl⟩))
    go_ret
    exact ⟨by rw [HS.out]; rfl, rfl⟩
  by_cases h2 : b < a
  · have HS : Hid (cmpI a b = 1) := cmpI_gt h2
    go_enter Tryz.func30, Tryz.ntmps30
    go_wp2_with (go_at_call 56; go_must (refine (isNaN_any _ _).mono ?_; rintro e w' ⟨rfl, rfl⟩))
    go_ret
    exact ⟨by rw [HS.out]; rfl, rfl⟩
  obtain rfl : a = b := by omega
  have HS : Hid (cmpI a a = 0) := cmpI_self a
  go_enter Tryz.func30, Tryz.ntmps30
  go_wp2_with (go_at_call 56; go_must (refine (isNaN_any _ _).mono ?_; rintro e w' ⟨rfl, rfl⟩))
  go_ret
  exact ⟨by rw [HS.out]; rfl, rfl⟩

set_option maxRecDepth 100000 in
theorem compareString_any (a b : ByteArray) (w : World) :
    Calls Tryz.prog 57 #[.string a, .string b] w fun e w' => e = .returned (.int .i64 (cmpS a b)) ∧ w' = w := by
  go_enter Tryz.func57, Tryz.ntmps57
  go_wp2
  rw [run_callFunc_extern Tryz.func72 (by kernel_rfl) (by kernel_rfl) (by kernel_rfl) (e := Extern.BytealgCompare.compare) (by kernel_rfl), Lib.run_compareString]
  simp only [Result.andThen]
  rw [Oper.upon_value]
  go_wp2
  go_ret
  exact ⟨rfl, rfl⟩

theorem stringsCompare_any (a b : ByteArray) (w : World) :
    Calls Tryz.prog 31 #[.string a, .string b] w fun e w' => e = .returned (.int .i64 (cmpS a b)) ∧ w' = w := by
  go_enter Tryz.func31, Tryz.ntmps31
  go_wp2_with (go_at_call 57; go_must (refine (compareString_any _ _ _).mono ?_; rintro e w' ⟨rfl, rfl⟩))
  go_ret
  exact ⟨rfl, rfl⟩

/-- The first of three that is not 0. -/
def or3 (a b c : Int) : Int := if a = 0 then (if b = 0 then c else b) else a

theorem cmpOr_any (a b c : Int) (g : Nat) (w : World) (h0 : w.cell? ⟨g, 0, none⟩ = some (.int .i64 a)) (h1 : w.cell? ⟨g, 1, none⟩ = some (.int .i64 b)) (h2 : w.cell? ⟨g, 2, none⟩ = some (.int .i64 c)) :
    Calls Tryz.prog 29 #[.slice (some ⟨g, 0, none⟩) 3 3] w fun e w' => e = .returned (.int .i64 (or3 a b c)) ∧ w' = w := by
  go_enter Tryz.func29, Tryz.ntmps29
  go_wp2
  go_loopw [8] (fun iv wr => ∃ k : Nat, k ≤ 3 ∧ iv = .int .i64 k ∧ (1 ≤ k → a = 0) ∧ (2 ≤ k → b = 0) ∧ (3 ≤ k → c = 0) ∧ wr = w) (fun iv _ => 3 - (intOf iv).toNat)
  case atStart => exact ⟨0, by omega, rfl, fun h => by omega, fun h => by omega, fun h => by omega, rfl⟩
  case round =>
    obtain ⟨k, hk, rfl, e0, e1, e2, rfl⟩ := hrel
    match k, hk with
    | 0, _ =>
      by_cases hz : a = 0
      · go_wp2
        exact ⟨⟨1, by omega, by go_num, fun _ => hz, fun h => by omega, fun h => by omega, (by first | rfl | trivial)⟩, by simp [intOf]⟩
      · have HS : Hid (or3 a b c = a) := if_neg hz
        go_wp2
        go_ret
        exact ⟨by rw [HS.out]; rfl, rfl⟩
    | 1, _ =>
      have z0 := e0 (by omega)
      by_cases hz : b = 0
      · go_wp2
        exact ⟨⟨2, by omega, by go_num, fun _ => z0, fun _ => hz, fun h => by omega, (by first | rfl | trivial)⟩, by simp [intOf]⟩
      · have HS : Hid (or3 a b c = b) := by show _ = _; unfold or3; rw [if_pos z0, if_neg hz]
        go_wp2
        go_ret
        exact ⟨by rw [HS.out]; rfl, rfl⟩
    | 2, _ =>
      have z0 := e0 (by omega)
      have z1 := e1 (by omega)
      by_cases hz : c = 0
      · go_wp2
        exact ⟨⟨3, by omega, by go_num, fun _ => z0, fun _ => z1, fun _ => hz, (by first | rfl | trivial)⟩, by simp [intOf]⟩
      · have HS : Hid (or3 a b c = c) := by show _ = _; unfold or3; rw [if_pos z0, if_pos z1]
        go_wp2
        go_ret
        exact ⟨by rw [HS.out]; rfl, rfl⟩
    | 3, _ =>
      have HS : Hid (or3 a b c = 0) := by show _ = _; unfold or3; rw [if_pos (e0 (by omega)), if_pos (e1 (by omega)), e2 (by omega)]
      go_wp2
      go_ret
      exact ⟨by rw [HS.out]; rfl, rfl⟩
    | k + 4, hk => omega

/-- A function of two rows and of a function that compares their elements. -/
def OrdF {α : Type} (F G : FuncId) (H : World → Value → α → Prop) (f : α → α → Int) : Prop :=
  ∀ (w : World) (v1 v2 : Value) (x y : α), H w v1 x → H w v2 y → Calls Tryz.prog F #[v1, v2, .func (.func G) #[] #[]] w fun e w' => e = .returned (.int .i64 (f x y)) ∧ Below w.heap.size w w'

set_option maxHeartbeats 8000000 in
theorem cmpFunc_of {d : Nat} (hE : OrdC 6 (fun w v e => ∃ cs, v = .agg cs.toArray ∧ HVa w All d cs e) (cmpVa d)) :
    OrdF 32 6 (fun w v es => Rows w All 4 (HVa w All d) v es) (cmpL (cmpVa d)) := by
  intro w v1 v2 es fs h1 h2
  obtain ⟨p, cap, rfl, hcl, hcm, hx⟩ := h1
  obtain ⟨q, cap', rfl, hcl', hcm', hy⟩ := h2
  have HB0 : es.length ≤ 9223372036854775807 := by unfold maxLen at hcm; omega
  have HB1 : fs.length ≤ 9223372036854775807 := by unfold maxLen at hcm'; omega
  generalize hm : fs.length = m at *
  have HM : Hid (fs.length = m) := hm
  generalize hn : es.length = n at *
  have HN : Hid (es.length = n) := hn
  have HX : Hid (es ≠ [] → ∃ g off, p = some ⟨g, off, none⟩ ∧ All g ∧ g < w.heap.size ∧ ∀ i x, es[i]? = some x → ∃ cs, cs.length = 4 ∧ (∀ j, j < 4 → w.cell? ⟨g, off + i * 4 + j, none⟩ = cs[j]?) ∧ HVa w All d cs x) := hx
  have HY : Hid (fs ≠ [] → ∃ g off, q = some ⟨g, off, none⟩ ∧ All g ∧ g < w.heap.size ∧ ∀ i x, fs[i]? = some x → ∃ cs, cs.length = 4 ∧ (∀ j, j < 4 → w.cell? ⟨g, off + i * 4 + j, none⟩ = cs[j]?) ∧ HVa w All d cs x) := hy
  clear hm hn hx hy
  go_enter Tryz.func32, Tryz.ntmps32
  go_wp2
  go_loopw [13] (fun iv wr => ∃ k : Nat, k ≤ n ∧ k ≤ m ∧ iv = .int .i64 k ∧ Hid (cmpL (cmpVa d) es fs = cmpL (cmpVa d) (es.drop k) (fs.drop k)) ∧ Below w.heap.size w wr) (fun iv _ => n - (intOf iv).toNat)
  case atStart => exact ⟨0, Nat.zero_le _, Nat.zero_le _, rfl, rfl, Below.refl _ _⟩
  case round =>
    obtain ⟨k, hk, hk', rfl, hsame, hb⟩ := hrel
    have HB : Hid (Below w.heap.size w wr) := hb
    by_cases hlt : k < n
    · obtain ⟨x, hxk⟩ : ∃ x, es[k]? = some x := ⟨es[k]'(by rw [HN.out]; exact hlt), List.getElem?_eq_getElem _⟩
      obtain ⟨g, off, rfl, _, hgl, hat⟩ := HX.out (by intro h; rw [h] at hxk; simp at hxk)
      obtain ⟨cs, hcl6, hcs, r1⟩ := hat k x hxk
      have E1 : ∀ w', SameOn All wr w' → HVa w' All d cs x := fun w' hw => r1.mono (SameOn.trans (SameOn.of_below hb) hw) (fun _ h => h)
      obtain ⟨sk, sn, st, p1, n1, q1, rfl⟩ := r1.shape
      have a0 := hcs 0 (by omega)
      have a1 := hcs 1 (by omega)
      have a2 := hcs 2 (by omega)
      have a3 := hcs 3 (by omega)
      rw [← hb.cell (p := ⟨g, _, none⟩) hgl] at a0 a1 a2 a3
      simp at a0 a1 a2 a3
      have hgw : g < wr.heap.size := Nat.lt_of_lt_of_le hgl HB.out.size
      have hki : (k : Int) < (n : Int) := by omega
      have hk0 : (0 : Int) ≤ (k : Int) := by omega
      by_cases hlt' : k < m
      · obtain ⟨y, hyk⟩ : ∃ y, fs[k]? = some y := ⟨fs[k]'(by rw [HM.out]; exact hlt'), List.getElem?_eq_getElem _⟩
        obtain ⟨g', off', rfl, _, hgl', hat'⟩ := HY.out (by intro h; rw [h] at hyk; simp at hyk)
        obtain ⟨cs', hcl6', hcs', r2⟩ := hat' k y hyk
        have E2 : ∀ w', SameOn All wr w' → HVa w' All d cs' y := fun w' hw => r2.mono (SameOn.trans (SameOn.of_below hb) hw) (fun _ h => h)
        obtain ⟨sk', sn', st', p1', n1', q1', rfl⟩ := r2.shape
        have b0 := hcs' 0 (by omega)
        have b1 := hcs' 1 (by omega)
        have b2 := hcs' 2 (by omega)
        have b3 := hcs' 3 (by omega)
        rw [← hb.cell (p := ⟨g', _, none⟩) hgl'] at b0 b1 b2 b3
        simp at b0 b1 b2 b3
        have hgw' : g' < wr.heap.size := Nat.lt_of_lt_of_le hgl' HB.out.size
        have hkm : (k : Int) < (m : Int) := by omega
        clear hb hcs hat hcl6 hcs' hat' hcl6' r1 r2
        have hal : Below wr.heap.size wr ((wr.alloc (.cells #[.int .i64 sk, .int .i64 sn, .string st, .slice p1 n1 q1] 26)).alloc (.cells #[.int .i64 sk', .int .i64 sn', .string st', .slice p1' n1' q1'] 26)) := ((Below.refl _ _).alloc (Nat.le_refl _) _).alloc (by simp) _
        have HA : Hid (Below wr.heap.size wr ((wr.alloc (.cells #[.int .i64 sk, .int .i64 sn, .string st, .slice p1 n1 q1] 26)).alloc (.cells #[.int .i64 sk', .int .i64 sn', .string st', .slice p1' n1' q1'] 26))) := hal
        clear hal
        have HST : Hid (cmpL (cmpVa d) (es.drop k) (fs.drop k) = if cmpVa d x y = 0 then cmpL (cmpVa d) (es.drop (k + 1)) (fs.drop (k + 1)) else cmpVa d x y) := cmpL_step (f := cmpVa d) hxk hyk
        generalize hcv : cmpVa d x y = cv at *
        have HCV : Hid (cmpVa d x y = cv) := hcv
        clear hcv
        by_cases hz : cv = 0
        · go_wp2_with (first | (go_at_call 6; refine (hE _ _ _ x y ⟨_, rfl, E1 _ (SameOn.of_below HA.out)⟩ ⟨_, rfl, E2 _ (SameOn.of_below HA.out)⟩).mono ?_; rintro e w1 ⟨rfl, hb1⟩; rw [HCV.out]; have HB1 : Hid _ := hb1; clear hb1))
          have hbe : Below w.heap.size w w1 := (HB.out.trans (HA.out.mono HB.out.size)).trans (HB1.out.mono (HB.out.trans (HA.out.mono HB.out.size)).size)
          exact ⟨⟨k + 1, by omega, by omega, by go_num, (by show _ = _; rw [hsame.out, HST.out, if_pos hz]), hbe⟩, by simp [intOf]; omega⟩
        · have HS : Hid (cmpL (cmpVa d) es fs = cv) := by show _ = _; rw [hsame.out, HST.out, if_neg hz]
          go_wp2_with (first | (go_at_call 6; refine (hE _ _ _ x y ⟨_, rfl, E1 _ (SameOn.of_below HA.out)⟩ ⟨_, rfl, E2 _ (SameOn.of_below HA.out)⟩).mono ?_; rintro e w1 ⟨rfl, hb1⟩; rw [HCV.out]; have HB1 : Hid _ := hb1; clear hb1))
          go_ret
          have hbe : Below w.heap.size w w1 := (HB.out.trans (HA.out.mono HB.out.size)).trans (HB1.out.mono (HB.out.trans (HA.out.mono HB.out.size)).size)
          exact ⟨by rw [HS.out]; rfl, hbe⟩
      · have HS : Hid (cmpL (cmpVa d) es fs = 1) := by show _ = _; rw [hsame.out]; exact cmpL_endr (by rw [HN.out]; exact hlt) (by rw [HM.out]; omega)
        clear hb hcs hat hcl6 r1
        go_wp2
        go_ret
        exact ⟨by rw [HS.out]; rfl, HB.out.trans (((Below.refl _ _).alloc (Nat.le_refl _) _).mono HB.out.size)⟩
    · by_cases hlt' : k < m
      · have HS : Hid (cmpL (cmpVa d) es fs = -1) := by show _ = _; rw [hsame.out]; exact cmpL_endl (by rw [HN.out]; omega) (by rw [HM.out]; omega)
        clear hb
        go_wp2
        go_ret
        exact ⟨by rw [HS.out]; rfl, HB.out⟩
      · have HS : Hid (cmpL (cmpVa d) es fs = 0) := by show _ = _; rw [hsame.out]; exact cmpL_endb (by rw [HN.out]; omega) (by rw [HM.out]; omega)
        clear hb
        go_wp2
        go_ret
        exact ⟨by rw [HS.out]; rfl, HB.out⟩

theorem cmpVa_or {d : Nat} {kx ky nx ny : Int} {tx ty : ByteArray} {xs ys : List Va} (h : or3 (cmpI kx ky) (cmpI nx ny) (cmpS tx ty) ≠ 0) : cmpVa (d + 1) (.mk kx nx tx xs) (.mk ky ny ty ys) = or3 (cmpI kx ky) (cmpI nx ny) (cmpS tx ty) := by
  show (if cmpI kx ky = 0 then (if cmpI nx ny = 0 then (if cmpS tx ty = 0 then cmpL (cmpVa d) xs ys else cmpS tx ty) else cmpI nx ny) else cmpI kx ky) = _
  unfold or3 at h ⊢
  by_cases h1 : cmpI kx ky = 0
  · rw [if_pos h1] at h ⊢
    rw [if_pos h1]
    by_cases h2 : cmpI nx ny = 0
    · rw [if_pos h2] at h ⊢
      rw [if_pos h2, if_neg h]
    · rw [if_neg h2, if_neg h2]
  · rw [if_neg h1, if_neg h1]
theorem cmpVa_or0 {d : Nat} {kx ky nx ny : Int} {tx ty : ByteArray} {xs ys : List Va} (h : or3 (cmpI kx ky) (cmpI nx ny) (cmpS tx ty) = 0) : cmpVa (d + 1) (.mk kx nx tx xs) (.mk ky ny ty ys) = cmpL (cmpVa d) xs ys := by
  show (if cmpI kx ky = 0 then (if cmpI nx ny = 0 then (if cmpS tx ty = 0 then cmpL (cmpVa d) xs ys else cmpS tx ty) else cmpI nx ny) else cmpI kx ky) = _
  unfold or3 at h
  by_cases h1 : cmpI kx ky = 0
  · rw [if_pos h1] at h
    by_cases h2 : cmpI nx ny = 0
    · rw [if_pos h2] at h
      rw [if_pos h1, if_pos h2, if_pos h]
    · rw [if_neg h2] at h; exact absurd h h2
  · rw [if_neg h1] at h; exact absurd h h1

set_option maxHeartbeats 8000000 in
theorem implCmp_of {d : Nat} (hF : OrdF 32 6 (fun w v es => Rows w All 4 (HVa w All d) v es) (cmpL (cmpVa d))) :
    OrdC 6 (fun w v e => ∃ cs, v = .agg cs.toArray ∧ HVa w All (d + 1) cs e) (cmpVa (d + 1)) := by
  intro w v1 v2 x y i1 i2
  obtain ⟨cs, rfl, kv, rfl, _, _, _, f0⟩ := i1
  obtain ⟨cs, rfl, kv', rfl, _, _, _, f0'⟩ := i2
  obtain ⟨kx, nx, tx, es⟩ := x
  obtain ⟨ky, ny, ty, fs⟩ := y
  simp only [Va.kind, Va.n, Va.text, Va.kids] at *
  have g0 : ∀ w', SameOn All w w' → Rows w' All 4 (HVa w' All d) kv es := fun w' hw => f0.mono hw (fun _ h => h) (fun _ _ _ => HVa.mono hw (fun _ h => h))
  have g0' : ∀ w', SameOn All w w' → Rows w' All 4 (HVa w' All d) kv' fs := fun w' hw => f0'.mono hw (fun _ h => h) (fun _ _ _ => HVa.mono hw (fun _ h => h))
  clear f0 f0'
  obtain ⟨W2, hW2⟩ : ∃ W2, W2 = (w.alloc (.cells #[.int .i64 kx, .int .i64 nx, .string tx, kv] 26)).alloc (.cells #[.int .i64 ky, .int .i64 ny, .string ty, kv'] 26) := ⟨_, rfl⟩
  have bA : Hid (Blk W2 w.heap.size #[.int .i64 kx, .int .i64 nx, .string tx, kv] 26) := by show Blk _ _ _ _; rw [hW2]; exact Blk.new.alloc
  have bB : Hid (Blk W2 (w.heap.size + 1) #[.int .i64 ky, .int .i64 ny, .string ty, kv'] 26) := by
    show Blk _ _ _ _
    rw [hW2]
    have := Blk.new (w := w.alloc (.cells #[.int .i64 kx, .int .i64 nx, .string tx, kv] 26)) (cs := #[.int .i64 ky, .int .i64 ny, .string ty, kv']) (t := 26)
    rwa [alloc_hs] at this
  have HAL : Hid (Below w.heap.size w W2) := by show Below _ _ _; rw [hW2]; exact ((Below.refl _ _).alloc (Nat.le_refl _) _).alloc (by simp) _
  have HW2 : Hid (W2 = (w.alloc (.cells #[.int .i64 kx, .int .i64 nx, .string tx, kv] 26)).alloc (.cells #[.int .i64 ky, .int .i64 ny, .string ty, kv'] 26)) := hW2
  clear hW2
  have a0 := bA.out.cell 0 _ rfl
  have a1 := bA.out.cell 1 _ rfl
  have a2 := bA.out.cell 2 _ rfl
  have a3 := bA.out.cell 3 _ rfl
  have b0 := bB.out.cell 0 _ rfl
  have b1 := bB.out.cell 1 _ rfl
  have b2 := bB.out.cell 2 _ rfl
  have b3 := bB.out.cell 3 _ rfl
  generalize ho : or3 (cmpI kx ky) (cmpI nx ny) (cmpS tx ty) = o
  have HO : Hid (or3 (cmpI kx ky) (cmpI nx ny) (cmpS tx ty) = o) := ho
  by_cases hz : o = 0
  · have HS : Hid (cmpVa (d + 1) (.mk kx nx tx es) (.mk ky ny ty fs) = cmpL (cmpVa d) es fs) := cmpVa_or0 (ho.trans hz)
    clear ho
    go_enter Tryz.func6, Tryz.ntmps6
    go_wp2_with fail
    rw [← HW2.out]
    go_region_held3 (fun w' => w'.cell? ⟨w.heap.size, 0, none⟩ = some (.int .i64 kx) ∧ w'.cell? ⟨w.heap.size, 1, none⟩ = some (.int .i64 nx) ∧ w'.cell? ⟨w.heap.size, 2, none⟩ = some (.string tx) ∧ w'.cell? ⟨w.heap.size + 1, 0, none⟩ = some (.int .i64 ky) ∧ w'.cell? ⟨w.heap.size + 1, 1, none⟩ = some (.int .i64 ny) ∧ w'.cell? ⟨w.heap.size + 1, 2, none⟩ = some (.string ty))
      (first | go_keep)
      (first
        | (go_at_call 30; refine (cmpInt_any _ _ _).mono ?_; rintro e w' ⟨rfl, rfl⟩)
        | (go_at_call 31; refine (stringsCompare_any _ _ _).mono ?_; rintro e w' ⟨rfl, rfl⟩)
        | (go_at_call 29; refine (cmpOr_any (cmpI kx ky) (cmpI nx ny) (cmpS tx ty) _ _ (by exact cell_new _ _ _ 0 _ rfl) (by exact cell_new _ _ _ 1 _ rfl) (by exact cell_new _ _ _ 2 _ rfl)).mono ?_; rintro e w' ⟨rfl, rfl⟩; rw [HO.out]))
    go_split_ands
    have K3 : Below W2.heap.size W2 ((W2.alloc (.cells #[.int .i64 (cmpI kx ky), .int .i64 (cmpI nx ny), .int .i64 (cmpS tx ty)] 3)).drew) := ((Below.refl _ _).alloc (Nat.le_refl _) _).drew
    generalize ((W2.alloc (.cells #[.int .i64 (cmpI kx ky), .int .i64 (cmpI nx ny), .int .i64 (cmpS tx ty)] 3)).drew) = W3 at *
    have HB3 : Hid (Below w.heap.size w W3) := HAL.out.trans (K3.mono HAL.out.size)
    have c3 := (bA.out.next K3).cell 3 _ rfl
    have e3 := (bB.out.next K3).cell 3 _ rfl
    clear K3 a0 a1 a2 a3 b0 b1 b2 b3
    subst hz
    go_wp2_with (first | (go_at_call 32; refine (hF _ _ _ es fs (g0 _ (SameOn.of_below HB3.out)) (g0' _ (SameOn.of_below HB3.out))).mono ?_; rintro e w4 ⟨rfl, hb4⟩; have HB4 : Hid (Below W3.heap.size W3 w4) := hb4; clear hb4))
    go_ret
    exact ⟨by rw [HS.out]; rfl, HB3.out.trans (HB4.out.mono HB3.out.size)⟩
  · have HS : Hid (cmpVa (d + 1) (.mk kx nx tx es) (.mk ky ny ty fs) = o) := by show _ = _; rw [cmpVa_or (by rw [ho]; exact hz), ho]
    clear ho
    go_enter Tryz.func6, Tryz.ntmps6
    go_wp2_with fail
    rw [← HW2.out]
    go_region_held3 (fun w' => w'.cell? ⟨w.heap.size, 0, none⟩ = some (.int .i64 kx) ∧ w'.cell? ⟨w.heap.size, 1, none⟩ = some (.int .i64 nx) ∧ w'.cell? ⟨w.heap.size, 2, none⟩ = some (.string tx) ∧ w'.cell? ⟨w.heap.size + 1, 0, none⟩ = some (.int .i64 ky) ∧ w'.cell? ⟨w.heap.size + 1, 1, none⟩ = some (.int .i64 ny) ∧ w'.cell? ⟨w.heap.size + 1, 2, none⟩ = some (.string ty))
      (first | go_keep)
      (first
        | (go_at_call 30; refine (cmpInt_any _ _ _).mono ?_; rintro e w' ⟨rfl, rfl⟩)
        | (go_at_call 31; refine (stringsCompare_any _ _ _).mono ?_; rintro e w' ⟨rfl, rfl⟩)
        | (go_at_call 29; refine (cmpOr_any (cmpI kx ky) (cmpI nx ny) (cmpS tx ty) _ _ (by exact cell_new _ _ _ 0 _ rfl) (by exact cell_new _ _ _ 1 _ rfl) (by exact cell_new _ _ _ 2 _ rfl)).mono ?_; rintro e w' ⟨rfl, rfl⟩; rw [HO.out]))
    go_split_ands
    have K3 : Below W2.heap.size W2 ((W2.alloc (.cells #[.int .i64 (cmpI kx ky), .int .i64 (cmpI nx ny), .int .i64 (cmpS tx ty)] 3)).drew) := ((Below.refl _ _).alloc (Nat.le_refl _) _).drew
    generalize ((W2.alloc (.cells #[.int .i64 (cmpI kx ky), .int .i64 (cmpI nx ny), .int .i64 (cmpS tx ty)] 3)).drew) = W3 at *
    have HB3 : Hid (Below w.heap.size w W3) := HAL.out.trans (K3.mono HAL.out.size)
    clear K3 a0 a1 a2 a3 b0 b1 b2 b3
    go_wp2
    go_ret
    exact ⟨by rw [HS.out]; rfl, HB3.out⟩

/-- THE PROGRAM's CompareVal. -/
theorem implCmp_all : ∀ d, OrdC 6 (fun w v e => ∃ cs, v = .agg cs.toArray ∧ HVa w All d cs e) (cmpVa d)
  | 0 => fun w v v' x y ⟨_, _, h⟩ _ => h.elim
  | d + 1 => implCmp_of (cmpFunc_of (implCmp_all d))
end Go.Proofs.YtmnghlkkfkpjhaaGreatDoor
