/-
  Texts of the proof, packed: AtSpecC, RowG, Own, Grow, RowH, ConcatEx, NameImplA, RangeBound, Iter, NameImplB, NameImplC, NameMath3, Tight, NameList, AtImplC, Size, ModsSz, Eq, ModsEq, ExOwn, ExTo, ModOwn, ModTo, ModsTo.
-/
import Derived.Test.YtihffcphbcepoaaGreatDoorPackB
import Derived.Laws.AppendOwnNone
import Derived.Test.YtihffcphbcepoaaGreatDoorPackA
import Derived.Deep.AppendLies
import Derived.OwnWalk
import Derived.Lib.AppendZerosOnto
import Derived.Lib.SliceRun
import Derived.Maps.Own
import Derived.Maps.OwnSet
import Derived.StringKeys
import Derived.RangeFuncNested
import Derived.RangeFuncBound
import Derived.RangeFuncCalls
import Derived.RangeFuncLeaves
import Derived.Shelf.Abstract
import Derived.Shelf.RegionOpen
import Derived.WalkKit
import Derived.OwnWalkIn
import Derived.TacticsInMore
import Derived.LoopNIn
import Derived.LoopIn
import Derived.Maps.OwnIn
import Derived.Maps.AppendAt
import Derived.Shelf.SlIter.Nil
import Derived.Shelf.SortM.Plain
import Derived.Shelf.SortM.SortNone
import Derived.Ground.GgzProg
import Derived.Ground.SlgmProg
import Derived.Test.YtihffcphbcepoaaGreatDoorProg
import Derived.Sort.Walk0
/-
  The specification's VarsAt, by contract.
-/
namespace Go.Proofs.YtihffcphbcepoaaGreatDoor
open Go.ChangeShapes Go.WideShapes Go.ChangeAt Go.RowKit
set_option linter.unusedVariables false
set_option maxRecDepth 100000

theorem clauseOf_wt1 {d : Nat} {ms : List Md} {q : Pl} {c : Cl} (h : clauseOf ms q = some c) : 1 + wtCl (wtEx d) c ≤ wtS (wtMd d) ms := by
  unfold clauseOf at h
  obtain ⟨f, hf, hc⟩ := Option.bind_eq_some_iff.1 h
  split at hc
  · have h1 := fnOf_wt (d := d) hf
    have h2 := wtS_part (wtCl (wtEx d)) f.clauses _ c hc
    have h3 : wtFn d f = f.name.size + wtS (wtCl (wtEx d)) f.clauses := rfl
    omega
  · cases hc

set_option maxHeartbeats 16000000 in
theorem specVarsAt_any (d : Nat) (w : World) (v : Value) (ms : List Md) (q : Pl) (h : Rows w All 3 (HMd w All d) v ms) (hw : wtS (wtMd d) ms ≤ 1048576) :
    Calls Tryz.prog 21 #[v, .agg #[.string q.mod, .string q.name, .int .i64 q.arity, .int .i64 q.clause]] w fun e w' => ∃ u, e = .returned u ∧ OwnS w' w.heap.size u (varsAt d ms q) ∧ Below w.heap.size w w' := by
  have HR : Hid (∀ w', Below w.heap.size w w' → Rows w' All 3 (HMd w' All d) v ms) := fun w' hw => h.mono (SameOn.of_below hw) (fun _ h => h) (fun _ _ _ h => h.mono (SameOn.of_below hw) (fun _ h => h))
  obtain ⟨W1, hW1⟩ : ∃ W1, W1 = w.alloc (.cells #[.string q.mod, .string q.name, .int .i64 q.arity, .int .i64 q.clause] 41) := ⟨_, rfl⟩
  have bA : Hid (Blk W1 w.heap.size #[.string q.mod, .string q.name, .int .i64 q.arity, .int .i64 q.clause] 41) := by show Blk _ _ _ _; rw [hW1]; exact Blk.new
  have B1 : Hid (Below w.heap.size w W1) := by show Below _ _ _; rw [hW1]; exact (Below.refl _ _).alloc (Nat.le_refl _) _
  have HW1 : Hid (W1 = w.alloc (.cells #[.string q.mod, .string q.name, .int .i64 q.arity, .int .i64 q.clause] 41)) := hW1
  have CF : Hid (Calls Tryz.prog 39 #[v, .agg #[.string q.mod, .string q.name, .int .i64 q.arity, .int .i64 q.clause]] W1 fun e w' => ClE ms q w' d e ∧ Below W1.heap.size W1 w') := l07Clause_any d W1 v ms q (HR.out _ B1.out)
  have CP : Hid (∀ w', Below w.heap.size w w' → Calls Tryz.prog 40 #[v] w' fun e w'' => e = .returned (.bool (pgOk d ms)) ∧ Below w'.heap.size w' w'') := fun w' hb => specProgramOk_any d w' v ms (HR.out _ hb)
  have HV : Hid (varsAt d ms q = if pgOk d ms then (match clauseOf ms q with
    | none => []
    | some c => sortS (clauseVars d c)) else []) := rfl
  have HWT : Hid (∀ c, clauseOf ms q = some c → 1 + wtCl (wtEx d) c ≤ 1048576) := fun c hc => Nat.le_trans (clauseOf_wt1 hc) hw
  have y0 := bA.out.cell 0 _ rfl
  have y1 := bA.out.cell 1 _ rfl
  have y2 := bA.out.cell 2 _ rfl
  have y3 := bA.out.cell 3 _ rfl
  clear hW1 hw
  obtain ⟨p, cap, rfl, -⟩ := h
  generalize ms.length = n at *
  generalize hX : varsAt d ms q = X at *
  clear hX
  generalize hP : pgOk d ms = P at *
  clear hP
  go_enter Tryz.func21, Tryz.ntmps21
  go_wp2_with fail
  rw [← HW1.out]
  refine CF.out.mono ?_
  rintro e w2 ⟨⟨pv, bv, ok, rfl, hr⟩, hb⟩
  have HCR : Hid (ClR ms q w2 d [pv, bv] ok) := hr
  have B2 : Hid (Below w.heap.size w w2) := B1.out.trans (hb.mono B1.out.size)
  have HSH : Hid (∃ p1 n1 c1 p2 n2 c2, pv = .slice p1 n1 c1 ∧ bv = .slice p2 n2 c2) := by
    rcases hr with ⟨_, _, he⟩ | ⟨_, c, _, hc⟩
    · simp at he
      exact ⟨_, _, _, _, _, _, he.1, he.2⟩
    · obtain ⟨p', b', he, ⟨p1, c1, h1, -⟩, ⟨p2, c2, h2, -⟩⟩ := hc
      simp at he
      exact ⟨_, _, _, _, _, _, he.1.trans h1, he.2.trans h2⟩
  obtain ⟨p1, n1, c1, p2, n2, c2, rfl, rfl⟩ := HSH.out
  obtain ⟨W3, hW3⟩ : ∃ W3, W3 = w2.alloc (.cells #[.slice p1 n1 c1, .slice p2 n2 c2] 78) := ⟨_, rfl⟩
  have B3 : Hid (Below w.heap.size w W3) := by show Below _ _ _; rw [hW3]; exact B2.out.alloc (Nat.le_trans B1.out.size hb.size) _
  have bC : Hid (Blk W3 w2.heap.size #[.slice p1 n1 c1, .slice p2 n2 c2] 78) := by show Blk _ _ _ _; rw [hW3]; exact Blk.new
  have S3 : Hid (SameOn All w2 W3) := by show SameOn _ _ _; rw [hW3]; exact SameOn.of_below ((Below.refl _ _).alloc (Nat.le_refl _) _)
  have HW3 : Hid (W3 = w2.alloc (.cells #[.slice p1 n1 c1, .slice p2 n2 c2] 78)) := hW3
  clear hr hb y0 y1 y2 y3 bA CF HW1 B1 HSH hW3
  rcases HCR.out with ⟨rfl, hno, -⟩ | ⟨rfl, c, hc, hcl⟩
  · have HX : Hid (X = []) := by
      show X = []
      rw [HV.out, hno]; split <;> rfl
    have O0 : Hid (OwnS (W3.alloc (.cells #[] 9)) w.heap.size (.slice (some ⟨W3.heap.size, 0, none⟩) 0 0) []) := OwnS.fresh.base B3.out.size
    have B4 : Hid (Below w.heap.size w (W3.alloc (.cells #[] 9))) := B3.out.alloc B3.out.size _
    clear hno HCR
    go_wp2_with (rw [← HW3.out])
    go_ret
    exact ⟨_, rfl, by rw [HX.out]; exact O0.out, B4.out⟩
  · have HC : Hid (clauseOf ms q = some c) := hc
    have HCL : Hid (HCl w2 All (HEx w2 All d) [.slice p1 n1 c1, .slice p2 n2 c2] c) := hcl
    clear hc hcl HCR
    cases P with
    | false =>
      have HX : Hid (X = []) := by
        show X = []
        rw [HV.out]; rfl
      go_wp2_with fail
      rw [← HW3.out]
      refine (CP.out _ B3.out).mono ?_
      rintro e w4 ⟨rfl, hb4⟩
      have B4 : Hid (Below w.heap.size w w4) := B3.out.trans (hb4.mono B3.out.size)
      have O0 : Hid (OwnS (w4.alloc (.cells #[] 9)) w.heap.size (.slice (some ⟨w4.heap.size, 0, none⟩) 0 0) []) := OwnS.fresh.base B4.out.size
      have B5 : Hid (Below w.heap.size w (w4.alloc (.cells #[] 9))) := B4.out.alloc B4.out.size _
      clear hb4
      go_wp2_with fail
      go_ret
      exact ⟨_, rfl, by rw [HX.out]; exact O0.out, B5.out⟩
    | true =>
      have HX : Hid (X = sortS (clauseVars d c)) := by
        show X = _
        rw [HV.out, HC.out]; rfl
      go_wp2_with fail
      rw [← HW3.out]
      refine (CP.out _ B3.out).mono ?_
      rintro e w4 ⟨rfl, hb4⟩
      have B4 : Hid (Below w.heap.size w w4) := B3.out.trans (hb4.mono B3.out.size)
      have bC4 := bC.out.next hb4
      have HC4 : Hid (HCl w4 All (HEx w4 All d) [.slice p1 n1 c1, .slice p2 n2 c2] c) := HCL.out.mono (S3.out.trans (SameOn.of_below hb4)) (fun _ h => h) (fun _ _ h => h.mono (S3.out.trans (SameOn.of_below hb4)) (fun _ h => h))
      have z0 := bC4.cell 0 _ rfl
      have z1 := bC4.cell 1 _ rfl
      clear hb4 bC4
      go_wp2_with fail
      refine (l07Vars_any d w4 _ c HC4.out (HWT.out c HC.out)).mono ?_
      rintro e w5 ⟨u, rfl, ho, hb5⟩
      have HO : Hid (OwnS w5 w.heap.size u (sortS (clauseVars d c))) := ho.base B4.out.size
      have B5 : Hid (Below w.heap.size w w5) := B4.out.trans (hb5.mono B4.out.size)
      clear ho hb5 z0 z1
      go_wp2_with fail
      go_ret
      exact ⟨u, rfl, by rw [HX.out]; exact HO.out, B5.out⟩
end Go.Proofs.YtihffcphbcepoaaGreatDoor
/-
  Rows that are grown by append, of elements of any number of cells: what their cells are.
-/
namespace Go.Proofs.YtihffcphbcepoaaGreatDoor
open Go.ChangeShapes Go.WideShapes Go.ChangeAt Go.RowKit
set_option linter.unusedVariables false

/-- Cells that are R's elements, c cells each. -/
def CellsR {α : Type} (c : Nat) (R : List Value → α → Prop) (cells : List Value) (l : List α) : Prop :=
  cells.length = l.length * c ∧ ∀ i y, l[i]? = some y → ∃ cs, cs.length = c ∧ (∀ j, j < c → cells[i * c + j]? = cs[j]?) ∧ R cs y
section
variable {α : Type} {c : Nat} {R R' : List Value → α → Prop} {cells more : List Value} {l m : List α}
theorem CellsR.nil : CellsR c R [] ([] : List α) := ⟨by simp, fun i y h => by simp at h⟩
theorem CellsR.append (h : CellsR c R cells l) (k : CellsR c R more m) : CellsR c R (cells ++ more) (l ++ m) := by
  refine ⟨by rw [List.length_append, List.length_append, h.1, k.1, Nat.add_mul], fun i y hi => ?_⟩
  by_cases hl : i < l.length
  · rw [List.getElem?_append_left hl] at hi
    obtain ⟨cs, h1, h2, h3⟩ := h.2 i y hi
    refine ⟨cs, h1, fun j hj => ?_, h3⟩
    rw [List.getElem?_append_left, h2 j hj]
    rw [h.1]
    have : (i + 1) * c ≤ l.length * c := Nat.mul_le_mul_right _ hl
    rw [Nat.add_mul] at this
    omega
  · rw [List.getElem?_append_right (by omega)] at hi
    obtain ⟨cs, h1, h2, h3⟩ := k.2 _ y hi
    refine ⟨cs, h1, fun j hj => ?_, h3⟩
    have e : i * c + j - cells.length = (i - l.length) * c + j := by
      rw [h.1, Nat.sub_mul]
      have : l.length * c ≤ i * c := Nat.mul_le_mul_right _ (by omega)
      omega
    rw [List.getElem?_append_right (by rw [h.1]; have : l.length * c ≤ i * c := Nat.mul_le_mul_right _ (by omega); omega), e]
    exact h2 j hj
theorem CellsR.mono (h : CellsR c R cells l) (hR : ∀ cs y, y ∈ l → R cs y → R' cs y) : CellsR c R' cells l :=
  ⟨h.1, fun i y hi => by obtain ⟨cs, h1, h2, h3⟩ := h.2 i y hi; exact ⟨cs, h1, h2, hR cs y (List.mem_of_getElem? hi) h3⟩⟩
theorem CellsR.one {cs : List Value} {y : α} (hc : cs.length = c) (h : R cs y) : CellsR c R cs [y] :=
  ⟨by simp [hc], fun i z hi => by
    cases i with
    | zero => simp at hi; subst hi; exact ⟨cs, hc, fun j _ => by simp, h⟩
    | succ i => simp at hi⟩
theorem CellsR.oneCell (hc : 0 < c) (h : CellsR c R cells l) (hR : ∀ cs y, R cs y → ∀ u ∈ cs, u.oneCell' = true) : ∀ u ∈ cells, u.oneCell' = true := by
  intro u hu
  obtain ⟨j, hj⟩ := List.mem_iff_getElem?.1 hu
  have hlt := (List.getElem?_eq_some_iff.1 hj).1
  rw [h.1] at hlt
  have hd : j / c < l.length := Nat.div_lt_of_lt_mul (by rw [Nat.mul_comm]; exact hlt)
  obtain ⟨cs, h1, h2, h3⟩ := h.2 (j / c) (l[j / c]) (List.getElem?_eq_getElem hd)
  have h4 := h2 (j % c) (Nat.mod_lt _ hc)
  rw [show j / c * c + j % c = j by rw [Nat.mul_comm]; exact Nat.div_add_mod j c, hj] at h4
  exact hR cs _ h3 u (List.mem_of_getElem? h4.symm)
theorem rowsCellsR (hc : 0 < c) {w : World} {S : Nat → Prop} {ad : Addr} {n cap : Nat} (h : Rows w S c R (.slice (some ad) n cap) l) : n = l.length ∧ ∃ cells, CellsR c R cells l ∧ ∀ j u, cells[j]? = some u → w.cell? (ad.add j) = some u := by
  obtain ⟨p, cap', hv, h1, h2, hx⟩ := h
  simp only [Value.slice.injEq] at hv
  obtain ⟨rfl, rfl, rfl⟩ := hv
  refine ⟨rfl, ?_⟩
  cases l with
  | nil => exact ⟨[], CellsR.nil, fun j u h => by simp at h⟩
  | cons y0 l =>
    obtain ⟨g, off, hp, -, -, hat⟩ := hx (by simp)
    obtain rfl := Option.some.inj hp
    have hadd : ∀ j, (⟨g, off, none⟩ : Addr).add j = ⟨g, off + j, none⟩ := fun j => by by_cases h : j = 0 <;> simp [Addr.add, h]
    have key : ∀ j, j < (y0 :: l).length * c → ∃ u, w.cell? ⟨g, off + j, none⟩ = some u := fun j hj => by
      have hd : j / c < (y0 :: l).length := Nat.div_lt_of_lt_mul (by rw [Nat.mul_comm]; exact hj)
      obtain ⟨cs, k1, k2, k3⟩ := hat (j / c) _ (List.getElem?_eq_getElem hd)
      have h4 := k2 (j % c) (Nat.mod_lt _ hc)
      rw [show off + j / c * c + j % c = off + j by rw [Nat.add_assoc, Nat.mul_comm, Nat.div_add_mod]] at h4
      exact ⟨cs[j % c]'(by rw [k1]; exact Nat.mod_lt _ hc), h4.trans (List.getElem?_eq_getElem _)⟩
    refine ⟨(List.range ((y0 :: l).length * c)).map fun j => (w.cell? ⟨g, off + j, none⟩).getD undef, ⟨by simp, fun i y hi => ?_⟩, fun j u hj => ?_⟩
    · obtain ⟨cs, k1, k2, k3⟩ := hat i y hi
      refine ⟨cs, k1, fun j hj => ?_, k3⟩
      have hil := (List.getElem?_eq_some_iff.1 hi).1
      have hlt : i * c + j < (y0 :: l).length * c := by
        have : (i + 1) * c ≤ (y0 :: l).length * c := Nat.mul_le_mul_right _ hil
        rw [Nat.add_mul] at this
        omega
      rw [List.getElem?_map, List.getElem?_range hlt]
      obtain ⟨u, hu⟩ := key _ hlt
      have h5 := k2 j hj
      rw [Nat.add_assoc, hu] at h5
      simp only [Option.map_some, hu, Option.getD_some]
      exact h5
    · have hlt : j < (y0 :: l).length * c := by simpa using (List.getElem?_eq_some_iff.1 hj).1
      rw [List.getElem?_map, List.getElem?_range hlt] at hj
      obtain ⟨v, hv⟩ := key j hlt
      simp only [Option.map_some, hv, Option.getD_some, Option.some.injEq] at hj
      rw [hadd, hv, hj]
theorem CellsR.rows {w : World} {B : Nat} {e : TypeId} {v : Value} {n : Nat} (h : w.ownsRow B e c v n cells) (k : CellsR c R cells l) (hn : n = l.length) : Rows w All c R v l := by
  subst hn
  have hl := k.1
  rcases h.2 with ⟨rfl, hz⟩ | ⟨g, cap, cur, rfl, hB, hg, h1, h2, h3, h4⟩
  · obtain rfl := List.length_eq_zero_iff.1 hz
    exact Rows.nil (Nat.zero_le _)
  · refine ⟨_, cap, rfl, h1, h2, fun hne => ⟨g, 0, rfl, trivial, (Array.getElem?_eq_some_iff.1 hg).1, fun i x hi => ?_⟩⟩
    obtain ⟨cs, k1, k2, k3⟩ := k.2 i x hi
    refine ⟨cs, k1, fun j hj => ?_, k3⟩
    have hil := (List.getElem?_eq_some_iff.1 hi).1
    have hlt : i * c + j < l.length * c := by
      have : (i + 1) * c ≤ l.length * c := Nat.mul_le_mul_right _ hil
      rw [Nat.add_mul] at this
      omega
    rw [← k2 j hj, Nat.zero_add]
    exact h.cellAt _ hlt
end

section
variable {P : Program} {w : World}
theorem run_append_nil (base : Nat) (t ty e : TypeId) (i : TypeInfo) (size : Nat) (ht : P.underlying t = some (.slice e)) (hi : P.info? e = some i)
    (v : Value) (n : Nat) (xs : List Value) (c : Nat) (hown : w.ownsRow base e size v n xs) :
    (Builtin.append_ #[t, t] ty #[v, .slice none 0 c]).run P w = .ok v w := by
  rcases hown.2 with ⟨rfl, rfl⟩ | ⟨g, cap, cur, rfl, _, _, hnc, _⟩
  · simp [Builtin.append_, run_underlying ht, sizeOf, typeInfo, hi, Builtin.lenOf, Builtin.firstCells]
  · simp [Builtin.append_, run_underlying ht, sizeOf, typeInfo, hi, Builtin.lenOf, Builtin.firstCells, hnc, storeCells]
/-- A row that has no memory, behind one that is owned. -/
theorem wpList_append_nil {ops : Array Oper} {rest : List Oper} {o : Oper} {a : Act} {Q : Exit → Act → World → Prop} (hgd : o.guard = none) (s x : Operand) (t : TypeId)
    (ho : o.op = .call { callee := .builtin .append, args := #[s, x], argTypes := #[t, t] })
    (base : Nat) (e : TypeId) (i : TypeInfo) (size : Nat) (ht : P.underlying t = some (.slice e)) (hi : P.info? e = some i)
    (v : Value) (n : Nat) (xs : List Value) (c : Nat) (hs : a.eval s = v) (hown : w.ownsRow base e size v n xs) (hx : a.eval x = .slice none 0 c)
    (h : wpList P ops Q rest (a.put o.dst v) w) : wpList P ops Q (o :: rest) a w := by
  refine wpList_plain hgd fun K hK => ?_
  have hrun := run_append_nil (P := P) (w := w) base t o.type e i size ht hi v n xs c hown
  unfold Oper.wp
  simp [execOp, ho, resolve, invoke, builtin, hs, hx, hrun, Result.andThen]
  exact hK _ _ h
/-- append(s, xs...): whatever row of elements stands behind, that has memory or none. -/
theorem wpList_append_rows {α : Type} {R : List Value → α → Prop} {S : Nat → Prop} {ops : Array Oper} {rest : List Oper} {o : Oper} {a : Act} {Q : Exit → Act → World → Prop} (hgd : o.guard = none) (s x : Operand) (t : TypeId)
    (ho : o.op = .call { callee := .builtin .append, args := #[s, x], argTypes := #[t, t] })
    (base : Nat) (e : TypeId) (i : TypeInfo) (z : Value) (size bytes : Nat) (ht : P.underlying t = some (.slice e)) (hi : P.info? e = some i) (hz : i.zero = some z)
    (hsize : i.size = size) (hby : i.bytes = bytes) (hzs : z.cells.size = size) (hsz : 0 < size)
    (v : Value) (n : Nat) (xs : List Value) (hs : a.eval s = v) (hown : w.ownsRow base e size v n xs)
    (u : Value) (m : List α) (hx : a.eval x = u) (hr : Rows w S size R u m) (hone : ∀ cs y, R cs y → ∀ q ∈ cs, q.oneCell' = true)
    (h63 : n + m.length ≤ maxLen) (hbytes : (n + m.length) * bytes ≤ 140737488355328) (hbase : base ≤ w.heap.size)
    (h : ∀ v' w' news, CellsR size R news m → w'.ownsRow base e size v' (n + m.length) (xs ++ news) → w.grownBy w' v.ownBlock → wpList P ops Q rest (a.put o.dst v') w') : wpList P ops Q (o :: rest) a w := by
  obtain ⟨p, cap, hv, h1, h2, hat⟩ := id hr
  cases p with
  | none =>
    have hm : m = [] := Classical.byContradiction fun hne => by
      obtain ⟨g, off, hp, _⟩ := hat hne
      cases hp
    subst hm
    simp only [List.length_nil] at *
    refine wpList_append_nil hgd s x t ho base e i size ht hi v n xs cap hs hown (hx.trans hv) ?_
    exact h v w [] CellsR.nil (by simpa using hown) ⟨rfl, rfl, rfl, Nat.le_refl _, fun _ _ _ => rfl⟩
  | some ad =>
    rw [hv] at hr
    obtain ⟨-, news, hc, hnews⟩ := rowsCellsR hsz hr
    refine wpList_append_own _ hgd s x t ho base e i z size bytes ht hi hz hsize hby hzs hsz v n xs hs hown ad m.length cap news (hx.trans hv) hc.1 hnews (hc.oneCell hsz hone) h63 hbytes hbase ?_
    intro v' w' k1 k2 _
    exact h v' w' news hc k1 k2
/-- The same as an arm of a region that draws its order. -/
theorem step_append_rows {α : Type} {R : List Value → α → Prop} {S : Nat → Prop} {ops : Array Oper} {o : Oper} {a : Act} {K : Act → World → Prop} {Q : Exit → Act → World → Prop} {E : Prop} (hgd : o.guard = none) (s x : Operand) (t : TypeId)
    (ho : o.op = .call { callee := .builtin .append, args := #[s, x], argTypes := #[t, t] })
    (base : Nat) (e : TypeId) (i : TypeInfo) (z : Value) (size bytes : Nat) (ht : P.underlying t = some (.slice e)) (hi : P.info? e = some i) (hz : i.zero = some z)
    (hsize : i.size = size) (hby : i.bytes = bytes) (hzs : z.cells.size = size) (hsz : 0 < size)
    (v : Value) (n : Nat) (xs : List Value) (hs : a.eval s = v) (hown : w.ownsRow base e size v n xs)
    (u : Value) (m : List α) (hx : a.eval x = u) (hr : Rows w S size R u m) (hone : ∀ cs y, R cs y → ∀ q ∈ cs, q.oneCell' = true)
    (h63 : n + m.length ≤ maxLen) (hbytes : (n + m.length) * bytes ≤ 140737488355328) (hbase : base ≤ w.heap.size)
    (h : ∀ v' w' news, CellsR size R news m → w'.ownsRow base e size v' (n + m.length) (xs ++ news) → w.grownBy w' v.ownBlock → K (a.put o.dst v') w') :
    if Region.wanted o (yielded ops a.tmps) = true then Oper.wp P o a w K Q else E := by
  have hw : Region.wanted o (yielded ops a.tmps) = true := by simp [Region.wanted, hgd]
  rw [if_pos hw]
  obtain ⟨p, cap, hv, h1, h2, hat⟩ := id hr
  cases p with
  | none =>
    have hm : m = [] := Classical.byContradiction fun hne => by
      obtain ⟨g, off, hp, _⟩ := hat hne
      cases hp
    subst hm
    simp only [List.length_nil] at *
    have hrun := run_append_nil (P := P) (w := w) base t o.type e i size ht hi v n xs cap hown
    unfold Oper.wp
    simp [execOp, ho, resolve, invoke, builtin, hs, hx.trans hv, hrun, Result.andThen]
    exact h v w [] CellsR.nil (by simpa using hown) ⟨rfl, rfl, rfl, Nat.le_refl _, fun _ _ _ => rfl⟩
  | some ad =>
    rw [hv] at hr
    obtain ⟨-, news, hc, hnews⟩ := rowsCellsR hsz hr
    refine wp_append_own w s x t ho base e i z size bytes ht hi hz hsize hby hzs hsz v n xs hs hown ad m.length cap news (hx.trans hv) hc.1 hnews (hc.oneCell hsz hone) h63 hbytes hbase ?_
    intro v' w' k1 k2 _
    exact h v' w' news hc k1 k2
end
theorem cellsR_str {news : List Value} {l : List ByteArray} (h : CellsR 1 HStr news l) : news = strs l := by
  refine List.ext_getElem? fun i => ?_
  by_cases hi : i < l.length
  · obtain ⟨cs, h1, h2, rfl, -⟩ := h.2 i (l[i]) (List.getElem?_eq_getElem hi)
    have h4 := h2 0 (by omega)
    rw [show i * 1 + 0 = i by omega] at h4
    rw [h4]; simp [strs, hi]
  · rw [List.getElem?_eq_none (by rw [h.1]; omega), List.getElem?_eq_none (by rw [strs_length]; omega)]
theorem str_oneCell (cs : List Value) (s : ByteArray) (h : HStr cs s) : ∀ u ∈ cs, u.oneCell' = true := by
  obtain ⟨rfl, -⟩ := h
  intro u hu
  simp at hu; subst hu; rfl
end Go.Proofs.YtihffcphbcepoaaGreatDoor
/-
  Trees that own their memory: each row lies in a block of its own, and no two blocks are one. What is written into such a tree turns nothing else, and is there afterwards.
-/
namespace Go.Proofs.YtihffcphbcepoaaGreatDoor
open Go.ChangeShapes Go.WideShapes Go.ChangeAt Go.RowKit
set_option linter.unusedVariables false

/-- Whatever lies in blocks of fp lies in w' as it does in w. -/
def KeepOn (fp : List Nat) (w w' : World) : Prop := ∀ a ∈ fp, w'.heap[a]? = w.heap[a]?

theorem KeepOn.sub {fp fp' : List Nat} {w w' : World} (h : KeepOn fp w w') (hs : ∀ a ∈ fp', a ∈ fp) : KeepOn fp' w w' := fun a ha => h a (hs a ha)
theorem KeepOn.below {fp : List Nat} {w w' : World} {N : Nat} (h : Below N w w') (hs : ∀ a ∈ fp, a < N) : KeepOn fp w w' := fun a ha => h.block a (hs a ha)

/-- Nothing has turned but what lies in blocks of fp; memory may have grown. -/
structure Off (fp : List Nat) (w w' : World) : Prop where
  os : w'.os = w.os
  tape : w'.tape = w.tape
  output : w'.output = w.output
  size : w.heap.size ≤ w'.heap.size
  block : ∀ a, a < w.heap.size → a ∉ fp → w'.heap[a]? = w.heap[a]?

theorem Off.refl (fp : List Nat) (w : World) : Off fp w w := ⟨rfl, rfl, rfl, Nat.le_refl _, fun _ _ _ => rfl⟩
theorem Off.trans {fp : List Nat} {a b c : World} (h : Off fp a b) (k : Off fp b c) : Off fp a c :=
  ⟨k.os.trans h.os, k.tape.trans h.tape, k.output.trans h.output, Nat.le_trans h.size k.size, fun g hg hf => (k.block g (Nat.lt_of_lt_of_le hg h.size) hf).trans (h.block g hg hf)⟩
theorem Off.sub {fp fp' : List Nat} {a b : World} (h : Off fp a b) (hs : ∀ g ∈ fp, g ∈ fp') : Off fp' a b :=
  ⟨h.os, h.tape, h.output, h.size, fun g hg hf => h.block g hg (fun hm => hf (hs g hm))⟩
theorem Off.of_below {fp : List Nat} {a b : World} (h : Below a.heap.size a b) : Off fp a b := ⟨h.os, h.tape, h.output, h.size, fun g hg _ => h.block g hg⟩
theorem Off.of_grown {fp : List Nat} {a b : World} {g : Nat} (h : a.grownBy b (some g)) (hg : g ∈ fp) : Off fp a b :=
  ⟨h.os, h.tape, h.output, h.size, fun j hj hf => h.block j hj (by simp; intro e; exact hf (e ▸ hg))⟩
theorem Off.below {fp : List Nat} {a b : World} {N : Nat} (h : Off fp a b) (hs : ∀ g ∈ fp, N ≤ g) (hN : N ≤ a.heap.size) : Below N a b :=
  ⟨h.os, h.tape, h.output, h.size, fun j hj => h.block j (Nat.lt_of_lt_of_le hj hN) (fun hm => by have := hs j hm; omega)⟩
theorem Off.keep {fp f : List Nat} {a b : World} (h : Off fp a b) (hs : ∀ g ∈ f, g < a.heap.size ∧ g ∉ fp) : KeepOn f a b := fun g hg => h.block g (hs g hg).1 (hs g hg).2

theorem Off.under {fp : List Nat} {w A B : World} {N : Nat} (h : Off fp w A) (hN : w.heap.size ≤ N) (hb : Below N A B) : Off fp w B :=
  ⟨hb.os.trans h.os, hb.tape.trans h.tape, hb.output.trans h.output, Nat.le_trans h.size hb.size, fun g hg hf => (hb.block g (by omega)).trans (h.block g hg hf)⟩
/-- v is a slice in a block of its own; its elements, of c cells each, are R's xs; fp: all blocks. -/
def ORows {α : Type} (w : World) (e : TypeId) (c : Nat) (R : List Value → α → List Nat → Prop) (v : Value) (xs : List α) (fp : List Nat) : Prop :=
  (xs = [] ∧ fp = [] ∧ ∃ p cap, v = .slice p 0 cap ∧ cap ≤ maxLen) ∨
    (xs ≠ [] ∧ ∃ (cells : List Value) (g cap : Nat) (fps : List (List Nat)), w.ownsRow 0 e c v xs.length cells ∧ v = .slice (some ⟨g, 0, none⟩) xs.length cap ∧ fps.length = xs.length ∧ fp = g :: fps.flatten ∧
      ∀ (i : Nat) x f, xs[i]? = some x → fps[i]? = some f → ∃ cs : List Value, cs.length = c ∧ (∀ j, j < c → cells[i * c + j]? = cs[j]?) ∧ R cs x f)

theorem owns_block {w w' : World} {e : TypeId} {c g n cap : Nat} {v : Value} {cells : List Value} (h : w.ownsRow 0 e c v n cells) (hv : v = .slice (some ⟨g, 0, none⟩) n cap) (hk : w'.heap[g]? = w.heap[g]?) : w'.ownsRow 0 e c v n cells := by
  refine ⟨h.1, ?_⟩
  rcases h.2 with hn | ⟨g', cap', cur, hv', hb, hg, hr⟩
  · exact .inl hn
  · have : g' = g := by rw [hv] at hv'; simp at hv'; exact hv'.1.symm
    subst this
    exact .inr ⟨g', cap', cur, hv', hb, hk.trans hg, hr⟩
theorem owns_lt {w : World} {e : TypeId} {c g n cap : Nat} {v : Value} {cells : List Value} (h : w.ownsRow 0 e c v n cells) (hv : v = .slice (some ⟨g, 0, none⟩) n cap) : g < w.heap.size := by
  rcases h.2 with hn | ⟨g', cap', cur, hv', hb, hg, hr⟩
  · rw [hn.1] at hv; cases hv
  · have : g' = g := by rw [hv] at hv'; simp at hv'; exact hv'.1.symm
    subst this
    exact (Array.getElem?_eq_some_iff.1 hg).1
theorem ORows.shape {α : Type} {w : World} {e : TypeId} {c : Nat} {R : List Value → α → List Nat → Prop} {v : Value} {xs : List α} {fp : List Nat} (h : ORows w e c R v xs fp) : ∃ p cap, v = .slice p xs.length cap ∧ xs.length ≤ cap ∧ cap ≤ maxLen := by
  rcases h with ⟨rfl, _, p, cap, hv, hc⟩ | ⟨_, cells, g, cap, fps, ho, hv, _⟩
  · exact ⟨p, cap, hv, Nat.zero_le _, hc⟩
  · rcases ho.2 with hn | ⟨g', cap', cur, hv', hb, hg, hr⟩
    · rw [hn.1] at hv; cases hv
    · exact ⟨_, _, hv', hr.1, hr.2.1⟩

theorem ORows.rows {α : Type} {w : World} {e : TypeId} {c : Nat} {R : List Value → α → List Nat → Prop} {R' : List Value → α → Prop} {S : Nat → Prop} {v : Value} {xs : List α} {fp : List Nat} (h : ORows w e c R v xs fp) (hS : ∀ a ∈ fp, S a)
    (hR : ∀ cs x f, x ∈ xs → (∀ a ∈ f, a ∈ fp) → R cs x f → R' cs x) : Rows w S c R' v xs := by
  obtain ⟨p, cap, hv, h1, h2⟩ := h.shape
  refine ⟨p, cap, hv, h1, h2, fun hne => ?_⟩
  rcases h with h | ⟨_, cells, g, cap', fps, ho, hv', hl, rfl, hat⟩
  · exact absurd h.1 hne
  have hp : p = some ⟨g, 0, none⟩ := by rw [hv] at hv'; simp at hv'; exact hv'.1
  refine ⟨g, 0, hp, hS g (by simp), owns_lt ho hv', fun i x hi => ?_⟩
  have hil : i < xs.length := (List.getElem?_eq_some_iff.1 hi).1
  obtain ⟨f, hf⟩ : ∃ f, fps[i]? = some f := ⟨fps[i]'(by rw [hl]; exact hil), List.getElem?_eq_getElem _⟩
  obtain ⟨cs, hcl, hcs, hr⟩ := hat i x f hi hf
  refine ⟨cs, hcl, fun j hj => ?_, hR cs x f (List.mem_of_getElem? hi) (fun a ha => ?_) hr⟩
  · rw [← hcs j hj, Nat.zero_add]
    rw [hv'] at ho
    refine ho.cellAt (i * c + j) ?_
    have : i * c + c ≤ xs.length * c := by rw [← Nat.succ_mul]; exact Nat.mul_le_mul_right c hil
    omega
  · exact List.mem_cons_of_mem _ (List.mem_flatten.2 ⟨f, List.mem_of_getElem? hf, ha⟩)

theorem ORows.keep {α : Type} {w w' : World} {e : TypeId} {c : Nat} {R R' : List Value → α → List Nat → Prop} {v : Value} {xs : List α} {fp : List Nat} (h : ORows w e c R v xs fp) (hk : KeepOn fp w w')
    (hR : ∀ cs x f, x ∈ xs → (∀ a ∈ f, a ∈ fp) → R cs x f → R' cs x f) : ORows w' e c R' v xs fp := by
  rcases h with h | ⟨hne, cells, g, cap', fps, ho, hv', hl, rfl, hat⟩
  · exact .inl h
  refine .inr ⟨hne, cells, g, cap', fps, owns_block ho hv' (hk g (by simp)), hv', hl, rfl, fun i x f hi hf => ?_⟩
  obtain ⟨cs, hcl, hcs, hr⟩ := hat i x f hi hf
  exact ⟨cs, hcl, hcs, hR cs x f (List.mem_of_getElem? hi) (fun a ha => List.mem_cons_of_mem _ (List.mem_flatten.2 ⟨f, List.mem_of_getElem? hf, ha⟩)) hr⟩

theorem ORows.lt {α : Type} {w : World} {e : TypeId} {c : Nat} {R : List Value → α → List Nat → Prop} {v : Value} {xs : List α} {fp : List Nat} (h : ORows w e c R v xs fp) (hR : ∀ cs x f, R cs x f → ∀ a ∈ f, a < w.heap.size) : ∀ a ∈ fp, a < w.heap.size := by
  rcases h with ⟨_, rfl, _⟩ | ⟨hne, cells, g, cap', fps, ho, hv', hl, rfl, hat⟩
  · intro a ha; simp at ha
  · intro a ha
    rcases List.mem_cons.1 ha with rfl | ha
    · exact owns_lt ho hv'
    · obtain ⟨f, hf, ha⟩ := List.mem_flatten.1 ha
      obtain ⟨i, hi, rfl⟩ := List.mem_iff_getElem.1 hf
      obtain ⟨cs, _, _, hr⟩ := hat i (xs[i]'(by rw [← hl]; exact hi)) _ (List.getElem?_eq_getElem _) (List.getElem?_eq_getElem hi)
      exact hR _ _ _ hr a ha

/-- One element of a row is turned, its part of the blocks with it. -/
theorem ORows.set {α : Type} {w' : World} {e : TypeId} {c : Nat} {R R' : List Value → α → List Nat → Prop} {v : Value} {xs : List α} {cells cells' : List Value} {g cap : Nat} {fps : List (List Nat)} {i : Nat} {x' : α} {f : List Nat}
    (hne : xs ≠ []) (ho : w'.ownsRow 0 e c v xs.length cells') (hv : v = .slice (some ⟨g, 0, none⟩) xs.length cap) (hl : fps.length = xs.length)
    (hat : ∀ (i : Nat) x f, xs[i]? = some x → fps[i]? = some f → ∃ cs : List Value, cs.length = c ∧ (∀ j, j < c → cells[i * c + j]? = cs[j]?) ∧ R cs x f) (hf : fps[i]? = some f)
    (hother : ∀ m, (m < i * c ∨ i * c + c ≤ m) → cells'[m]? = cells[m]?) (cs' : List Value) (hcl : cs'.length = c) (hcs : ∀ j, j < c → cells'[i * c + j]? = cs'[j]?) (hr : R' cs' x' f)
    (hk : ∀ (j : Nat) y f' cs, j ≠ i → fps[j]? = some f' → R cs y f' → R' cs y f') : ORows w' e c R' v (xs.set i x') (g :: fps.flatten) := by
  refine .inr ⟨fun h => hne (by cases xs with | nil => rfl | cons a l => cases i <;> simp at h), cells', g, cap, fps, by rw [List.length_set]; exact ho, by rw [List.length_set]; exact hv, by rw [List.length_set]; exact hl, rfl, fun j y f' hj hf' => ?_⟩
  by_cases hji : j = i
  · subst hji
    have hjl : j < xs.length := by rw [← hl]; exact (List.getElem?_eq_some_iff.1 hf).1
    rw [List.getElem?_set_self hjl] at hj
    obtain rfl := Option.some.inj hj
    obtain rfl := Option.some.inj (hf.symm.trans hf')
    exact ⟨cs', hcl, hcs, hr⟩
  · rw [List.getElem?_set_ne (fun h => hji h.symm)] at hj
    obtain ⟨cs, h1, h2, h3⟩ := hat j y f' hj hf'
    refine ⟨cs, h1, fun q hq => ?_, hk j y f' cs hji hf' h3⟩
    rw [hother _ ?_]
    · exact h2 q hq
    · rcases Nat.lt_or_gt_of_ne hji with h | h
      · left; have : j * c + c ≤ i * c := by rw [← Nat.succ_mul]; exact Nat.mul_le_mul_right c h
        omega
      · right; have : i * c + c ≤ j * c := by rw [← Nat.succ_mul]; exact Nat.mul_le_mul_right c h
        omega

/-- The parts of a list of blocks without a repetition. -/
theorem nodup_parts {g : Nat} {fps : List (List Nat)} (h : (g :: fps.flatten).Nodup) :
    (∀ f ∈ fps, g ∉ f ∧ f.Nodup) ∧ ∀ (i j : Nat) f f', i ≠ j → fps[i]? = some f → fps[j]? = some f' → ∀ a ∈ f, a ∉ f' := by
  rw [List.nodup_cons] at h
  obtain ⟨hg, hp⟩ := h
  obtain ⟨h1, h2⟩ := List.pairwise_flatten.1 hp
  refine ⟨fun f hf => ⟨fun hm => hg (List.mem_flatten.2 ⟨f, hf, hm⟩), h1 f hf⟩, fun i j f f' hij hi hj a ha ha' => ?_⟩
  rw [List.pairwise_iff_getElem] at h2
  obtain ⟨hi1, rfl⟩ := List.getElem?_eq_some_iff.1 hi
  obtain ⟨hj1, rfl⟩ := List.getElem?_eq_some_iff.1 hj
  rcases Nat.lt_or_gt_of_ne hij with hlt | hlt
  · exact h2 i j hi1 hj1 hlt a ha a ha' rfl
  · exact h2 j i hj1 hi1 hlt a ha' a ha rfl

/-- A list whose first i are those of ys, the rest of xs. -/
def mix {α : Type} (i : Nat) (ys xs : List α) : List α := ys.take i ++ xs.drop i
theorem mix_zero {α : Type} (ys xs : List α) : mix 0 ys xs = xs := by simp [mix]
theorem mix_all {α : Type} {ys xs : List α} {i : Nat} (hl : ys.length = xs.length) (h : xs.length ≤ i) : mix i ys xs = ys := by
  unfold mix; rw [List.take_of_length_le (by omega), List.drop_of_length_le h, List.append_nil]
theorem mix_length {α : Type} {ys xs : List α} {i : Nat} (hl : ys.length = xs.length) : (mix i ys xs).length = xs.length := by
  unfold mix; rw [List.length_append, List.length_take, List.length_drop]; omega
theorem mix_at {α : Type} {ys xs : List α} {i : Nat} (hl : ys.length = xs.length) (hi : i < xs.length) : (mix i ys xs)[i]? = xs[i]? := by
  unfold mix
  rw [List.getElem?_append_right (by rw [List.length_take]; omega), List.length_take, List.getElem?_drop]
  congr 1; omega
theorem mix_succ {α : Type} {ys xs : List α} {i : Nat} {y : α} (hl : ys.length = xs.length) (hy : ys[i]? = some y) : (mix i ys xs).set i y = mix (i + 1) ys xs := by
  have hi : i < ys.length := (List.getElem?_eq_some_iff.1 hy).1
  unfold mix
  rw [List.set_append_right (h := by rw [List.length_take]; omega), List.length_take, Nat.min_eq_left (by omega), Nat.sub_self, List.take_add_one, hy, List.append_assoc]
  congr 1
  rw [List.drop_eq_getElem_cons (i := i) (l := xs) (by omega)]
  rfl

/-- Element by element, with a count that goes on. -/
def markL {α : Type} (f : Nat → α → α) (c : α → Nat) : Nat → List α → List α
  | _, [] => []
  | k, x :: xs => f k x :: markL f c (k + c x) xs
theorem markL_length {α : Type} (f : Nat → α → α) (c : α → Nat) : ∀ (k : Nat) (xs : List α), (markL f c k xs).length = xs.length
  | _, [] => rfl
  | k, x :: xs => by simp [markL, markL_length f c (k + c x) xs]
theorem markL_at {α : Type} (f : Nat → α → α) (c : α → Nat) : ∀ (k : Nat) (xs : List α) (i : Nat) (x : α), xs[i]? = some x → (markL f c k xs)[i]? = some (f (k + ((xs.take i).map c).sum) x)
  | _, [], i, x, h => by simp at h
  | k, y :: xs, 0, x, h => by simp at h; subst h; simp [markL]
  | k, y :: xs, i + 1, x, h => by
    simp at h
    simp only [markL, List.getElem?_cons_succ, markL_at f c (k + c y) xs i x h, List.take_succ_cons, List.map_cons, List.sum_cons, Nat.add_assoc]

/-- A row of n elements that is being made in block G: its first k are those of es. -/
structure Made {α : Type} (w wr : World) (G n : Nat) (e : TypeId) (c : Nat) (O : World → List Value → α → List Nat → Prop) (es : List α) (k : Nat) (xs : List Value) (fps : List (List Nat)) : Prop where
  own : wr.ownsRow G e c (.slice (some ⟨G, 0, none⟩) n n) n xs
  len : fps.length = k
  nd : fps.flatten.Nodup
  rng : ∀ a ∈ fps.flatten, G < a ∧ a < wr.heap.size
  el : ∀ (i : Nat) x f, es[i]? = some x → fps[i]? = some f → ∃ cs : List Value, cs.length = c ∧ (∀ j, j < c → xs[i * c + j]? = cs[j]?) ∧ O wr cs x f
  below : Below G w wr
  sz : G + 1 ≤ wr.heap.size

variable {α : Type} {w wr : World} {G n c k : Nat} {e : TypeId} {O : World → List Value → α → List Nat → Prop} {es : List α} {xs : List Value} {fps : List (List Nat)}

theorem Made.start {M : Array Value} (hM : M.size = n * c) (hn : n ≤ maxLen) : Made w (w.alloc (.cells M e)) w.heap.size n e c O es 0 M.toList [] :=
  ⟨World.ownsRow_lit w M n (Nat.le_refl _) hn hM, rfl, by simp, fun a ha => by simp at ha, fun i x f _ hf => by simp at hf, (Below.refl _ _).alloc (Nat.le_refl _) _, by rw [alloc_hs]; exact Nat.le_refl _⟩

theorem Made.step (hO : ∀ w w' cs x f, O w cs x f → KeepOn f w w' → O w' cs x f) (h : Made w wr G n e c O es k xs fps) {w1 w2 : World} {x : α} {cs xs' : List Value} {f : List Nat} (hx : es[k]? = some x) (hb : Below wr.heap.size wr w1) (ho : O w1 cs x f)
    (hnd : f.Nodup) (hf : ∀ a ∈ f, wr.heap.size ≤ a ∧ a < w1.heap.size) (hcl : cs.length = c) (hown : w2.ownsRow G e c (.slice (some ⟨G, 0, none⟩) n n) n xs') (hgr : w1.grownBy w2 (some G))
    (hlow : ∀ m, m < k * c → xs'[m]? = xs[m]?) (hself : ∀ j, j < c → xs'[k * c + j]? = cs[j]?) : Made w w2 G n e c O es (k + 1) xs' (fps ++ [f]) := by
  have h1 := h.sz
  have h2 := hb.size
  have h3 := hgr.size
  refine ⟨hown, by rw [List.length_append, h.len]; rfl, ?_, ?_, ?_, ?_, by omega⟩
  · rw [List.flatten_append, List.nodup_append]
    refine ⟨h.nd, by simpa using hnd, fun a ha b hb' => ?_⟩
    have := (h.rng a ha).2
    have := (hf b (by simpa using hb')).1
    omega
  · intro a ha
    rw [List.flatten_append, List.mem_append] at ha
    rcases ha with ha | ha
    · have := h.rng a ha; omega
    · have := hf a (by simpa using ha); omega
  · intro i y f' hy hf'
    by_cases hik : i < k
    · rw [List.getElem?_append_left (by rw [h.len]; exact hik)] at hf'
      obtain ⟨cs', g1, g2, g3⟩ := h.el i y f' hy hf'
      refine ⟨cs', g1, fun j hj => ?_, hO _ _ _ _ _ g3 (fun a ha => ?_)⟩
      · rw [hlow]
        · exact g2 j hj
        · have : i * c + c ≤ k * c := by rw [← Nat.succ_mul]; exact Nat.mul_le_mul_right c hik
          omega
      · have hr := h.rng a (List.mem_flatten.2 ⟨f', List.mem_of_getElem? hf', ha⟩)
        exact (hgr.block a (by omega) (by simp; omega)).trans (hb.block a hr.2)
    · have hil : i < k + 1 := by
        have := (List.getElem?_eq_some_iff.1 hf').1
        rw [List.length_append, h.len] at this; simpa using this
      obtain rfl : i = k := by omega
      obtain rfl : x = y := Option.some.inj (hx.symm.trans hy)
      rw [List.getElem?_append_right (by rw [h.len]; exact Nat.le_refl _), h.len, Nat.sub_self] at hf'
      simp at hf'
      subst hf'
      exact ⟨cs, hcl, hself, hO _ _ _ _ _ ho (fun a ha => by have := hf a ha; exact hgr.block a (by omega) (by simp; omega))⟩
  · exact h.below.trans ((hb.mono (by omega)).trans ⟨hgr.os, hgr.tape, hgr.output, hgr.size, fun j hj => hgr.block j (by omega) (by simp; omega)⟩)

theorem Made.done (h : Made w wr G n e c O es n xs fps) (hn : es.length = n) (hm : n ≤ maxLen) : ∃ fp, ORows wr e c (O wr) (.slice (some ⟨G, 0, none⟩) n n) es fp ∧ fp.Nodup ∧ ∀ a ∈ fp, G ≤ a ∧ a < wr.heap.size := by
  by_cases hne : es = []
  · subst hne
    exact ⟨[], .inl ⟨rfl, rfl, _, _, by rw [← hn]; rfl, hm⟩, by simp, fun a ha => by simp at ha⟩
  · refine ⟨G :: fps.flatten, .inr ⟨hne, xs, G, n, fps, ?_, by rw [hn], by rw [h.len, hn], rfl, h.el⟩, ?_, ?_⟩
    · rw [hn]
      obtain ⟨h1, h2⟩ := h.own
      refine ⟨h1, h2.imp id ?_⟩
      rintro ⟨g, cap, cur, a1, a2, a3⟩
      exact ⟨g, cap, cur, a1, Nat.zero_le _, a3⟩
    · rw [List.nodup_cons]
      exact ⟨fun hm => by have := (h.rng G hm).1; omega, h.nd⟩
    · intro a ha
      have := h.sz
      rcases List.mem_cons.1 ha with rfl | ha
      · omega
      · have := h.rng a ha; omega

/-- A function that makes a copy, of what is not too great, in new memory that the copy owns. -/
def ToO {α : Type} (F : FuncId) (H : World → Value → α → Prop) (O : World → Value → α → List Nat → Prop) (wt : α → Nat) : Prop :=
  ∀ (w : World) (v : Value) (x : α), H w v x → wt x ≤ 1048576 → Calls Tryz.prog F #[v] w fun e w' => ∃ u fp, e = .returned u ∧ O w' u x fp ∧ fp.Nodup ∧ (∀ a ∈ fp, w.heap.size ≤ a ∧ a < w'.heap.size) ∧ Below w.heap.size w w'
end Go.Proofs.YtihffcphbcepoaaGreatDoor
/-
  A row that is grown by append, one element behind the other, each a tree in memory of its own.
-/
namespace Go.Proofs.YtihffcphbcepoaaGreatDoor
open Go.ChangeShapes Go.WideShapes Go.ChangeAt Go.RowKit
set_option linter.unusedVariables false

theorem ownsB_block {w w' : World} {B : Nat} {e : TypeId} {c g n cap : Nat} {v : Value} {cells : List Value} (h : w.ownsRow B e c v n cells) (hv : v = .slice (some ⟨g, 0, none⟩) n cap) (hk : w'.heap[g]? = w.heap[g]?) : w'.ownsRow B e c v n cells := by
  refine ⟨h.1, ?_⟩
  rcases h.2 with hn | ⟨g', cap', cur, hv', hb, hg, hr⟩
  · exact .inl hn
  · have : g' = g := by rw [hv] at hv'; simp at hv'; exact hv'.1.symm
    subst this
    exact .inr ⟨g', cap', cur, hv', hb, hk.trans hg, hr⟩
theorem owns_own_lt {w : World} {B : Nat} {e : TypeId} {c n b : Nat} {v : Value} {cells : List Value} (h : w.ownsRow B e c v n cells) (hb : v.ownBlock = some b) : B ≤ b ∧ b < w.heap.size := by
  rcases h.2 with hn | ⟨g', cap', cur, hv', hB, hg, hr⟩
  · rw [hn.1] at hb; cases hb
  · rw [hv'] at hb
    simp [Value.ownBlock] at hb
    subst hb
    exact ⟨hB, (Array.getElem?_eq_some_iff.1 hg).1⟩

/-- What lies in new memory, but not in the row's own block. -/
def offRow (B : Nat) (w : World) (u : Value) (a : Nat) : Prop := B ≤ a ∧ a < w.heap.size ∧ u.ownBlock ≠ some a

structure Grow {α : Type} (wr : World) (B : Nat) (e : TypeId) (c : Nat) (R : World → (Nat → Prop) → List Value → α → Prop) (es : List α) (k : Nat) (u : Value) (xs : List Value) : Prop where
  own : wr.ownsRow B e c u k xs
  el : ∀ (i : Nat) x, i < k → es[i]? = some x → ∃ cs : List Value, cs.length = c ∧ (∀ j, j < c → xs[i * c + j]? = cs[j]?) ∧ R wr (offRow B wr u) cs x
  low : B ≤ wr.heap.size

variable {α : Type} {wr w1 wb w2 : World} {B c k : Nat} {e : TypeId} {R : World → (Nat → Prop) → List Value → α → Prop} {es : List α} {u : Value} {xs : List Value}

theorem Grow.start (h : B ≤ wr.heap.size) : Grow wr B e c R es 0 (.slice none 0 0) [] :=
  ⟨⟨by simp, .inl ⟨rfl, rfl⟩⟩, fun i x hi => by omega, h⟩

theorem Grow.step (hR : ∀ w w' S S' cs x, R w S cs x → SameOn S w w' → (∀ g, S g → S' g) → R w' S' cs x) (h : Grow wr B e c R es k u xs) {x : α} {cs : List Value} (hx : es[k]? = some x) (hb : Below wr.heap.size wr w1)
    (hr : R w1 (fun a => wr.heap.size ≤ a ∧ a < w1.heap.size) cs x) (hcl : cs.length = c) (hwb : Below w1.heap.size w1 wb) {H g cap : Nat} (hH : w1.heap.size ≤ H) (hHs : H ≤ wb.heap.size)
    (hown : w2.ownsRow B e c (.slice (some ⟨g, 0, none⟩) (k + 1) cap) (k + 1) (xs ++ cs)) (hgr : wb.grownBy w2 u.ownBlock) (hat : u.ownBlock = some g ∨ g = H) {o : Nat} (ho : o < B) (j : Nat) (v : Value) :
    Grow (w2.setCell ⟨o, j, none⟩ v) B e c R es (k + 1) (.slice (some ⟨g, 0, none⟩) (k + 1) cap) (xs ++ cs) := by
  have hlow := h.low
  have s1 := hb.size
  have s2 := hwb.size
  have s3 := hgr.size
  have hgB : B ≤ g ∧ g < w2.heap.size := owns_own_lt hown rfl
  have hu : ∀ b, u.ownBlock = some b → b < wr.heap.size := fun b hb => (owns_own_lt h.own hb).2
  have blk : ∀ a, B ≤ a → a < w1.heap.size → u.ownBlock ≠ some a → (w2.setCell ⟨o, j, none⟩ v).heap[a]? = w1.heap[a]? := fun a h1 h2 h3 =>
    (Below.heap_setCell _ _ _ _ (by show a ≠ o; omega)).trans ((hgr.block a (by omega) (fun e => h3 e.symm)).trans (hwb.block a h2))
  have hxl : xs.length = k * c := h.own.1
  refine ⟨ownsB_block hown rfl (Below.heap_setCell _ _ _ _ (by show g ≠ o; omega)), fun i y hi hy => ?_, by simp only [setCell_hs]; omega⟩
  by_cases hik : i < k
  · obtain ⟨cs', g1, g2, g3⟩ := h.el i y hik hy
    have hil : i * c + c ≤ k * c := by rw [← Nat.succ_mul]; exact Nat.mul_le_mul_right c hik
    refine ⟨cs', g1, fun q hq => ?_, hR _ _ _ _ _ _ g3 ⟨by simp only [setCell_hs]; omega, fun a ha hal => ?_⟩ (fun a ha => ?_)⟩
    · rw [List.getElem?_append_left (by omega)]; exact g2 q hq
    · exact (blk a ha.1 (by omega) ha.2.2).trans (hb.block a ha.2.1)
    · refine ⟨ha.1, by simp only [setCell_hs]; have := ha.2.1; omega, fun e => ?_⟩
      simp [Value.ownBlock] at e
      subst e
      rcases hat with hat | hat
      · exact ha.2.2 hat
      · have := ha.2.1; omega
  · obtain rfl : i = k := by omega
    obtain rfl : x = y := Option.some.inj (hx.symm.trans hy)
    refine ⟨cs, hcl, fun q hq => ?_, hR _ _ _ _ _ _ hr ⟨by simp only [setCell_hs]; omega, fun a ha hal => ?_⟩ (fun a ha => ?_)⟩
    · rw [List.getElem?_append_right (by omega), hxl]; congr 1; omega
    · exact blk a (by have := ha.1; omega) ha.2 (fun e => by have := hu a e; have := ha.1; omega)
    · refine ⟨by have := ha.1; omega, by simp only [setCell_hs]; have := ha.2; omega, fun e => ?_⟩
      simp [Value.ownBlock] at e
      subst e
      rcases hat with hat | hat
      · have := hu _ hat; have := ha.1; omega
      · have := ha.2; omega

theorem Grow.done (hR : ∀ w w' S S' cs x, R w S cs x → SameOn S w w' → (∀ g, S g → S' g) → R w' S' cs x) (h : Grow wr B e c R es k u xs) (hk : es.length = k) : Rows wr (fun a => B ≤ a) c (R wr (fun a => B ≤ a)) u es := by
  rcases h.own.2 with hn | ⟨g, cap, cur, hv, hB, hg, h1, h2, h3, h4⟩
  · refine ⟨none, 0, by rw [hn.1, hk, hn.2], by omega, Nat.zero_le _, fun hne => ?_⟩
    exact absurd (List.length_eq_zero_iff.1 (hk.trans hn.2)) hne
  · refine ⟨_, _, by rw [hk]; exact hv, by rw [hk]; exact h1, h2, fun hne => ⟨g, 0, rfl, hB, (Array.getElem?_eq_some_iff.1 hg).1, fun i x hi => ?_⟩⟩
    have hin : i < k := by rw [← hk]; exact (List.getElem?_eq_some_iff.1 hi).1
    obtain ⟨cs, g1, g2, g3⟩ := h.el i x hin hi
    refine ⟨cs, g1, fun j hj => ?_, hR _ _ _ _ _ _ g3 ⟨Nat.le_refl _, fun _ _ _ => rfl⟩ (fun a ha => ha.1)⟩
    rw [← g2 j hj, Nat.zero_add]
    have ho := h.own
    rw [hv] at ho
    refine ho.cellAt (i * c + j) ?_
    have : i * c + c ≤ k * c := by rw [← Nat.succ_mul]; exact Nat.mul_le_mul_right c hin
    omega
end Go.Proofs.YtihffcphbcepoaaGreatDoor
/-
  Rows that are grown by append: what a step of append leaves as it was.
-/
namespace Go.Proofs.YtihffcphbcepoaaGreatDoor
open Go.ChangeShapes Go.WideShapes Go.ChangeAt Go.RowKit
set_option linter.unusedVariables false

theorem owns_below {w w' : World} {B : Nat} {e : TypeId} {c n : Nat} {v : Value} {cells : List Value} (h : w.ownsRow B e c v n cells) (hg : w.grownBy w' v.ownBlock) (hB : B ≤ w.heap.size) : Below B w w' :=
  ⟨hg.os, hg.tape, hg.output, hg.size, fun j hj => hg.block j (by omega) (fun e => by
    have := (owns_own_lt h e.symm).1
    omega)⟩
theorem owns_next {w w' : World} {B : Nat} {e : TypeId} {c n : Nat} {v : Value} {cells : List Value} (h : w.ownsRow B e c v n cells) (hb : Below w.heap.size w w') : w'.ownsRow B e c v n cells := by
  refine ⟨h.1, ?_⟩
  rcases h.2 with hn | ⟨g, cap, cur, hv, hB, hg, hr⟩
  · exact .inl hn
  · exact .inr ⟨g, cap, cur, hv, hB, (hb.block g (Array.getElem?_eq_some_iff.1 hg).1).trans hg, hr⟩
theorem owns_fresh {w : World} {e : TypeId} {c : Nat} : (w.alloc (.cells #[] e)).ownsRow w.heap.size e c (.slice (some ⟨w.heap.size, 0, none⟩) 0 0) 0 [] := by
  refine ⟨by simp, .inr ⟨w.heap.size, 0, #[], rfl, Nat.le_refl _, ?_, Nat.le_refl _, Nat.zero_le _, by simp, by simp⟩⟩
  exact Blk.new (w := w) (cs := #[]) (t := e)
/-- Two rows of other types lie in other blocks: one grows, the other stays. -/
theorem owns_apart {w w' : World} {B B' : Nat} {e e' : TypeId} {c c' n n' : Nat} {v v' : Value} {xs xs' : List Value} (h : w.ownsRow B e c v n xs) (k : w.ownsRow B' e' c' v' n' xs') (hne : e ≠ e') (hg : w.grownBy w' v.ownBlock) : w'.ownsRow B' e' c' v' n' xs' := by
  refine ⟨k.1, ?_⟩
  rcases k.2 with hn | ⟨g, cap, cur, hv, hB, hh, hr⟩
  · exact .inl hn
  · refine .inr ⟨g, cap, cur, hv, hB, (hg.block g (Array.getElem?_eq_some_iff.1 hh).1 (fun e1 => ?_)).trans hh, hr⟩
    rcases h.2 with ⟨rfl, _⟩ | ⟨g2, cap2, cur2, rfl, _, hh2, _⟩
    · simp [Value.ownBlock] at e1
    · simp [Value.ownBlock] at e1
      subst e1
      rw [hh] at hh2
      simp at hh2
      exact hne hh2.2.symm
theorem owns_base {w : World} {B : Nat} {e : TypeId} {c n : Nat} {v : Value} {xs : List Value} (h : w.ownsRow B e c v n xs) : w.ownsRow 0 e c v n xs := by
  refine ⟨h.1, ?_⟩
  rcases h.2 with hn | ⟨g, cap, cur, hv, hB, hr⟩
  · exact .inl hn
  · exact .inr ⟨g, cap, cur, hv, Nat.zero_le _, hr⟩
theorem owns_slice {w : World} {B : Nat} {e : TypeId} {c n : Nat} {v : Value} {xs : List Value} (h : w.ownsRow B e c v n xs) : ∃ p q, v = .slice p n q ∧ n ≤ maxLen := by
  rcases h.2 with ⟨rfl, rfl⟩ | ⟨g, cap, cur, rfl, hB, hh, h1, h2, _⟩
  · exact ⟨_, _, rfl, Nat.zero_le _⟩
  · exact ⟨_, _, rfl, Nat.le_trans h1 h2⟩
theorem owns_some {w : World} {B : Nat} {e : TypeId} {c n q : Nat} {p : Option Addr} {xs : List Value} (h : w.ownsRow B e c (.slice p n q) n xs) (hn : 0 < n) : ∃ g, p = some ⟨g, 0, none⟩ := by
  rcases h.2 with ⟨hv, rfl⟩ | ⟨g, cap, cur, hv, _⟩
  · omega
  · simp at hv
    exact ⟨g, hv.1⟩


/-- Blocks of other types than e lie as they did. -/
def ApartE (e : TypeId) (w w' : World) : Prop := ∀ (b : Nat) (cs : Array Value) (t : TypeId) (fr : Nat × Nat), w.heap[b]? = some (Obj.cells cs t fr) → t ≠ e → w'.heap[b]? = w.heap[b]?
theorem ApartE.blk {e t : TypeId} {w w' : World} (h : ApartE e w w') {b : Nat} {cs : Array Value} (hb : Blk w b cs t) (ht : t ≠ e) : Blk w' b cs t := (h b cs t _ hb ht).trans hb
theorem ApartE.owns {e t : TypeId} {w w' : World} (h : ApartE e w w') {B c n : Nat} {v : Value} {xs : List Value} (k : w.ownsRow B t c v n xs) (ht : t ≠ e) : w'.ownsRow B t c v n xs := by
  refine ⟨k.1, ?_⟩
  rcases k.2 with hn | ⟨g, cap, cur, hv, hB, hh, hr⟩
  · exact .inl hn
  · exact .inr ⟨g, cap, cur, hv, hB, (h g _ _ _ hh ht).trans hh, hr⟩
theorem ApartE.refl (e : TypeId) (w : World) : ApartE e w w := fun _ _ _ _ _ _ => rfl
theorem ApartE.of_below {e : TypeId} {w w' : World} (h : Below w.heap.size w w') : ApartE e w w' := fun b _ _ _ hb _ => h.block b (Array.getElem?_eq_some_iff.1 hb).1
theorem ApartE.trans {e : TypeId} {a b c : World} (h : ApartE e a b) (k : ApartE e b c) : ApartE e a c := fun g cs t fr hg ht => by
  have h1 := h g cs t fr hg ht
  exact (k g cs t fr (h1.trans hg) ht).trans h1
theorem ApartE.of_grown {e : TypeId} {w w' : World} {B c n : Nat} {v : Value} {xs : List Value} (h : w.ownsRow B e c v n xs) (hg : w.grownBy w' v.ownBlock) : ApartE e w w' := fun b cs t fr hb ht =>
  hg.block b (Array.getElem?_eq_some_iff.1 hb).1 (fun e1 => by
    rcases h.2 with ⟨rfl, _⟩ | ⟨g2, cap2, cur2, rfl, _, hh2, _⟩
    · simp [Value.ownBlock] at e1
    · simp [Value.ownBlock] at e1
      subst e1
      rw [hb] at hh2
      simp at hh2
      exact ht hh2.2.1)

/-- The row v holds just the elements l, by R; it lies in a block of its own at B or above. -/
def OwnG {α : Type} (e : TypeId) (c : Nat) (R : List Value → α → Prop) (w : World) (B : Nat) (v : Value) (l : List α) : Prop := (∃ cells, w.ownsRow B e c v l.length cells ∧ CellsR c R cells l) ∧ B ≤ w.heap.size
section
variable {α : Type} {e : TypeId} {c : Nat} {R : List Value → α → Prop} {w w' : World} {B B' : Nat} {v : Value} {l : List α}
theorem OwnG.next (h : OwnG e c R w B v l) (hb : Below w.heap.size w w') : OwnG e c R w' B v l := by
  obtain ⟨⟨cells, h1, h2⟩, h3⟩ := h
  exact ⟨⟨cells, owns_next h1 hb, h2⟩, Nat.le_trans h3 hb.size⟩
theorem OwnG.base (h : OwnG e c R w B v l) (hB : B' ≤ B) : OwnG e c R w B' v l := by
  obtain ⟨⟨cells, h1, h2⟩, h3⟩ := h
  refine ⟨⟨cells, ⟨h1.1, ?_⟩, h2⟩, Nat.le_trans hB h3⟩
  rcases h1.2 with hn | ⟨g, cap, cur, hv, hB1, hr⟩
  · exact .inl hn
  · exact .inr ⟨g, cap, cur, hv, Nat.le_trans hB hB1, hr⟩
theorem OwnG.fresh : OwnG e c R (w.alloc (.cells #[] e)) w.heap.size (.slice (some ⟨w.heap.size, 0, none⟩) 0 0) [] :=
  ⟨⟨[], owns_fresh, CellsR.nil⟩, by rw [alloc_hs]; omega⟩
theorem OwnG.rows (h : OwnG e c R w B v l) : Rows w All c R v l := by
  obtain ⟨⟨cells, h1, h2⟩, h3⟩ := h
  exact CellsR.rows h1 h2 rfl
theorem OwnG.slice (h : OwnG e c R w B v l) : ∃ p q, v = .slice p l.length q ∧ l.length ≤ maxLen := by
  obtain ⟨⟨cells, h1, h2⟩, h3⟩ := h
  exact owns_slice h1
/-- append(s, x): x was built in a block of its own just ahead. -/
theorem wpList_append_one {P : Program} {w0 : World} {ops : Array Oper} {rest : List Oper} {o : Oper} {a : Act} {Q : Exit → Act → World → Prop} (hgd : o.guard = none) (s x : Operand) (t : TypeId)
    (ho : o.op = .call { callee := .builtin .append, args := #[s, x], argTypes := #[t, t] })
    (z : Value) (bytes : Nat) (ht : P.underlying t = some (.slice e)) (hi : (P.info? e).map (fun i => (i.zero, i.size, i.bytes)) = some (some z, c, bytes)) (hzs : z.cells.size = c) (hsz : 0 < c)
    (h : OwnG e c R w0 B v l) (cs : Array Value) (q : α) (hq : R cs.toList q) (hc : cs.size = c) (h1 : ∀ u ∈ cs.toList, u.oneCell' = true) (hs : a.eval s = v) (hx : a.eval x = .slice (some ⟨w0.heap.size, 0, none⟩) 1 1)
    (hl : l.length + 1 ≤ 1048576) (hb : bytes ≤ 1000)
    (k : ∀ v' w', OwnG e c R w' B v' (l ++ [q]) → Below B w0 w' → ApartE e w0 w' → wpList P ops Q rest (a.put o.dst v') w') : wpList P ops Q (o :: rest) a (w0.alloc (.cells cs e)) := by
  obtain ⟨i, hi', hz0, hz1, hz2⟩ := info_parts hi
  obtain ⟨⟨cells, g1, g2⟩, g3⟩ := h
  have hal : Below w0.heap.size w0 (w0.alloc (.cells cs e)) := (Below.refl _ _).alloc (Nat.le_refl _) _
  have own := owns_next g1 hal
  refine wpList_append_own _ hgd s x t ho B e i z c bytes ht hi' hz0 hz1 hz2 hzs hsz v l.length cells hs own ⟨w0.heap.size, 0, none⟩ 1 1 cs.toList hx (by simp [hc]) (World.news_of_block (cs := cs) (t := e) (fr := (0, 0)) (heap_alloc_new w0 _)) h1 (by unfold maxLen; omega) (by
    have : (l.length + 1) * bytes ≤ 1048576 * 1000 := Nat.mul_le_mul hl hb
    omega) (by rw [alloc_hs]; omega) ?_
  intro v' w' k1 k2 _
  refine k v' w' ⟨⟨_, by simpa using k1, g2.append (CellsR.one (by simpa using hc) hq)⟩, Nat.le_trans (by rw [alloc_hs]; omega) k2.size⟩ ?_ ((ApartE.of_below hal).trans (ApartE.of_grown own k2))
  exact (hal.mono g3).trans (owns_below own k2 (by rw [alloc_hs]; omega))
/-- append(s, xs...) of a row of the same elements. -/
theorem wpList_append_own_rows {P : Program} {S : Nat → Prop} {ops : Array Oper} {rest : List Oper} {o : Oper} {a : Act} {Q : Exit → Act → World → Prop} (hgd : o.guard = none) (s x : Operand) (t : TypeId)
    (ho : o.op = .call { callee := .builtin .append, args := #[s, x], argTypes := #[t, t] })
    (z : Value) (bytes : Nat) (ht : P.underlying t = some (.slice e)) (hi : (P.info? e).map (fun i => (i.zero, i.size, i.bytes)) = some (some z, c, bytes)) (hzs : z.cells.size = c) (hsz : 0 < c)
    (h : OwnG e c R w B v l) (hs : a.eval s = v) (u : Value) (m : List α) (hx : a.eval x = u) (hr : Rows w S c R u m) (hone : ∀ cs y, R cs y → ∀ q ∈ cs, q.oneCell' = true)
    (hl : l.length + m.length ≤ 1048576) (hb : bytes ≤ 1000)
    (k : ∀ v' w', OwnG e c R w' B v' (l ++ m) → Below B w w' → ApartE e w w' → wpList P ops Q rest (a.put o.dst v') w') : wpList P ops Q (o :: rest) a w := by
  obtain ⟨i, hi', hz0, hz1, hz2⟩ := info_parts hi
  obtain ⟨⟨cells, g1, g2⟩, g3⟩ := h
  refine wpList_append_rows hgd s x t ho B e i z c bytes ht hi' hz0 hz1 hz2 hzs hsz v l.length cells hs g1 u m hx hr hone (by unfold maxLen; omega) (by
    have : (l.length + m.length) * bytes ≤ 1048576 * 1000 := Nat.mul_le_mul hl hb
    omega) g3 ?_
  intro v' w' news hc k1 k2
  exact k v' w' ⟨⟨_, by simpa using k1, g2.append hc⟩, Nat.le_trans g3 k2.size⟩ (owns_below g1 k2 g3) (ApartE.of_grown g1 k2)
/-- append(s, x), and where the row lies behind it: where it lay, or in a new block. -/
theorem wpList_append_lies {P : Program} {w0 : World} {ops : Array Oper} {rest : List Oper} {o : Oper} {a : Act} {Q : Exit → Act → World → Prop} (hgd : o.guard = none) (s x : Operand) (t : TypeId)
    (ho : o.op = .call { callee := .builtin .append, args := #[s, x], argTypes := #[t, t] })
    (z : Value) (bytes : Nat) (ht : P.underlying t = some (.slice e)) (hi : (P.info? e).map (fun i => (i.zero, i.size, i.bytes)) = some (some z, c, bytes)) (hzs : z.cells.size = c) (hsz : 0 < c)
    (h : OwnG e c R w0 B v l) (cs : Array Value) (q : α) (hq : R cs.toList q) (hc : cs.size = c) (h1 : ∀ u ∈ cs.toList, u.oneCell' = true) (hs : a.eval s = v) (hx : a.eval x = .slice (some ⟨w0.heap.size, 0, none⟩) 1 1)
    (hl : l.length + 1 ≤ 1048576) (hb : bytes ≤ 1000)
    (k : ∀ g cap w', OwnG e c R w' B (.slice (some ⟨g, 0, none⟩) (l.length + 1) cap) (l ++ [q]) → Below B w0 w' → ApartE e w0 w' → (v.ownBlock = some g ∨ w0.heap.size ≤ g) → (∀ j, j < w0.heap.size → some j ≠ v.ownBlock → w'.heap[j]? = w0.heap[j]?) → wpList P ops Q rest (a.put o.dst (.slice (some ⟨g, 0, none⟩) (l.length + 1) cap)) w') : wpList P ops Q (o :: rest) a (w0.alloc (.cells cs e)) := by
  obtain ⟨i, hi', hz0, hz1, hz2⟩ := info_parts hi
  obtain ⟨⟨cells, g1, g2⟩, g3⟩ := h
  have hal : Below w0.heap.size w0 (w0.alloc (.cells cs e)) := (Below.refl _ _).alloc (Nat.le_refl _) _
  have own := owns_next g1 hal
  refine wpList_plain hgd fun _ hK => wp_append_lies _ s x t ho B e i z c bytes ht hi' hz0 hz1 hz2 hzs hsz v l.length cells hs own ⟨w0.heap.size, 0, none⟩ 1 1 cs.toList hx (by simp [hc]) (World.news_of_block (cs := cs) (t := e) (fr := (0, 0)) (heap_alloc_new w0 _)) h1 (by omega) (by unfold maxLen; omega) (by
    have : (l.length + 1) * bytes ≤ 1048576 * 1000 := Nat.mul_le_mul hl hb
    omega) (by rw [alloc_hs]; omega) (w0.heap.size + 1) (by rw [alloc_hs]) ?_
  intro g cap w' k1 k2 k3 k4
  refine hK _ _ (k g cap w' ⟨⟨_, by simpa using k1, g2.append (CellsR.one (by simpa using hc) hq)⟩, Nat.le_trans (by rw [alloc_hs]; omega) k2.size⟩ ?_ ((ApartE.of_below hal).trans (ApartE.of_grown own k2)) (k3.imp id (fun e => by omega)) (fun j hj hn => ?_))
  · exact (hal.mono g3).trans (owns_below own k2 (by rw [alloc_hs]; omega))
  · exact (k2.block j (by rw [alloc_hs]; omega) hn).trans (hal.block j hj)
theorem OwnG.setCell {b j : Nat} {cs : Array Value} {t : TypeId} {x : Value} (h : OwnG e c R w B v l) (hb : Blk w b cs t) (ht : t ≠ e) : OwnG e c R (w.setCell ⟨b, j, none⟩ x) B v l := by
  obtain ⟨⟨cells, g1, g2⟩, g3⟩ := h
  refine ⟨⟨cells, ⟨g1.1, ?_⟩, g2⟩, by rw [setCell_hs]; exact g3⟩
  rcases g1.2 with hn | ⟨g, cap, cur, hv, hB, hh, hr⟩
  · exact .inl hn
  · refine .inr ⟨g, cap, cur, hv, hB, (Below.heap_setCell _ _ _ _ (fun e1 => ?_)).trans hh, hr⟩
    have e2 : g = b := e1
    subst e2
    rw [show w.heap[g]? = _ from hb] at hh
    simp at hh
    exact ht hh.2
/-- The same as an arm of a region that draws its order: what is appended lies in the block g. -/
theorem step_append_blk {P : Program} {ops : Array Oper} {o : Oper} {a : Act} {K : Act → World → Prop} {Q : Exit → Act → World → Prop} {E : Prop} (hgd : o.guard = none) (s x : Operand) (t : TypeId)
    (ho : o.op = .call { callee := .builtin .append, args := #[s, x], argTypes := #[t, t] })
    (z : Value) (bytes : Nat) (ht : P.underlying t = some (.slice e)) (hi : (P.info? e).map (fun i => (i.zero, i.size, i.bytes)) = some (some z, c, bytes)) (hzs : z.cells.size = c) (hsz : 0 < c)
    (h : OwnG e c R w B v l) (g : Nat) (cs : Array Value) (hg : w.heap[g]? = some (Obj.cells cs e (0, 0))) (q : α) (hq : R cs.toList q) (hc : cs.size = c) (h1 : ∀ u ∈ cs.toList, u.oneCell' = true) (hs : a.eval s = v) (hx : a.eval x = .slice (some ⟨g, 0, none⟩) 1 1)
    (hl : l.length + 1 ≤ 1048576) (hb : bytes ≤ 1000)
    (k : ∀ v' w', OwnG e c R w' B v' (l ++ [q]) → Below B w w' → ApartE e w w' → K (a.put o.dst v') w') :
    if Region.wanted o (yielded ops a.tmps) = true then Oper.wp P o a w K Q else E := by
  have hw : Region.wanted o (yielded ops a.tmps) = true := by simp [Region.wanted, hgd]
  rw [if_pos hw]
  obtain ⟨i, hi', hz0, hz1, hz2⟩ := info_parts hi
  obtain ⟨⟨cells, g1, g2⟩, g3⟩ := h
  refine wp_append_own w s x t ho B e i z c bytes ht hi' hz0 hz1 hz2 hzs hsz v l.length cells hs g1 ⟨g, 0, none⟩ 1 1 cs.toList hx (by simp [hc]) (World.news_of_block (cs := cs) (t := e) (fr := (0, 0)) hg) h1 (by unfold maxLen; omega) (by
    have : (l.length + 1) * bytes ≤ 1048576 * 1000 := Nat.mul_le_mul hl hb
    omega) g3 ?_
  intro v' w' k1 k2 _
  exact k v' w' ⟨⟨_, by simpa using k1, g2.append (CellsR.one (by simpa using hc) hq)⟩, Nat.le_trans g3 k2.size⟩ (owns_below g1 k2 g3) (ApartE.of_grown g1 k2)
end
end Go.Proofs.YtihffcphbcepoaaGreatDoor
/-
  slices.Concat of two rows of expressions, by contract: a row of its own that holds the elements of both.
-/
namespace Go.Proofs.YtihffcphbcepoaaGreatDoor
open Go.ChangeShapes Go.WideShapes Go.ChangeAt Go.RowKit
set_option linter.unusedVariables false
set_option maxRecDepth 100000

theorem info_exC : (Tryz.prog.info? 88).map (fun i => (i.zero, i.size, i.bytes)) = some (some (.agg #[.int .i64 0, .int .i64 0, .string ⟨#[]⟩, .string ⟨#[]⟩, .slice none 0 0, .slice none 0 0]), 6, 96) := by kernel_rfl
theorem exc_oneCell {w : World} {S : Nat → Prop} {d : Nat} (cs : List Value) (x : Ex) (h : HEx w S d cs x) : ∀ u ∈ cs, u.oneCell' = true := by
  cases d with
  | zero => exact h.elim
  | succ d =>
    obtain ⟨kv, cv, rfl, -, -, -, -, ⟨p, c, rfl, -⟩, ⟨p', c', rfl, -⟩⟩ := h
    intro u hu
    simp only [List.mem_cons, List.not_mem_nil, or_false] at hu
    rcases hu with rfl | rfl | rfl | rfl | rfl | rfl <;> rfl

set_option maxHeartbeats 4000000 in
theorem growEx_any (n : Nat) (w : World) (hn : n ≤ 2097152) :
    Calls Tryz.prog 82 #[.slice none 0 0, .int .i64 n] w fun e w' => ∃ u, e = .returned u ∧ w'.ownsRow w.heap.size 88 6 u 0 [] ∧ Below w.heap.size w w' := by
  by_cases h0 : n = 0
  · subst h0
    go_enter Tryz.func82, Tryz.ntmps82
    go_wp2
    go_ret
    exact ⟨_, rfl, ⟨by simp, .inl ⟨rfl, rfl⟩⟩, Below.refl _ _⟩
  · obtain ⟨i, hi, hz0, hz1, hz2⟩ := info_parts info_exC
    have hfc : (Builtin.firstCells i.size 0 (.slice none 0 0)).run Tryz.prog w.drew = .ok #[] w.drew := run_firstCells_none w.drew i.size 0 0 0
    have hrz : ∀ ty, (Builtin.append_ #[76, 3] ty #[.slice none 0 0, .int .i64 n]).run Tryz.prog w =
        .ok (.slice (some ⟨w.heap.size, 0, none⟩) n (grownCap w n 0 88)) (w.drew.alloc (.cells (#[] ++ Builtin.zeroCells (Value.agg #[.int .i64 0, .int .i64 0, .string ⟨#[]⟩, .string ⟨#[]⟩, .slice none 0 0, .slice none 0 0]).cells n ++ Builtin.zeroCells (Value.agg #[.int .i64 0, .int .i64 0, .string ⟨#[]⟩, .string ⟨#[]⟩, .slice none 0 0, .slice none 0 0]).cells (grownCap w n 0 88 - n)) 88)) := fun ty => by
      have h := Lib.run_append_grow_zeros w 76 3 ty 88 i _ .i64 .i64 Tryz.underlying76 Tryz.underlying3 hi hz0 none 0 0 [] hfc n (by omega) (by omega) (by omega) (by omega)
        (by rw [hz2]; omega) (growslice_fits (by omega) (by rw [hz2]; omega))
      simpa using h
    have hGn : n ≤ grownCap w n 0 88 := grownCap_ge w _ _ _
    have hGm := grownCap_le_maxLen w n 0 88 (by unfold maxLen; omega)
    generalize grownCap w n 0 88 = G at *
    have HGM : Hid (G ≤ maxLen) := hGm
    have hG63 : G ≤ 9223372036854775807 := by unfold maxLen at hGm; omega
    have h1 : (0 : Int) < (n : Int) := by omega
    obtain ⟨CC, hCC⟩ : ∃ CC : Array Value, CC = #[] ++ Builtin.zeroCells (Value.agg #[.int .i64 0, .int .i64 0, .string ⟨#[]⟩, .string ⟨#[]⟩, .slice none 0 0, .slice none 0 0]).cells n ++ Builtin.zeroCells (Value.agg #[.int .i64 0, .int .i64 0, .string ⟨#[]⟩, .string ⟨#[]⟩, .slice none 0 0, .slice none 0 0]).cells (G - n) := ⟨_, rfl⟩
    have hCS : CC.size = G * 6 := by
      rw [hCC]
      simp only [Array.size_append, size_zeroCells, Value.cells]
      simp
      omega
    rw [← hCC] at hrz
    have HB : Hid (Below w.heap.size w (w.alloc (.cells CC 88)).drew) := ((Below.refl _ _).alloc (Nat.le_refl _) _).drew
    have HO : Hid ((w.alloc (.cells CC 88)).drew.ownsRow w.heap.size 88 6 (.slice (some ⟨w.heap.size, 0, none⟩) 0 G) 0 []) :=
      ⟨by simp, .inr ⟨w.heap.size, G, CC, rfl, Nat.le_refl _, heap_alloc_new w _, Nat.zero_le _, hGm, hCS, by simp⟩⟩
    clear hCC hCS
    clear hfc hi hz0 hz1 hz2 hGm
    go_enter Tryz.func82, Tryz.ntmps82
    go_wp2_with (at_builtin; refine Lib.wpList_append_run _ rfl _ _ _ _ rfl _ _ rfl rfl _ _ (hrz _) ?_)
    go_ret
    exact ⟨_, rfl, HO.out, HB.out⟩

/-- Both rows: what stands ahead of the round k. -/
def aheadC (P Q : List Ex) : Nat → List Ex
  | 0 => []
  | 1 => P
  | _ => P ++ Q

set_option maxHeartbeats 8000000 in
theorem concatEx_any (R : List Value → Ex → Prop) (hone : ∀ cs y, R cs y → ∀ q ∈ cs, q.oneCell' = true) (w : World) (sb : Nat) (p1 p2 : Option Addr) (c1 c2 : Nat) (P Q : List Ex) (hs : Blk w sb #[.slice p1 P.length c1, .slice p2 Q.length c2] 76)
    (h1 : Rows w All 6 R (.slice p1 P.length c1) P) (h2 : Rows w All 6 R (.slice p2 Q.length c2) Q) (hl : P.length + Q.length ≤ 1048576) :
    Calls Tryz.prog 45 #[.slice (some ⟨sb, 0, none⟩) 2 2] w fun e w' => ∃ u, e = .returned u ∧ OwnG 88 6 R w' w.heap.size u (P ++ Q) ∧ Below w.heap.size w w' := by
  have HR1 : Hid (∀ w', Below w.heap.size w w' → Rows w' All 6 R (.slice p1 P.length c1) P) := fun w' hb => h1.mono (SameOn.of_below hb) (fun _ h => h) (fun _ _ _ h => h)
  have HR2 : Hid (∀ w', Below w.heap.size w w' → Rows w' All 6 R (.slice p2 Q.length c2) Q) := fun w' hb => h2.mono (SameOn.of_below hb) (fun _ h => h) (fun _ _ _ h => h)
  have HBK : Hid (∀ w', Below w.heap.size w w' → Blk w' sb #[.slice p1 P.length c1, .slice p2 Q.length c2] 76) := fun w' hb => hs.next hb
  have HL : Hid (P.length + Q.length ≤ 1048576) := hl
  have y0 := hs.cell 0 _ rfl
  have y1 := hs.cell 1 _ rfl
  generalize hn1 : P.length = n1 at *
  generalize hn2 : Q.length = n2 at *
  have HN1 : Hid (P.length = n1) := hn1
  have HN2 : Hid (Q.length = n2) := hn2
  clear h1 h2 hs hn1 hn2
  go_enter Tryz.func45, Tryz.ntmps45
  go_wp2_with fail
  go_loopw [3, 11] (fun sv iv wr => wr = w ∧ ((iv = .int .i64 0 ∧ sv = .int .i64 0) ∨ (iv = .int .i64 1 ∧ sv = .int .i64 n1) ∨ (iv = .int .i64 2 ∧ sv = .int .i64 ((n1 : Int) + n2)))) (fun _ iv _ => 2 - (intOf iv).toNat)
  case atStart => exact ⟨by first | rfl | trivial, .inl ⟨rfl, rfl⟩⟩
  case round =>
    obtain ⟨hww, hrel⟩ := hrel
    have hww' := hww.symm
    subst hww'
    clear hww
    rcases hrel with ⟨rfl, rfl⟩ | ⟨rfl, rfl⟩ | ⟨rfl, rfl⟩
    · go_wp2_with fail
      exact ⟨⟨by first | rfl | trivial, .inr (.inl ⟨rfl, by go_num⟩)⟩, by simp [intOf]⟩
    · go_wp2_with fail
      exact ⟨⟨by first | rfl | trivial, .inr (.inr ⟨rfl, by go_num⟩)⟩, by simp [intOf]⟩
    · have CG : Hid (Calls Tryz.prog 82 #[.slice none 0 0, .int .i64 ((n1 : Int) + n2)] w fun e w' => ∃ u, e = .returned u ∧ w'.ownsRow w.heap.size 88 6 u 0 [] ∧ Below w.heap.size w w') := by
        have := growEx_any (n1 + n2) w (by omega)
        rwa [Int.natCast_add] at this
      go_wp2_with fail
      refine CG.out.mono ?_
      rintro e w1 ⟨u0, rfl, ho, hb⟩
      have HO : Hid (OwnG 88 6 R w1 w.heap.size u0 []) := ⟨⟨[], ho, CellsR.nil⟩, hb.size⟩
      have HB : Hid (Below w.heap.size w w1) := hb
      clear ho hb y0 y1
      go_wp2_with fail
      go_loopw [6, 27] (fun ov iv wq => ∃ k : Nat, k ≤ 2 ∧ iv = .int .i64 k ∧ Hid (OwnG 88 6 R wq w.heap.size ov (aheadC P Q k)) ∧ Hid (Below w.heap.size w wq)) (fun _ iv _ => 2 - (intOf iv).toNat)
      case atStart => exact ⟨0, by omega, rfl, HO.out, HB.out⟩
      case round =>
        clear HO HB
        obtain ⟨k, hk, rfl, HO, HB⟩ := hrel
        have bk := HBK.out _ HB.out
        have y0 := bk.cell 0 _ rfl
        have y1 := bk.cell 1 _ rfl
        rcases (by omega : k = 0 ∨ k = 1 ∨ k = 2) with rfl | rfl | rfl
        · have R1 : Hid (Rows wr All 6 R (.slice p1 n1 c1) P) := HR1.out _ HB.out
          go_wp2_with (at_builtin; refine wpList_append_own_rows rfl _ _ 76 rfl _ 96 Tryz.underlying76 info_exC rfl (by decide) HO.out rfl (.slice p1 n1 c1) P rfl R1.out hone (by have := HL.out; rw [HN1.out]; simp only [aheadC, List.length_nil]; omega) (by decide) ?_; intro v7 w7 ho7 hb7 hap7)
          exact ⟨⟨1, by omega, by go_num, by show OwnG _ _ _ _ _ _ _; simpa [aheadC] using ho7, HB.out.trans hb7⟩, by simp [intOf]⟩
        · have R2 : Hid (Rows wr All 6 R (.slice p2 n2 c2) Q) := HR2.out _ HB.out
          go_wp2_with (at_builtin; refine wpList_append_own_rows rfl _ _ 76 rfl _ 96 Tryz.underlying76 info_exC rfl (by decide) HO.out rfl (.slice p2 n2 c2) Q rfl R2.out hone (by have := HL.out; rw [HN2.out]; simp only [aheadC, HN1.out]; omega) (by decide) ?_; intro v7 w7 ho7 hb7 hap7)
          exact ⟨⟨2, by omega, by go_num, by show OwnG _ _ _ _ _ _ _; simpa [aheadC] using ho7, HB.out.trans hb7⟩, by simp [intOf]⟩
        · go_wp2_with fail
          go_ret
          exact ⟨_, rfl, HO.out, HB.out⟩
end Go.Proofs.YtihffcphbcepoaaGreatDoor
/-
  The program's eachExp and eachOf, by contract.
-/
namespace Go.Proofs.YtihffcphbcepoaaGreatDoor
open Go.ChangeShapes Go.WideShapes Go.ChangeAt Go.RowKit Go.Maps Go.WideMaps
set_option linter.unusedVariables false
set_option maxRecDepth 100000

theorem mkMap (w : World) : Sem.run Tryz.prog (Instr.makeMap 83 none) w = .ok (.map (some w.heap.size)) (w.alloc (.map #[] 0)) := by kernel_rfl
theorem lawS : Keyed Tryz.prog 9 := string_keyed Tryz.underlying9
/-- How a value that holds nothing reads. -/
def setR (_ : Value) : Option (DataW Unit × List MemPlace) := some (.agg [], [])
def setD (K : List (List UInt8)) : DataW Unit := K.foldl (fun D x => D.put (.string x) (.agg [])) (.map [])
theorem setD_snoc (K : List (List UInt8)) (x : List UInt8) : setD (K ++ [x]) = (setD K).put (.string x) (.agg []) := by simp [setD, List.foldl_append]
/-- The names that have been put into the map in block mb. -/
def MapAt (w : World) (mb : Nat) (K : List (List UInt8)) : Prop := w.ownsMap Tryz.prog 9 setR mb K.length (setD K)
theorem MapAt.keep {w w' : World} {mb : Nat} {K : List (List UInt8)} (h : MapAt w mb K) (he : w'.heap[mb]? = w.heap[mb]?) : MapAt w' mb K := by
  obtain ⟨es, clock, h1, h2⟩ := h
  exact ⟨es, clock, he.trans h1, h2⟩
theorem MapAt.lt {w : World} {mb : Nat} {K : List (List UInt8)} (h : MapAt w mb K) : mb < w.heap.size := by
  obtain ⟨es, clock, h1, h2⟩ := h
  exact (Array.getElem?_eq_some_iff.1 h1).1

theorem add_any (w : World) (mb : Nat) (K : List (List UInt8)) (s : ByteArray) (h : MapAt w mb K) (hs : okS s) (hK : K.length < maxLen) :
    Calls Tryz.prog 47 #[.map (some mb), .string s] w fun e w' => e = .returned (.tuple #[]) ∧ MapAt w' mb (K ++ [s.data.toList]) ∧ Off [mb] w w' := by
  have H : Hid (MapAt w mb K) := h
  have hk : keyOf Tryz.prog 9 (.string s) = some (.string s.data.toList) := keyOf_string_mk Tryz.underlying9 hs
  clear h
  go_enter Tryz.func47, Tryz.ntmps47
  go_wp2_with (at_mapUpdate; refine wpList_mapUpdate_own _ rfl _ _ _ 83 rfl 9 _ lawS Tryz.underlying83 setR mb K.length (setD K) rfl H.out hK _ _ _ rfl rfl hk (.agg []) [] rfl ?_; intro w1 hm1 hg1)
  go_end0
  refine ⟨rfl, ?_, Off.of_grown hg1 (by simp)⟩
  unfold MapAt
  rw [setD_snoc, List.length_append]
  exact hm1

/-- What the closure that tells names holds: the map, the box of the method that puts a name into it. -/
structure Ev (w : World) (mb tb : Nat) (K : List (List UInt8)) : Prop where
  m : MapAt w mb K
  b : Blk w tb #[.func (.func 47) #[.map (some mb)] #[]] 90
  ne : tb ≠ mb
theorem Ev.next {w w' : World} {mb tb : Nat} {K : List (List UInt8)} (h : Ev w mb tb K) (hb : Below w.heap.size w w') : Ev w' mb tb K :=
  ⟨h.m.keep (hb.block mb h.m.lt), h.b.next hb, h.ne⟩
theorem HEx.offN {w w' : World} {mb d : Nat} {cs : List Value} {x : Ex} (h : HEx w (fun g => g ≠ mb) d cs x) (ho : Off [mb] w w') : HEx w' (fun g => g ≠ mb) d cs x :=
  h.mono ⟨ho.size, fun g hg hl => ho.block g hl (by simpa using hg)⟩ (fun _ h => h)
abbrev FV (tb : Nat) : Value := .func (.func 84) #[] #[.pointer (some ⟨tb, 0, none⟩)]

theorem cbk_any (w : World) (mb tb d : Nat) (cs : List Value) (x : Ex) (K : List (List UInt8)) (h : HEx w (fun g => g ≠ mb) (d + 1) cs x) (hv : Ev w mb tb K) (hK : K.length < 4194304) (A : List (List UInt8)) (hA : (if x.kind = 2 then [keyS x.text] else []) = A) :
    Calls Tryz.prog 84 #[.agg cs.toArray, .pointer (some ⟨tb, 0, none⟩)] w fun e w' => e = .returned (.tuple #[]) ∧ Ev w' mb tb (K ++ A) ∧ Off [mb] w w' := by
  obtain ⟨kv, cv, rfl, -, -, hts, -, f0, f1⟩ := h
  obtain ⟨p, cap, rfl, -⟩ := f0
  obtain ⟨pc, capc, rfl, -⟩ := f1
  have BA : Below w.heap.size w (w.alloc (.cells #[.int .i64 x.kind, .int .i64 x.n, .string x.text, .string x.mod, .slice p x.kids.length cap, .slice pc x.clauses.length capc] 88)) := (Below.refl _ _).alloc (Nat.le_refl _) _
  have HV : Hid (Ev (w.alloc (.cells #[.int .i64 x.kind, .int .i64 x.n, .string x.text, .string x.mod, .slice p x.kids.length cap, .slice pc x.clauses.length capc] 88)) mb tb K) := hv.next BA
  have HBA : Hid (Below w.heap.size w (w.alloc (.cells #[.int .i64 x.kind, .int .i64 x.n, .string x.text, .string x.mod, .slice p x.kids.length cap, .slice pc x.clauses.length capc] 88))) := BA
  have ct := HV.out.b.cell 0 _ rfl
  by_cases hk : x.kind = 2
  · rw [if_pos hk] at hA
    subst hA
    clear hv BA
    rw [hk] at HV HBA ct ⊢
    go_enter Tryz.func84, Tryz.ntmps84
    go_wp2_with fail
    refine (add_any _ mb K x.text HV.out.m hts (by unfold maxLen; omega)).mono ?_
    rintro e w1 ⟨rfl, hm1, ho1⟩
    have h1 : Ev w1 mb tb (K ++ [keyS x.text]) := ⟨by unfold keyS; rw [ByteArray.toList_eq]; exact hm1, (ho1.block tb HV.out.b.lt (by simpa using HV.out.ne)).trans HV.out.b, HV.out.ne⟩
    go_wp2_with fail
    go_end0
    exact ⟨rfl, h1, (Off.of_below HBA.out).trans ho1⟩
  · rw [if_neg hk] at hA
    subst hA
    rw [List.append_nil]
    have hkb : (x.kind == 2) = false := by simpa using hk
    clear hv BA
    go_enter Tryz.func84, Tryz.ntmps84
    go_wp2_with fail
    go_end0
    exact ⟨rfl, HV.out, Off.of_below HBA.out⟩

theorem HEx.shapeN {w : World} {S : Nat → Prop} {d : Nat} {cs : List Value} {x : Ex} (h : HEx w S d cs x) : ∃ sk sn st se p1 n1 q1 p2 n2 q2, cs = [.int .i64 sk, .int .i64 sn, .string st, .string se, .slice p1 n1 q1, .slice p2 n2 q2] := by
  cases d with
  | zero => exact h.elim
  | succ d =>
    obtain ⟨kv, cv, rfl, _, _, _, _, ⟨p1, c1, rfl, _⟩, ⟨p2, c2, rfl, _⟩⟩ := h
    exact ⟨_, _, _, _, _, _, _, _, _, _, rfl⟩
def EeC (d : Nat) : Prop := ∀ (w : World) (mb tb : Nat) (cs : List Value) (x : Ex) (K : List (List UInt8)), HEx w (fun g => g ≠ mb) d cs x → Ev w mb tb K → K.length + (varL d x).length ≤ 2097152 →
    Calls Tryz.prog 83 #[.agg cs.toArray, FV tb] w fun e w' => e = .returned (.tuple #[]) ∧ Ev w' mb tb (K ++ varL d x) ∧ Off [mb] w w'
def EoC (d : Nat) : Prop := ∀ (w : World) (mb tb : Nat) (v : Value) (es : List Ex) (K : List (List UInt8)), Rows w (fun g => g ≠ mb) 6 (HEx w (fun g => g ≠ mb) d) v es → Ev w mb tb K → K.length + (es.flatMap (varL d)).length ≤ 2097152 →
    Calls Tryz.prog 98 #[v, FV tb] w fun e w' => e = .returned (.tuple #[]) ∧ Ev w' mb tb (K ++ es.flatMap (varL d)) ∧ Off [mb] w w'

set_option maxHeartbeats 8000000 in
theorem eachOf_of {d : Nat} (hE : EeC d) : EoC d := by
  intro w mb tb v es K hr hv hK
  obtain ⟨p, cap, rfl, hcl, hcm, hx⟩ := hr
  have hnb : es.length ≤ 9223372036854775807 := by unfold maxLen at hcm; omega
  have HX : Hid (es ≠ [] → ∃ g off, p = some ⟨g, off, none⟩ ∧ g ≠ mb ∧ g < w.heap.size ∧ ∀ i x, es[i]? = some x → ∃ cs, cs.length = 6 ∧ (∀ j, j < 6 → w.cell? ⟨g, off + i * 6 + j, none⟩ = cs[j]?) ∧ HEx w (fun g => g ≠ mb) d cs x) := hx
  have HV : Hid (Ev w mb tb K) := hv
  have HK : Hid (K.length + (es.flatMap (varL d)).length ≤ 2097152) := hK
  generalize hn : es.length = n at *
  have HN : Hid (es.length = n) := hn
  clear hx hv hK hn
  go_enter Tryz.func98, Tryz.ntmps98
  go_wp2_with fail
  go_loopw [8] (fun iv wr => ∃ k : Nat, k ≤ n ∧ iv = .int .i64 k ∧ Hid (Ev wr mb tb (K ++ (es.take k).flatMap (varL d))) ∧ Hid (Off [mb] w wr)) (fun iv _ => n - (intOf iv).toNat)
  case atStart => exact ⟨0, Nat.zero_le _, rfl, by show Ev _ _ _ _; simpa using HV.out, Off.refl _ _⟩
  case round =>
    obtain ⟨k, hk, rfl, HVk, HOk⟩ := hrel
    by_cases hlt : k < n
    · obtain ⟨x, hxk⟩ : ∃ x, es[k]? = some x := ⟨es[k]'(by rw [HN.out]; exact hlt), List.getElem?_eq_getElem _⟩
      obtain ⟨g, off, rfl, hgm, hgl, hat⟩ := HX.out (by intro h; rw [h] at hxk; simp at hxk)
      obtain ⟨cs, hcsl, hcs, r1⟩ := hat k x hxk
      have E1 : Hid (HEx wr (fun g => g ≠ mb) d cs x) := r1.offN HOk.out
      obtain ⟨c0, c1, c2, c3, c4, c5, rfl⟩ := len6 hcsl
      have hge : wr.heap[g]? = w.heap[g]? := HOk.out.block g hgl (by simpa using hgm)
      have a0 := (World.cell?_of_block (a := ⟨g, off + k * 6 + 0, none⟩) hge).trans (hcs 0 (by omega))
      have a1 := (World.cell?_of_block (a := ⟨g, off + k * 6 + 1, none⟩) hge).trans (hcs 1 (by omega))
      have a2 := (World.cell?_of_block (a := ⟨g, off + k * 6 + 2, none⟩) hge).trans (hcs 2 (by omega))
      have a3 := (World.cell?_of_block (a := ⟨g, off + k * 6 + 3, none⟩) hge).trans (hcs 3 (by omega))
      have a4 := (World.cell?_of_block (a := ⟨g, off + k * 6 + 4, none⟩) hge).trans (hcs 4 (by omega))
      have a5 := (World.cell?_of_block (a := ⟨g, off + k * 6 + 5, none⟩) hge).trans (hcs 5 (by omega))
      simp at a0 a1 a2 a3 a4 a5
      have HJ : Hid (K ++ (es.take (k + 1)).flatMap (varL d) = K ++ (es.take k).flatMap (varL d) ++ varL d x) := by
        show _ = _
        rw [List.take_add_one, hxk]; simp
      have HKk : Hid ((K ++ (es.take k).flatMap (varL d)).length + (varL d x).length ≤ 2097152) := by
        have h1 := HK.out
        have h2 : (es.flatMap (varL d)) = (es.take k).flatMap (varL d) ++ (varL d x ++ (es.drop (k + 1)).flatMap (varL d)) := by
          have h3 : es = es.take k ++ x :: es.drop (k + 1) := by
            have h4 := List.take_append_drop k es
            rw [List.drop_eq_getElem_cons (by rw [HN.out]; exact hlt)] at h4
            have h5 : es[k]'(by rw [HN.out]; exact hlt) = x := (List.getElem?_eq_some_iff.1 hxk).2
            rw [h5] at h4
            exact h4.symm
          conv => lhs; rw [h3]
          simp
        rw [h2] at h1
        show _ ≤ _
        simp only [List.length_append] at h1 ⊢
        omega
      generalize K ++ (es.take k).flatMap (varL d) = Kk at *
      have hki : (k : Int) < (n : Int) := by omega
      have hk0 : (0 : Int) ≤ (k : Int) := by omega
      clear hat hcs hcsl r1 hge
      obtain ⟨sk, sn, st, se, p1, n1, q1, p2, n2, q2, hsh⟩ := HEx.shapeN E1.out
      simp only [List.cons.injEq, and_true] at hsh
      obtain ⟨rfl, rfl, rfl, rfl, rfl, rfl⟩ := hsh
      have HBA : Hid (Below wr.heap.size wr (wr.alloc (.cells #[.int .i64 sk, .int .i64 sn, .string st, .string se, .slice p1 n1 q1, .slice p2 n2 q2] 88))) := (Below.refl _ _).alloc (Nat.le_refl _) _
      go_wp2_with fail
      refine (hE _ mb tb _ x Kk (E1.out.offN (Off.of_below HBA.out)) (HVk.out.next HBA.out) HKk.out).mono ?_
      rintro e w1 ⟨rfl, hv1, ho1⟩
      go_wp2_with fail
      exact ⟨⟨k + 1, by omega, by go_num, by show Ev _ _ _ _; rw [HJ.out]; exact hv1, (HOk.out.trans (Off.of_below HBA.out)).trans ho1⟩, by simp [intOf]; omega⟩
    · have HS : Hid (Ev wr mb tb (K ++ es.flatMap (varL d))) := by
        have := HVk.out
        rwa [List.take_of_length_le (by rw [HN.out]; omega)] at this
      go_wp2_with fail
      go_end0
      exact ⟨rfl, HS.out, HOk.out⟩

set_option maxHeartbeats 8000000 in
theorem eachExp_of {d : Nat} (hO : EoC d) : EeC (d + 1) := by
  intro w mb tb cs x K h hv hK
  have HEX : Hid (HEx w (fun g => g ≠ mb) (d + 1) cs x) := h
  obtain ⟨kv, cv, rfl, -, -, hts, -, f0, f1⟩ := h
  obtain ⟨kx, nx, tx, mx, ks, cl⟩ := x
  simp only [Ex.kind, Ex.n, Ex.text, Ex.mod, Ex.kids, Ex.clauses] at *
  have hvl : varL (d + 1) (.mk kx nx tx mx ks cl) = (if kx = 2 then [keyS tx] else []) ++ (ks.flatMap (varL d) ++ cl.flatMap fun c => c.1.flatMap (varL d) ++ c.2.flatMap (varL d)) := rfl
  rw [hvl] at hK ⊢
  generalize hA : (if kx = 2 then [keyS tx] else ([] : List (List UInt8))) = A at hK ⊢
  have HA : Hid ((if kx = 2 then [keyS tx] else ([] : List (List UInt8))) = A) := hA
  simp only [List.length_append] at hK
  have F0 : Hid (Rows w (fun g => g ≠ mb) 6 (HEx w (fun g => g ≠ mb) d) kv ks) := f0
  obtain ⟨p, cap, rfl, -⟩ := id f0
  obtain ⟨pc, capc, rfl, hcl', hcm', hxc⟩ := f1
  have hnc : cl.length ≤ 9223372036854775807 := by unfold maxLen at hcm'; omega
  have HXC : Hid (cl ≠ [] → ∃ g off, pc = some ⟨g, off, none⟩ ∧ g ≠ mb ∧ g < w.heap.size ∧ ∀ i x, cl[i]? = some x → ∃ cs, cs.length = 2 ∧ (∀ j, j < 2 → w.cell? ⟨g, off + i * 2 + j, none⟩ = cs[j]?) ∧ HCl w (fun g => g ≠ mb) (HEx w (fun g => g ≠ mb) d) cs x) := hxc
  have HKK : Hid (K.length + (A.length + ((ks.flatMap (varL d)).length + (cl.flatMap fun c => c.1.flatMap (varL d) ++ c.2.flatMap (varL d)).length)) ≤ 2097152) := hK
  generalize hm : cl.length = nc at *
  have HNC : Hid (cl.length = nc) := hm
  have HBA : Hid (Below w.heap.size w (w.alloc (.cells #[.int .i64 kx, .int .i64 nx, .string tx, .string mx, .slice p ks.length cap, .slice pc nc capc] 88))) := (Below.refl _ _).alloc (Nat.le_refl _) _
  have HV : Hid (Ev (w.alloc (.cells #[.int .i64 kx, .int .i64 nx, .string tx, .string mx, .slice p ks.length cap, .slice pc nc capc] 88)) mb tb K) := hv.next HBA.out
  have bA : Hid (Blk (w.alloc (.cells #[.int .i64 kx, .int .i64 nx, .string tx, .string mx, .slice p ks.length cap, .slice pc nc capc] 88)) w.heap.size #[.int .i64 kx, .int .i64 nx, .string tx, .string mx, .slice p ks.length cap, .slice pc nc capc] 88) := Blk.new
  have hmb : mb ≠ w.heap.size := by have := hv.m.lt; omega
  clear f0 hxc hA hm hvl hv hK
  go_enter Tryz.func83, Tryz.ntmps83
  go_wp2_with fail
  refine (cbk_any _ mb tb d _ _ K (HEX.out.offN (Off.of_below HBA.out)) HV.out (by have := HKK.out; omega) A HA.out).mono ?_
  rintro e w1 ⟨rfl, hv1, ho1⟩
  have HV1 : Hid (Ev w1 mb tb (K ++ A)) := hv1
  have HO1 : Hid (Off [mb] w w1) := (Off.of_below HBA.out).trans ho1
  have b1 : Hid (Blk w1 w.heap.size #[.int .i64 kx, .int .i64 nx, .string tx, .string mx, .slice p ks.length cap, .slice pc nc capc] 88) := (ho1.block w.heap.size bA.out.lt (by simpa using fun e => hmb e.symm)).trans bA.out
  have x4 := b1.out.cell 4 _ rfl
  clear hv1 ho1 HV bA
  go_wp2_with fail
  refine (hO _ mb tb _ ks (K ++ A) (Rows.mono F0.out ⟨HO1.out.size, fun g hg hl => HO1.out.block g hl (by simpa using hg)⟩ (fun _ h => h) (fun _ _ _ h => HEx.offN h HO1.out)) HV1.out (by have := HKK.out; simp only [List.length_append]; omega)).mono ?_
  rintro e w2 ⟨rfl, hv2, ho2⟩
  have HV2 : Hid (Ev w2 mb tb (K ++ A ++ ks.flatMap (varL d))) := hv2
  have HO2 : Hid (Off [mb] w w2) := HO1.out.trans ho2
  have b2 : Hid (Blk w2 w.heap.size #[.int .i64 kx, .int .i64 nx, .string tx, .string mx, .slice p ks.length cap, .slice pc nc capc] 88) := (ho2.block w.heap.size b1.out.lt (by simpa using fun e => hmb e.symm)).trans b1.out
  have x5 := b2.out.cell 5 _ rfl
  clear hv2 ho2 x4 b1 HV1 HO1
  go_wp2_with fail
  go_loopw [16] (fun iv wr => ∃ k : Nat, k ≤ nc ∧ iv = .int .i64 k ∧ Hid (Ev wr mb tb (K ++ A ++ ks.flatMap (varL d) ++ (cl.take k).flatMap fun c => c.1.flatMap (varL d) ++ c.2.flatMap (varL d))) ∧ Hid (Off [mb] w wr)) (fun iv _ => nc - (intOf iv).toNat)
  case atStart => exact ⟨0, Nat.zero_le _, rfl, by show Ev _ _ _ _; simpa using HV2.out, HO2.out⟩
  case round =>
    obtain ⟨k, hk, rfl, HVk, HOk⟩ := hrel
    clear x5 HV2 HO2 b2
    by_cases hlt : k < nc
    · obtain ⟨c, hck⟩ : ∃ c, cl[k]? = some c := ⟨cl[k]'(by rw [HNC.out]; exact hlt), List.getElem?_eq_getElem _⟩
      obtain ⟨g, off, rfl, hgm, hgl, hat⟩ := HXC.out (by intro h; rw [h] at hck; simp at hck)
      obtain ⟨cs, hcsl, hcs, pv, bv, rfl, rp, rb⟩ := hat k c hck
      have SK : Hid (SameOn (fun g => g ≠ mb) w wr) := ⟨HOk.out.size, fun g hg hl => HOk.out.block g hl (by simpa using hg)⟩
      have RP : Hid (Rows wr (fun g => g ≠ mb) 6 (HEx wr (fun g => g ≠ mb) d) pv c.1) := Rows.mono rp SK.out (fun _ h => h) (fun _ _ _ h => HEx.offN h HOk.out)
      have RB : Hid (Rows wr (fun g => g ≠ mb) 6 (HEx wr (fun g => g ≠ mb) d) bv c.2) := Rows.mono rb SK.out (fun _ h => h) (fun _ _ _ h => HEx.offN h HOk.out)
      obtain ⟨pp, capp, rfl, -⟩ := rp
      obtain ⟨pb, capb, rfl, -⟩ := rb
      have hge : wr.heap[g]? = w.heap[g]? := HOk.out.block g hgl (by simpa using hgm)
      have a0 := (World.cell?_of_block (a := ⟨g, off + k * 2 + 0, none⟩) hge).trans (hcs 0 (by omega))
      have a1 := (World.cell?_of_block (a := ⟨g, off + k * 2 + 1, none⟩) hge).trans (hcs 1 (by omega))
      simp at a0 a1
      have HJ : Hid ((K ++ A ++ ks.flatMap (varL d) ++ (cl.take (k + 1)).flatMap fun c => c.1.flatMap (varL d) ++ c.2.flatMap (varL d)) = (K ++ A ++ ks.flatMap (varL d) ++ (cl.take k).flatMap fun c => c.1.flatMap (varL d) ++ c.2.flatMap (varL d)) ++ c.1.flatMap (varL d) ++ c.2.flatMap (varL d)) := by
        show _ = _
        rw [List.take_add_one, hck]; simp
      have HKk : Hid ((K ++ A ++ ks.flatMap (varL d) ++ (cl.take k).flatMap fun c => c.1.flatMap (varL d) ++ c.2.flatMap (varL d)).length + (c.1.flatMap (varL d)).length + (c.2.flatMap (varL d)).length ≤ 2097152) := by
        have h1 := HKK.out
        have h2 : (cl.flatMap fun c => c.1.flatMap (varL d) ++ c.2.flatMap (varL d)) = ((cl.take k).flatMap fun c => c.1.flatMap (varL d) ++ c.2.flatMap (varL d)) ++ ((c.1.flatMap (varL d) ++ c.2.flatMap (varL d)) ++ (cl.drop (k + 1)).flatMap fun c => c.1.flatMap (varL d) ++ c.2.flatMap (varL d)) := by
          have h3 : cl = cl.take k ++ c :: cl.drop (k + 1) := by
            have h4 := List.take_append_drop k cl
            rw [List.drop_eq_getElem_cons (by rw [HNC.out]; exact hlt)] at h4
            have h5 : cl[k]'(by rw [HNC.out]; exact hlt) = c := (List.getElem?_eq_some_iff.1 hck).2
            rw [h5] at h4
            exact h4.symm
          conv => lhs; rw [h3]
          simp
        rw [h2] at h1
        show _ ≤ _
        simp only [List.length_append] at h1 ⊢
        omega
      generalize (K ++ A ++ ks.flatMap (varL d) ++ (cl.take k).flatMap fun c => c.1.flatMap (varL d) ++ c.2.flatMap (varL d)) = Kk at *
      have hki : (k : Int) < (nc : Int) := by omega
      have hk0 : (0 : Int) ≤ (k : Int) := by omega
      have hmw : mb ≠ wr.heap.size := by have := HVk.out.m.lt; omega
      have HBC : Hid (Below wr.heap.size wr (wr.alloc (.cells #[.slice pp c.1.length capp, .slice pb c.2.length capb] 78))) := (Below.refl _ _).alloc (Nat.le_refl _) _
      have bC : Hid (Blk (wr.alloc (.cells #[.slice pp c.1.length capp, .slice pb c.2.length capb] 78)) wr.heap.size #[.slice pp c.1.length capp, .slice pb c.2.length capb] 78) := Blk.new
      clear hat hcs hcsl hge
      go_wp2_with fail
      refine (hO _ mb tb _ c.1 Kk (Rows.mono RP.out ⟨HBC.out.size, fun g _ hl => HBC.out.block g hl⟩ (fun _ h => h) (fun _ _ _ h => HEx.offN h (Off.of_below HBC.out))) (HVk.out.next HBC.out) (by have := HKk.out; omega)).mono ?_
      rintro e w3 ⟨rfl, hv3, ho3⟩
      have HV3 : Hid (Ev w3 mb tb (Kk ++ c.1.flatMap (varL d))) := hv3
      have HO3 : Hid (Off [mb] wr w3) := (Off.of_below HBC.out).trans ho3
      have b3 : Blk w3 wr.heap.size #[.slice pp c.1.length capp, .slice pb c.2.length capb] 78 := (ho3.block wr.heap.size bC.out.lt (by simpa using fun e => hmw e.symm)).trans bC.out
      have y1 := b3.cell 1 _ rfl
      clear hv3 ho3 bC b3 a0 a1
      go_wp2_with fail
      refine (hO _ mb tb _ c.2 (Kk ++ c.1.flatMap (varL d)) (Rows.mono RB.out ⟨HO3.out.size, fun g hg hl => HO3.out.block g hl (by simpa using hg)⟩ (fun _ h => h) (fun _ _ _ h => HEx.offN h HO3.out)) HV3.out (by have := HKk.out; simp only [List.length_append]; omega)).mono ?_
      rintro e w4 ⟨rfl, hv4, ho4⟩
      go_wp2_with fail
      exact ⟨⟨k + 1, by omega, by go_num, by show Ev _ _ _ _; rw [HJ.out]; exact hv4, (HOk.out.trans HO3.out).trans ho4⟩, by simp [intOf]; omega⟩
    · have HS : Hid (Ev wr mb tb (K ++ (A ++ (ks.flatMap (varL d) ++ cl.flatMap fun c => c.1.flatMap (varL d) ++ c.2.flatMap (varL d))))) := by
        have := HVk.out
        rw [List.take_of_length_le (by rw [HNC.out]; omega)] at this
        show Ev _ _ _ _
        simpa only [List.append_assoc] using this
      go_wp2_with fail
      go_end0
      exact ⟨rfl, HS.out, HOk.out⟩

theorem eachExp_all : ∀ d, EeC d
  | 0 => fun w mb tb cs x K h _ _ => h.elim
  | d + 1 => eachExp_of (eachOf_of (eachExp_all d))

/-- eachVar with the method that puts a name into a map. -/
theorem eachVar_any (w : World) (mb d : Nat) (cs : List Value) (x : Ex) (K : List (List UInt8)) (h : HEx w (fun g => g ≠ mb) d cs x) (hm : MapAt w mb K) (hK : K.length + (varL d x).length ≤ 2097152) :
    Calls Tryz.prog 46 #[.agg cs.toArray, .func (.func 47) #[.map (some mb)] #[]] w fun e w' => e = .returned (.tuple #[]) ∧ MapAt w' mb (K ++ varL d x) ∧ Off [mb] w w' := by
  obtain ⟨sk, sn, st, se, p1, n1, q1, p2, n2, q2, rfl⟩ := HEx.shapeN h
  have HH : Hid (HEx w (fun g => g ≠ mb) d [.int .i64 sk, .int .i64 sn, .string st, .string se, .slice p1 n1 q1, .slice p2 n2 q2] x) := h
  have HM : Hid (MapAt w mb K) := hm
  have hlt := hm.lt
  clear h hm
  go_enter Tryz.func46, Tryz.ntmps46
  go_wp2_with fail
  have hB : Below w.heap.size w ((w.alloc (.cells #[.int .i64 sk, .int .i64 sn, .string st, .string se, .slice p1 n1 q1, .slice p2 n2 q2] 88)).alloc (.cells #[.func (.func 47) #[.map (some mb)] #[]] 90)) := ((Below.refl _ _).alloc (Nat.le_refl _) _).alloc (by simp) _
  have hE : Ev ((w.alloc (.cells #[.int .i64 sk, .int .i64 sn, .string st, .string se, .slice p1 n1 q1, .slice p2 n2 q2] 88)).alloc (.cells #[.func (.func 47) #[.map (some mb)] #[]] 90)) mb (w.heap.size + 1) K := ⟨HM.out.keep (hB.block mb hlt), by
    have := Blk.new (w := w.alloc (.cells #[.int .i64 sk, .int .i64 sn, .string st, .string se, .slice p1 n1 q1, .slice p2 n2 q2] 88)) (cs := #[.func (.func 47) #[.map (some mb)] #[]]) (t := 90)
    rwa [alloc_hs] at this, by omega⟩
  refine (eachExp_all d _ mb (w.heap.size + 1) _ x K (HH.out.offN (Off.of_below hB)) hE hK).mono ?_
  rintro e w1 ⟨rfl, hv1, ho1⟩
  go_wp2_with fail
  go_end0
  exact ⟨rfl, hv1.m, (Off.of_below hB).trans ho1⟩
end Go.Proofs.YtihffcphbcepoaaGreatDoor
/-
  A range over a method value: the iterator's receiver is bound; the body never leaves the loop; what the iterator lays for itself lies on while the rounds go.
-/
namespace Go.Proofs.YtihffcphbcepoaaGreatDoor
open Go.ChangeShapes Go.WideShapes Go.ChangeAt Go.RowKit Go.Maps Go.WideMaps Go.Shelf
set_option linter.unusedVariables false
set_option maxRecDepth 100000

theorem grown_of {A B : World} (h : Below A.heap.size A B) : A.grownBy B none := ⟨h.os, h.tape, h.output, h.size, fun k hk _ => h.block k hk⟩

theorem range_bound {α : Type} {F : Fence} {n : Nat} {P : Program} {g : Operand} {ps : Array Tmp} {assign body : Code} {Q : Exit → Act → World → Prop} {a : Act} {w : World}
    (hro : F.round = none) (h1 : 1 ≤ n) {gf : Nat} {bs : Array Value} (hg : a.eval g = .func (.func gf) bs #[]) (hFg : F.fn gf) (eg : ∀ args w, (callFunc gf args).run P w = .ok (.enter gf args) w)
    {encs : α → Array Value} (hps : ∀ x, (encs x).size = ps.size) (xs : List α)
    (hseq : ∀ (l : Nat) (J : Option Nat → List α → World → Prop) (W : World), Below w.heap.size w W →
      (∀ q s A B, J q s A → Below A.heap.size A B → J q s B) →
      (∀ s A B b, J none s A → Below A.heap.size A B → A.heap.size ≤ b → b < B.heap.size → J (some b) s B) →
      (∀ q pre x W1, J q pre W1 → pre.length < xs.length → YieldAt F (n - 1 - 1) P l (encs x) W1 fun e W' => e = .returned (.bool true) ∧ J q (pre ++ [x]) W' ∧ ∀ b, q = some b → b < W1.heap.size → W'.heap[b]? = W1.heap[b]?) →
      J none [] W → CallsIn F (n - 1) P gf (bs ++ #[.func (.yield l) #[] #[]]) W fun e W' => (∃ v, e = .returned v) ∧ ∃ q, J q xs W')
    (I : Option Nat → List α → World → Prop) (hI : ∀ q, OwnFrom w.heap.size (I q)) (hIn : ∀ s A B b, I none s A → Below A.heap.size A B → A.heap.size ≤ b → b < B.heap.size → I (some b) s B) (h0 : I none [] w) (a₁ : α → Act)
    (hassign : ∀ (l : Nat) (x : α) (W : World) (K : Act → World → Prop), K (a₁ x) W →
      assign.wpIn (F.inRound l) (n - 1 - 1) P (Exit.then K (fun _ _ _ => False)) { tmps := (ps.zip (encs x)).foldl (fun t (p, v) => t.setIfInBounds p v) a.tmps, defers := [] } W)
    (hbody : ∀ (l : Nat) (q : Option Nat) (pre : List α) (x : α) (W : World), I q pre W → pre.length < xs.length →
      body.wpIn (F.inRound l) (n - 1 - 1) P (fun e _ W' => e = .normal ∧ KeepsOthers W W' ∧ I q (pre ++ [x]) W' ∧ ∀ b, q = some b → b < W.heap.size → W'.heap[b]? = W.heap[b]?) (a₁ x) W)
    (hdone : ∀ (D : Nat) (q : Option Nat) (W : World), w.heap.size ≤ D → I q xs W → W.heap[D]? = some (.deferred (some [])) → Q .normal { a with defers := { target := .collected D, args := #[] } :: a.defers } W) :
    (Code.rangeFunc g ps assign body).wpIn F n P Q a w := by
  refine wpIn_rangeFunc fun fn hfn => ?_
  rw [hro]
  obtain ⟨R, hR⟩ : ∃ R : LoopState → Loop, R = fun st => { state := st, pending := none, fn := fn, tmps := a.tmps, params := ps, assign := assign, body := body, defers := w.heap.size } := ⟨_, rfl⟩
  obtain ⟨L, hL⟩ : ∃ L, L = w.heap.size + 1 := ⟨_, rfl⟩
  obtain ⟨W1, hW1⟩ : ∃ W1, W1 = (w.alloc (.deferred (some []))).alloc (.loop (R .ready)) := ⟨_, rfl⟩
  have b1 : Below w.heap.size w W1 := by rw [hW1]; exact ((Below.refl _ w).alloc (Nat.le_refl _) _).alloc (by simp) _
  have l1 : W1.heap[L]? = some (.loop (R .ready)) := by
    have := World.alloc_heap_new (w.alloc (.deferred (some []))) (.loop (R .ready))
    rw [World.size_alloc] at this
    rw [hW1, hL]; exact this
  have k1 : W1.heap[w.heap.size]? = some (.deferred (some [])) := by rw [hW1]; exact (Below.heap_alloc _ _ _ (by simp)).trans (World.alloc_heap_new w _)
  have i1 : I none [] W1 := by rw [hW1]; exact (hI none).alloc _ ((hI none).alloc _ h0)
  have hLw : w.heap.size ≤ L := by omega
  have hLn : w.heap.size ≠ L := by omega
  refine ⟨L, [{ target := .collected w.heap.size, args := #[] }], W1, { target := .fn (.func gf) #[], args := bs ++ #[.func (.yield L) #[] #[]] }, W1, gf, bs ++ #[.func (.yield L) #[] #[]], W1, ?_, ?_, ?_, ?_, fun _ => h1, ?_⟩
  · rw [hW1, hR, hL]; exact run_enterLoop_outer _ _ _ _ _
  · simp only [resolve, hg]
    simp [go_sem]
  · intro f' hf'; simp [Target.leads] at hf'; subst hf'; exact hFg
  · simp [invoke, go_sem, eg]
  · refine (hseq L (fun q s W => I q s W ∧ W.heap[L]? = some (.loop (R .ready)) ∧ W.heap[w.heap.size]? = some (.deferred (some [])) ∧ ∀ b, q = some b → L < b) W1 b1 ?_ ?_ ?_ ⟨i1, l1, k1, fun b e => by cases e⟩).mono ?_
    · rintro q s A B ⟨ha, hb, hc, hd⟩ hAB
      exact ⟨hI q s A B none ha (grown_of hAB) (fun r e => by cases e), (hAB.block _ (Array.getElem?_eq_some_iff.1 hb).1).trans hb, (hAB.block _ (Array.getElem?_eq_some_iff.1 hc).1).trans hc, hd⟩
    · rintro s A B b ⟨ha, hb, hc, hd⟩ hAB hbs hbB
      exact ⟨hIn s A B b ha hAB hbs hbB, (hAB.block _ (Array.getElem?_eq_some_iff.1 hb).1).trans hb, (hAB.block _ (Array.getElem?_eq_some_iff.1 hc).1).trans hc, fun b' e => by cases e; have := (Array.getElem?_eq_some_iff.1 hb).1; omega⟩
    · rintro q pre x W ⟨hi, hl, hk, hq⟩ hlen
      have hlt : L < W.heap.size := (Array.getElem?_eq_some_iff.1 hl).1
      have hy := run_yield (P := P) (args := encs x) hl (by rw [hR]; exact hps x)
      rw [hR] at hy
      refine ⟨fn, _, assign, body, hy, roundIn_of_wpIn hfn (hassign _ x W _ ⟨_, run_beginRound hl (by rw [hR]), ?_⟩)⟩
      refine wpIn_mono (hbody _ q pre x _ ((hI q).putObj _ hi hLw hl rfl) hlen) ?_
      rintro e a3 W3 ⟨rfl, hk3, hi3, hq3⟩
      have hl2 := hk3.same L _ (World.putObj_heap_same hlt) rfl
      have hk2 := hk3.same w.heap.size _ ((World.putObj_heap_other hLn).trans hk) rfl
      have hr := run_endRound (P := P) none hl2
      refine ⟨_, _, hr, rfl, ⟨(hI q).putObj _ hi3 hLw hl2 rfl, ?_, (World.putObj_heap_other hLn).trans hk2, hq⟩, ?_⟩
      · rw [World.putObj_heap_same (Array.getElem?_eq_some_iff.1 hl2).1, hR]; rfl
      · intro b hb hbl
        have hbL : b ≠ L := by have := hq b hb; omega
        rw [World.putObj_heap_other hbL, hq3 b hb (by simpa using hbl), World.putObj_heap_other hbL]
    · rintro e W2 ⟨⟨v, rfl⟩, q, hi, hl, hk, -⟩
      have he := run_endLoop (P := P) hl (by rw [hR]; simp)
      refine ⟨none, _, by rw [hR] at he; exact he, hdone _ q _ (Nat.le_refl _) ((hI q).putObj _ hi hLw hl rfl) ((World.putObj_heap_other hLn).trans hk)⟩
end Go.Proofs.YtihffcphbcepoaaGreatDoor
/-
  The contracts on the sorted keys of a map, laid at this program.
-/
namespace Go.Proofs
open Go.Shelf
def Tryz.keys123_ren : Go.Shelf.Ren := ⟨fun | 7 => 123 | 10 => 164 | n => n, fun | 23 => 83 | 26 => 9 | 3 => 129 | 28 => 180 | 0 => 0 | 27 => 123 | 33 => 175 | 4 => 4 | n => n, fun | n => n⟩
theorem Tryz.keys123 : Go.Proofs.SlLaysZ.n7 Tryz.prog Tryz.keys123_ren := {
  mixed := by kernel_rfl
  f7 := ⟨Tryz.f123.name, by decide, Tryz.func123.trans (congrArg some (by kernel_rfl))⟩
  f10 := ⟨Tryz.f164.name, by decide, Tryz.func164.trans (congrArg some (by kernel_rfl))⟩
  t0 := Tryz.underlying0
  a0 := Tryz.isAgg0
  z0 := Tryz.sizeOf0
  v0 := Tryz.zeroValue0
  t4 := Tryz.underlying4
  a4 := Tryz.isAgg4
  z4 := Tryz.sizeOf4
  v4 := Tryz.zeroValue4
  t23 := Tryz.underlying83
  a23 := Tryz.isAgg83
  z23 := Tryz.sizeOf83
  v23 := Tryz.zeroValue83
  t26 := Tryz.underlying9
  a26 := Tryz.isAgg9
  z26 := Tryz.sizeOf9
  v26 := Tryz.zeroValue9
  t27 := Tryz.underlying123
  a27 := Tryz.isAgg123
  z27 := Tryz.sizeOf123
  v27 := Tryz.zeroValue123
  t28 := Tryz.underlying180
  a28 := Tryz.isAgg180
  z28 := Tryz.sizeOf180
  v28 := Tryz.zeroValue180
  t33 := Tryz.underlying175
  a33 := Tryz.isAgg175
  z33 := Tryz.sizeOf175
  v33 := Tryz.zeroValue175 }
def Tryz.sorted122_ren : Go.Shelf.Ren := ⟨fun | 6 => 122 | 8 => 163 | 9 => 109 | 11 => 197 | 13 => 103 | 12 => 148 | 23 => 144 | 24 => 145 | 14 => 182 | 15 => 183 | 16 => 184 | 17 => 185 | 18 => 186 | 19 => 187 | 20 => 150 | 21 => 188 | 22 => 189 | 25 => 209 | 26 => 176 | 27 => 177 | 28 => 210 | 29 => 211 | 30 => 190 | 31 => 225 | n => n, fun | 26 => 9 | 28 => 180 | 24 => 33 | 0 => 0 | 3 => 3 | 37 => 155 | 48 => 198 | 50 => 200 | 4 => 4 | 40 => 192 | 39 => 191 | 45 => 170 | 5 => 5 | 9 => 9 | 51 => 227 | 55 => 231 | 57 => 252 | 58 => 253 | 33 => 175 | n => n, fun | n => n⟩
theorem Tryz.sorted122 : Go.Proofs.SlLaysZ.n6 Tryz.prog Tryz.sorted122_ren := {
  mixed := by kernel_rfl
  f6 := ⟨Tryz.f122.name, by decide, Tryz.func122.trans (congrArg some (by kernel_rfl))⟩
  f8 := ⟨Tryz.f163.name, by decide, Tryz.func163.trans (congrArg some (by kernel_rfl))⟩
  f11 := ⟨Tryz.f197.name, by decide, Tryz.func197.trans (congrArg some (by kernel_rfl))⟩
  t0 := Tryz.underlying0
  a0 := Tryz.isAgg0
  z0 := Tryz.sizeOf0
  v0 := Tryz.zeroValue0
  t24 := Tryz.underlying33
  a24 := Tryz.isAgg33
  z24 := Tryz.sizeOf33
  v24 := Tryz.zeroValue33
  t26 := Tryz.underlying9
  a26 := Tryz.isAgg9
  z26 := Tryz.sizeOf9
  v26 := Tryz.zeroValue9
  t28 := Tryz.underlying180
  a28 := Tryz.isAgg180
  z28 := Tryz.sizeOf180
  v28 := Tryz.zeroValue180
  i26 := by kernel_rfl }
def Tryz.sort109_ren : Go.Shelf.Ren := ⟨fun | 6 => 109 | 8 => 103 | 9 => 148 | 19 => 144 | 20 => 145 | 21 => 182 | 22 => 183 | 23 => 184 | 24 => 185 | 25 => 186 | 26 => 187 | 27 => 150 | 28 => 188 | 29 => 189 | 36 => 209 | 31 => 176 | 32 => 177 | 37 => 210 | 38 => 211 | 39 => 190 | 41 => 225 | n => n, fun | 27 => 33 | 29 => 9 | 3 => 3 | 32 => 155 | 26 => 33 | 0 => 0 | 44 => 198 | 46 => 200 | 4 => 4 | 36 => 192 | 35 => 191 | 41 => 170 | 5 => 5 | 9 => 9 | 53 => 227 | 57 => 231 | 63 => 252 | 64 => 253 | n => n, fun | n => n⟩
theorem Tryz.sort109 : Go.Proofs.SlLaysM.n6 Tryz.prog Tryz.sort109_ren := {
  mixed := by kernel_rfl
  f6 := ⟨Tryz.f109.name, by decide, Tryz.func109.trans (congrArg some (by kernel_rfl))⟩
  f8 := Tryz.func103.trans (congrArg some (by kernel_rfl))
  f9 := ⟨Tryz.f148.name, by decide, Tryz.func148.trans (congrArg some (by kernel_rfl))⟩
  f19 := Tryz.func144.trans (congrArg some (by kernel_rfl))
  f20 := Tryz.func145.trans (congrArg some (by kernel_rfl))
  f21 := ⟨Tryz.f182.name, by decide, Tryz.func182.trans (congrArg some (by kernel_rfl))⟩
  f22 := ⟨Tryz.f183.name, by decide, Tryz.func183.trans (congrArg some (by kernel_rfl))⟩
  f23 := ⟨Tryz.f184.name, by decide, Tryz.func184.trans (congrArg some (by kernel_rfl))⟩
  f24 := ⟨Tryz.f185.name, by decide, Tryz.func185.trans (congrArg some (by kernel_rfl))⟩
  f25 := ⟨Tryz.f186.name, by decide, Tryz.func186.trans (congrArg some (by kernel_rfl))⟩
  f26 := ⟨Tryz.f187.name, by decide, Tryz.func187.trans (congrArg some (by kernel_rfl))⟩
  f27 := ⟨Tryz.f150.name, by decide, Tryz.func150.trans (congrArg some (by kernel_rfl))⟩
  f28 := ⟨Tryz.f188.name, by decide, Tryz.func188.trans (congrArg some (by kernel_rfl))⟩
  f29 := ⟨Tryz.f189.name, by decide, Tryz.func189.trans (congrArg some (by kernel_rfl))⟩
  f31 := Tryz.func176.trans (congrArg some (by kernel_rfl))
  f32 := Tryz.func177.trans (congrArg some (by kernel_rfl))
  f36 := ⟨Tryz.f209.name, by decide, Tryz.func209.trans (congrArg some (by kernel_rfl))⟩
  f37 := ⟨Tryz.f210.name, by decide, Tryz.func210.trans (congrArg some (by kernel_rfl))⟩
  f38 := ⟨Tryz.f211.name, by decide, Tryz.func211.trans (congrArg some (by kernel_rfl))⟩
  f39 := ⟨Tryz.f190.name, by decide, Tryz.func190.trans (congrArg some (by kernel_rfl))⟩
  f41 := ⟨Tryz.f225.name, by decide, Tryz.func225.trans (congrArg some (by kernel_rfl))⟩
  t0 := Tryz.underlying0
  a0 := Tryz.isAgg0
  z0 := Tryz.sizeOf0
  v0 := Tryz.zeroValue0
  t3 := Tryz.underlying3
  a3 := Tryz.isAgg3
  z3 := Tryz.sizeOf3
  v3 := Tryz.zeroValue3
  t4 := Tryz.underlying4
  a4 := Tryz.isAgg4
  z4 := Tryz.sizeOf4
  v4 := Tryz.zeroValue4
  t5 := Tryz.underlying5
  a5 := Tryz.isAgg5
  z5 := Tryz.sizeOf5
  v5 := Tryz.zeroValue5
  t9 := Tryz.underlying9
  a9 := Tryz.isAgg9
  z9 := Tryz.sizeOf9
  v9 := Tryz.zeroValue9
  t26 := Tryz.underlying33
  a26 := Tryz.isAgg33
  z26 := Tryz.sizeOf33
  v26 := Tryz.zeroValue33
  t27 := Tryz.underlying33
  a27 := Tryz.isAgg33
  z27 := Tryz.sizeOf33
  v27 := Tryz.zeroValue33
  t29 := Tryz.underlying9
  a29 := Tryz.isAgg9
  z29 := Tryz.sizeOf9
  v29 := Tryz.zeroValue9
  t32 := Tryz.underlying155
  a32 := Tryz.isAgg155
  z32 := Tryz.sizeOf155
  v32 := Tryz.zeroValue155
  t35 := Tryz.underlying191
  a35 := Tryz.isAgg191
  z35 := Tryz.sizeOf191
  v35 := Tryz.zeroValue191
  t36 := Tryz.underlying192
  a36 := Tryz.isAgg192
  z36 := Tryz.sizeOf192
  v36 := Tryz.zeroValue192
  t41 := Tryz.underlying170
  a41 := Tryz.isAgg170
  z41 := Tryz.sizeOf170
  v41 := Tryz.zeroValue170
  t44 := Tryz.underlying198
  a44 := Tryz.isAgg198
  z44 := Tryz.sizeOf198
  v44 := Tryz.zeroValue198
  t46 := Tryz.underlying200
  a46 := Tryz.isAgg200
  z46 := Tryz.sizeOf200
  v46 := Tryz.zeroValue200
  t53 := Tryz.underlying227
  a53 := Tryz.isAgg227
  z53 := Tryz.sizeOf227
  v53 := Tryz.zeroValue227
  t57 := Tryz.underlying231
  a57 := Tryz.isAgg231
  z57 := Tryz.sizeOf231
  v57 := Tryz.zeroValue231
  t63 := Tryz.underlying252
  a63 := Tryz.isAgg252
  z63 := Tryz.sizeOf252
  v63 := Tryz.zeroValue252
  t64 := Tryz.underlying253
  a64 := Tryz.isAgg253
  z64 := Tryz.sizeOf253
  v64 := Tryz.zeroValue253 }
open Go.RowKit Go.Maps Go.Sort Go.Shelf


theorem Tryz.sorts122 (m : Nat) : AnyZ.SortsIn Tryz.prog Tryz.sorted122_ren Fence.wide m :=
  ⟨fun blk off cap ss W hH hblk hsz => callsIn_wide.2 (AnyM.slices_Sort_string Tryz.sort109 blk off cap ss W hH hblk hsz),
   fun p cap W => callsIn_wide.2 (AnyM.slices_Sort_string_none Tryz.sort109 p cap W)⟩

theorem Tryz.maps_Keys_123 (mb : Option Nat) (W : World) : CallsIn Fence.wide 5 Tryz.prog 123 #[.map mb] W fun e w' => e = .returned (.func (.func 164) #[] #[.pointer (some ⟨W.heap.size, 0, none⟩)]) ∧ w' = W.alloc (.cells #[.map mb] 83) :=
  AnyZ.keys_in Tryz.keys123 Fence.wide 5 trivial rfl mb W

set_option maxHeartbeats 1000000 in
theorem Tryz.slices_Sorted_keys_122_123 {H : Type} (b nn : Nat) (D0 : DataW H) (R : Value → Option (DataW H × List MemPlace)) (w : World) (hown : w.ownsMap Tryz.prog 9 R b nn D0) (hmax : Maps.size D0 ≤ maxLen) (hbytes : Maps.size D0 * 16 ≤ 140737488355328) :
    CallsIn Fence.wide 5 Tryz.prog 122 #[.func (.func 164) #[] #[.pointer (some ⟨w.heap.size, 0, none⟩)]] (w.alloc (.cells #[.map (some b)] 83)) fun e w' => ∃ (v : Value) (ss : List (List UInt8)), e = .returned v ∧ ss.Perm (strKeys D0) ∧
      w'.ownsRow (w.alloc (.cells #[.map (some b)] 83)).heap.size 9 1 v ss.length ((ss.mergeSort (fun x y => decide (x ≤ y))).map encStr) ∧ (v = .slice none 0 0 ↔ ss = []) ∧ Below (w.alloc (.cells #[.map (some b)] 83)).heap.size (w.alloc (.cells #[.map (some b)] 83)) w' := by
  have hbl := hown.lt
  have hseq : SeqGives Fence.wide 2 Tryz.prog 164 #[.pointer (some ⟨w.heap.size, 0, none⟩)] encStr (fun ss => ss.Perm (strKeys D0)) (Maps.size D0) (w.alloc (.cells #[.map (some b)] 83)) :=
    AnyZ.keys_gives (ρ := Tryz.keys123_ren) { Tryz.keys123 with } Fence.wide _ trivial rfl (by omega) w.heap.size b nn D0 _ (by simp) (by simp) (by
      obtain ⟨es, clock, hb, Ft, hs, hD⟩ := hown
      exact ⟨es, clock, (Below.heap_alloc _ _ b hbl).trans hb, Ft, hs, hD⟩)
  exact AnyZ.sorted_in Tryz.sorted122 Fence.wide 5 trivial trivial trivial trivial rfl (by omega) (Tryz.sorts122 _) (enters_of Tryz.func109 (by kernel_rfl) rfl) 164 #[.pointer (some ⟨w.heap.size, 0, none⟩)] trivial (enters_of Tryz.func164 (by kernel_rfl) rfl) _ _ hmax hbytes _ hseq

set_option maxHeartbeats 1000000 in
theorem Tryz.slices_Sorted_keys_nil_122_123 (w : World) :
    CallsIn Fence.wide 5 Tryz.prog 122 #[.func (.func 164) #[] #[.pointer (some ⟨w.heap.size, 0, none⟩)]] (w.alloc (.cells #[.map none] 83)) fun e w' => ∃ (v : Value) (ss : List (List UInt8)), e = .returned v ∧ ss = [] ∧
      w'.ownsRow (w.alloc (.cells #[.map none] 83)).heap.size 9 1 v ss.length ((ss.mergeSort (fun x y => decide (x ≤ y))).map encStr) ∧ (v = .slice none 0 0 ↔ ss = []) ∧ Below (w.alloc (.cells #[.map none] 83)).heap.size (w.alloc (.cells #[.map none] 83)) w' := by
  have hseq : SeqGives Fence.wide 2 Tryz.prog 164 #[.pointer (some ⟨w.heap.size, 0, none⟩)] encStr (fun ss : List (List UInt8) => ss = []) 0 (w.alloc (.cells #[.map none] 83)) :=
    AnyZ.keys_gives_nil (ρ := Tryz.keys123_ren) { Tryz.keys123 with } Fence.wide _ trivial rfl w.heap.size _ (by simp) (by simp)
  exact AnyZ.sorted_in Tryz.sorted122 Fence.wide 5 trivial trivial trivial trivial rfl (by omega) (Tryz.sorts122 _) (enters_of Tryz.func109 (by kernel_rfl) rfl) 164 #[.pointer (some ⟨w.heap.size, 0, none⟩)] trivial (enters_of Tryz.func164 (by kernel_rfl) rfl) _ 0 (Nat.zero_le _) (by omega) _ hseq
end Go.Proofs
/-
  The program's names.ascending, by contract.
-/
namespace Go.Proofs.YtihffcphbcepoaaGreatDoor
open Go.ChangeShapes Go.WideShapes Go.ChangeAt Go.RowKit Go.Maps Go.WideMaps Go.Shelf Go.Sort
set_option linter.unusedVariables false
set_option maxRecDepth 100000
attribute [local go_sem] Oper.semAt_some

/-- The names of a map, ascending. -/
def keysD (D : DataW Unit) : List (List UInt8) := (strKeys D).mergeSort (fun x y => decide (x ≤ y))
theorem keysD_len (D : DataW Unit) : (keysD D).length ≤ Maps.size D := by
  unfold keysD
  rw [List.length_mergeSort]
  cases D <;> simp [strKeys, Maps.size]
def keysL (K : List (List UInt8)) : List (List UInt8) := keysD (setD K)
structure SetOk (D : DataW Unit) : Prop where
  tidy : Tidy D
  keys : ∀ es, D = .map es → ∀ p ∈ es, ∃ x, p.1 = .string x
theorem put_ok {D : DataW Unit} (h : SetOk D) (x : List UInt8) : SetOk (D.put (.string x) (.agg [])) := by
  refine ⟨h.tidy.put (k := .string x) trivial _, fun es he p hp => ?_⟩
  obtain ⟨es0, rfl, hp0⟩ := h.tidy
  have he' : DataW.insert (Lit.string x, DataW.agg []) (es0.filter fun p => !p.1.sameKey (.string x)) = es := by simpa [DataW.put] using he
  rw [← he'] at hp
  have hp2 := ((insert_perm (Lit.string x, (DataW.agg [] : DataW Unit)) (es0.filter fun p => !p.1.sameKey (.string x))).mem_iff).1 hp
  rcases List.mem_cons.1 hp2 with rfl | hp2
  · exact ⟨x, rfl⟩
  · exact h.keys es0 rfl p (List.mem_filter.1 hp2).1
theorem setD_from : ∀ (K : List (List UInt8)) (D : DataW Unit), SetOk D → SetOk (K.foldl (fun D x => D.put (.string x) (.agg [])) D) ∧ Maps.size (K.foldl (fun D x => D.put (.string x) (.agg [])) D) ≤ Maps.size D + K.length ∧
    ∀ z, has (K.foldl (fun D x => D.put (.string x) (.agg [])) D) (.string z) = true ↔ has D (.string z) = true ∨ z ∈ K
  | [], D, h => ⟨h, by simp, fun z => by simp⟩
  | x :: xs, D, h => by
    obtain ⟨h1, h2, h3⟩ := setD_from xs _ (put_ok h x)
    refine ⟨h1, ?_, fun z => ?_⟩
    · have := size_put (k := .string x) h.tidy (.agg [])
      have h4 : Maps.size (D.put (.string x) (.agg [])) ≤ Maps.size D + 1 := by rw [this]; split <;> omega
      simp only [List.foldl_cons, List.length_cons]
      omega
    · rw [List.foldl_cons, h3 z]
      by_cases hz : z = x
      · subst hz
        have hm : IsMap D := by obtain ⟨es, rfl, _⟩ := h.tidy; exact ⟨es, rfl⟩
        simp [has_put_same hm (k := Lit.string z) trivial]
      · rw [has_put_other (by intro e; cases e; exact hz rfl)]
        simp [hz]
theorem setD_ok (K : List (List UInt8)) : SetOk (setD K) ∧ Maps.size (setD K) ≤ K.length ∧ ∀ z, has (setD K) (.string z) = true ↔ z ∈ K := by
  obtain ⟨h1, h2, h3⟩ := setD_from K (.map []) ⟨⟨[], rfl, List.Pairwise.nil⟩, fun es he p hp => by cases he; cases hp⟩
  refine ⟨h1, by (have h4 : Maps.size (DataW.map ([] : List (Lit × DataW Unit))) = 0 := rfl; rw [h4] at h2; unfold setD; omega), fun z => (h3 z).trans ?_⟩
  simp [has_eq]
theorem setD_size (K : List (List UInt8)) : Maps.size (setD K) ≤ K.length := (setD_ok K).2.1
/-- The keys are just the names, each once. -/
theorem setD_perm (K ss : List (List UInt8)) (hnd : ss.Nodup) (hm : ∀ x, x ∈ ss ↔ x ∈ K) : ss.Perm (strKeys (setD K)) := by
  obtain ⟨h1, -, h3⟩ := setD_ok K
  obtain ⟨es, he, hp⟩ := h1.tidy
  have hk := h1.keys es he
  rw [he] at h3 ⊢
  exact perm_strKeys hp hk hnd (fun x => (hm x).trans (h3 x).symm)
theorem keysL_len (K : List (List UInt8)) : (keysL K).length ≤ K.length := Nat.le_trans (keysD_len _) (setD_size K)
theorem srow {w : World} {B : Nat} {v : Value} {L : List (List UInt8)} {n : Nat} (hn : L.length = n) (h : w.ownsRow B 9 1 v n (L.map encStr)) :
    ∃ p cap, v = .slice p n cap ∧ (∀ a, p = some a → B ≤ a.block ∧ a.block < w.heap.size) ∧ ∀ k x, L[k]? = some x → ∃ b, p = some ⟨b, 0, none⟩ ∧ B ≤ b ∧ b < w.heap.size ∧ w.cell? ⟨b, k, none⟩ = some (encStr x) := by
  rcases h.2 with ⟨rfl, h0⟩ | ⟨g, cap, cur, rfl, hB, hg, hr⟩
  · refine ⟨none, 0, by rw [h0], fun a e => by (cases e), fun k x hx => ?_⟩
    have := (List.getElem?_eq_some_iff.1 hx).1
    omega
  · refine ⟨_, cap, rfl, fun a e => by (cases e; exact ⟨hB, (Array.getElem?_eq_some_iff.1 hg).1⟩), fun k x hx => ⟨g, rfl, hB, (Array.getElem?_eq_some_iff.1 hg).1, ?_⟩⟩
    have := (List.getElem?_eq_some_iff.1 hx).1
    rw [h.cellAt k (by omega)]
    simp [hx]

theorem blk_lt {A B : World} {b : Nat} (h : B.heap[b]? = A.heap[b]?) (hb : b < A.heap.size) : b < B.heap.size := by
  rw [Array.getElem?_eq_getElem hb] at h
  exact (Array.getElem?_eq_some_iff.1 h).1
def blkOf : Option Addr → Option Nat
  | some a => some a.block
  | none => none

set_option maxHeartbeats 4000000 in
theorem asc_in {R : Value → Option (DataW Unit × List MemPlace)} (l mb nn : Nat) (D : DataW Unit) (W0 : World) (hm : W0.ownsMap Tryz.prog 9 R mb nn D) (hsz : Maps.size D ≤ 4194304) (J : Option Nat → List (List UInt8) → World → Prop)
    (hJb : ∀ q s A B, J q s A → Below A.heap.size A B → J q s B) (hJn : ∀ s A B b, J none s A → Below A.heap.size A B → A.heap.size ≤ b → b < B.heap.size → J (some b) s B)
    (hY : ∀ q pre x W1, J q pre W1 → pre.length < (keysD D).length → YieldAt Fence.wide 5 Tryz.prog l #[encStr x] W1 fun e W' => e = .returned (.bool true) ∧ J q (pre ++ [x]) W' ∧ ∀ b, q = some b → b < W1.heap.size → W'.heap[b]? = W1.heap[b]?)
    (h0 : J none [] W0) :
    CallsIn Fence.wide 6 Tryz.prog 79 #[.map (some mb), .func (.yield l) #[] #[]] W0 fun e W' => (∃ v, e = .returned v) ∧ ∃ q, J q (keysD D) W' := by
  have hmax : Maps.size D ≤ maxLen := by unfold maxLen; omega
  have hbytes : Maps.size D * 16 ≤ 140737488355328 := by omega
  have hfK : Fence.wide.fn 123 := trivial
  have hfS : Fence.wide.fn 122 := trivial
  refine callsIn_of_wp Tryz.func79 rfl trivial ?_ rfl
  simp only [Tryz.ntmps79, List.size_toArray, List.length_cons, List.length_nil, Nat.reduceAdd, Nat.reduceSub, Array.replicate_succ, Array.replicate_zero, List.push_toArray, List.append_toArray, List.nil_append, List.cons_append]
  gi_wp2_with (first
    | (gi_at_call 123; refine (Tryz.maps_Keys_123 _ _).mono ?_; rintro e w' ⟨rfl, rfl⟩)
    | (gi_at_call 122; refine (Tryz.slices_Sorted_keys_122_123 mb nn D R W0 hm hmax hbytes).mono ?_; rintro e w' ⟨v, ss, rfl, hS, hrow, hnil, hb⟩; obtain ⟨p, cap, rfl, hpb, hat⟩ := srow (by simp) hrow))
  have hL : (ss.mergeSort fun x y => decide (x ≤ y)) = keysD D := mergeSort_of_perm hS
  rw [hL] at hat
  have hn : ss.length = (keysD D).length := by rw [← hL, List.length_mergeSort]
  have hBW : Below W0.heap.size W0 w' := ((Below.refl _ W0).alloc (Nat.le_refl _) _).trans (hb.mono (by simp))
  have hJ1 : J (blkOf p) [] w' := by
    cases p with
    | none => exact hJb _ _ _ _ h0 hBW
    | some a => exact hJn _ _ _ a.block h0 hBW (by have := (hpb a rfl).1; simp at this; omega) (hpb a rfl).2
  have HKL : Hid ((keysD D).length ≤ Maps.size D) := keysD_len D
  have HAT : Hid (∀ k x, (keysD D)[k]? = some x → ∃ b, p = some ⟨b, 0, none⟩ ∧ b < w'.heap.size ∧ w'.cell? ⟨b, k, none⟩ = some (encStr x)) := fun k x hx => by
    obtain ⟨b, e1, e2, e3, e4⟩ := hat k x hx
    exact ⟨b, e1, e3, e4⟩
  have HPB : Hid (∀ b, blkOf p = some b → b < w'.heap.size) := fun b e => by
    cases p with
    | none => cases e
    | some a => cases e; exact (hpb a rfl).2
  clear hat hpb hnil hrow hL hS hb hBW h0 hm hmax hbytes
  generalize ss.length = n at *
  have HN : Hid (n = (keysD D).length) := hn
  have hnb : n ≤ 9223372036854775807 := by have := HKL.out; omega
  clear hn
  gi_loopw [10] (fun iv wr => ∃ k : Nat, k ≤ n ∧ iv = .int .i64 k ∧ Hid (J (blkOf p) ((keysD D).take k) wr) ∧ Hid (∀ b, blkOf p = some b → b < wr.heap.size ∧ wr.heap[b]? = w'.heap[b]?)) (fun iv _ => n - (intOf iv).toNat)
  case atStart => exact ⟨0, Nat.zero_le _, rfl, hJ1, fun b e => ⟨HPB.out b e, rfl⟩⟩
  case round =>
    obtain ⟨k, hk, rfl, HJ, HB⟩ := hrel
    by_cases hlt : k < n
    · obtain ⟨x, hx⟩ : ∃ x, (keysD D)[k]? = some x := ⟨(keysD D)[k]'(by rw [← HN.out]; exact hlt), List.getElem?_eq_getElem _⟩
      obtain ⟨b, rfl, hbl, hc0⟩ := HAT.out k x hx
      have hc := (World.cell?_of_block (a := ⟨b, k, none⟩) (HB.out b rfl).2).trans hc0
      have HT : Hid ((keysD D).take (k + 1) = (keysD D).take k ++ [x]) := by show _ = _; rw [List.take_add_one, hx]; rfl
      obtain ⟨fn, tmps, assign, body, hy, hR⟩ := hY _ _ x wr HJ.out (by rw [List.length_take, ← HN.out]; omega)
      have hki : (k : Int) < (n : Int) := by omega
      have hk0 : (0 : Int) ≤ (k : Int) := by omega
      clear hc0
      gi_wp2
      refine hR.mono ?_
      rintro e W3 ⟨rfl, hJ3, hk3⟩
      gi_wp2
      go_roundw
      case rel => exact ⟨k + 1, by omega, by go_num, by show J _ _ _; rw [HT.out]; exact hJ3, fun b' e => by cases e; exact ⟨blk_lt (hk3 b rfl (HB.out b rfl).1) (HB.out b rfl).1, (hk3 b rfl (HB.out b rfl).1).trans (HB.out b rfl).2⟩⟩
      case measure => simp [intOf]; omega
    · have HS : J (blkOf p) (keysD D) wr := by
        have := HJ.out
        rwa [List.take_of_length_le (by rw [← HN.out]; omega)] at this
      gi_wp2
      go_end0
      exact ⟨⟨_, rfl⟩, _, HS⟩
end Go.Proofs.YtihffcphbcepoaaGreatDoor
/-
  The program's names.list, by contract.
-/
namespace Go.Proofs.YtihffcphbcepoaaGreatDoor
open Go.ChangeShapes Go.WideShapes Go.ChangeAt Go.RowKit Go.Maps Go.WideMaps Go.Shelf Go.Sort
set_option linter.unusedVariables false
set_option maxRecDepth 100000
attribute [local go_sem] Oper.semAt_some

theorem info_strN : (Tryz.prog.info? 9).map (fun i => (i.zero, i.size, i.bytes)) = some (some (.string ⟨#[]⟩), 1, 16) := by kernel_rfl

theorem owns_keep {R : Value → Option (DataW Unit × List MemPlace)} {w w' : World} {mb nn : Nat} {D : DataW Unit} (h : w.ownsMap Tryz.prog 9 R mb nn D) (he : w'.heap[mb]? = w.heap[mb]?) : w'.ownsMap Tryz.prog 9 R mb nn D := by
  obtain ⟨es, clock, h1, h2⟩ := h
  exact ⟨es, clock, he.trans h1, h2⟩
set_option maxHeartbeats 4000000 in
theorem list_in {R : Value → Option (DataW Unit × List MemPlace)} (w : World) (mb nn : Nat) (D : DataW Unit) (hm : w.ownsMap Tryz.prog 9 R mb nn D) (hK : nn ≤ 4194304) (hsD : Maps.size D ≤ 4194304) :
    Calls Tryz.prog 43 #[.map (some mb)] w fun e w' => ∃ u, e = .returned u ∧ w'.ownsRow w.heap.size 9 1 u (keysD D).length ((keysD D).map encStr) ∧ Below w.heap.size w w' := by
  refine (callsIn_wide (n := 7)).1 ?_
  obtain ⟨i0, hi, hz0, hz1, hz2⟩ := info_parts info_strN
  have HM : Hid (w.ownsMap Tryz.prog 9 R mb nn D) := hm
  have hlt0 : mb < w.heap.size := hm.lt
  obtain ⟨es, clock, hes, -, hsz, -⟩ := hm
  have hsz2 : es.size ≤ 4194304 := Nat.le_trans hsz hK
  have hlen : ∀ ty, (Builtin.len_ #[83] ty #[.map (some mb)]).run Tryz.prog w = .ok (goInt es.size) w := fun ty => run_len_map (w := w) 83 ty mb es clock Tryz.underlying83 hes
  clear hsz
  refine callsIn_of_wp_marks Tryz.func43 rfl trivial ?_ rfl
  simp only [Tryz.ntmps43, List.size_toArray, List.length_cons, List.length_nil, Nat.reduceAdd, Nat.reduceSub, Array.replicate_succ, Array.replicate_zero, List.push_toArray, List.append_toArray, List.nil_append, List.cons_append]
  gi_wp2_with (gi_at_make; refine wpListIn_make_own _ rfl _ _ 33 rfl w.heap.size 9 i0 (.string ⟨#[]⟩) 1 Tryz.underlying33 hi hz0 hz1 .i64 .i64 _ es.size rfl rfl rfl (by rw [hz2]; omega) (by unfold maxLen; omega) (Nat.le_refl _) ?_; intro w1 hrow hgrow)
  have bO := Boxed.new w1 33 (.slice (some ⟨w.heap.size, 0, none⟩) 0 es.size)
  have hle := hgrow.size
  have hB1 : Below w.heap.size w w1 := ⟨hgrow.os, hgrow.tape, hgrow.output, hgrow.size, fun j hj => hgrow.block j hj (by simp)⟩
  have hB0 : Below w.heap.size w (w1.alloc (.cells #[.slice (some ⟨w.heap.size, 0, none⟩) 0 es.size] 33)) := hB1.alloc hle _
  refine range_bound rfl (by omega) (gf := 79) (bs := #[.map (some mb)]) rfl trivial (enters_of Tryz.func79 (by kernel_rfl) rfl)
    (encs := fun x : List UInt8 => #[encStr x]) (fun _ => rfl) (keysD D)
    (fun l J W hW hJb hJn hY h0 => asc_in l mb nn D W (owns_keep HM.out ((hW.block mb (by have := hB0.size; omega)).trans (hB0.block mb hlt0))) hsD J hJb hJn hY h0)
    (fun q pre W => ((∃ v, Boxed W w1.heap.size 33 v ∧ W.ownsRow w.heap.size 9 1 v pre.length (pre.map encStr) ∧ ∀ b, q = some b → v.ownBlock ≠ some b ∧ b ≠ w1.heap.size) ∧ Below w.heap.size w W) ∧ ∀ b, q = some b → b < W.heap.size)
    (fun q => OwnFrom.and (OwnFrom.and (Own.from (holdsRow_own w.heap.size w1.heap.size 33 9 1 (fun pre : List (List UInt8) => pre.length) (fun pre => pre.map encStr) (fun pre v => ∀ b, q = some b → v.ownBlock ≠ some b ∧ b ≠ w1.heap.size)) _) (ownFrom_below (Nat.le_refl _) (by simp; omega)))
      (fun s A B row hs hg hr b e => Nat.lt_of_lt_of_le (hs b e) hg.size))
    ?new ⟨⟨⟨_, bO, hrow.alloc _, fun b e => by cases e⟩, hB0⟩, fun b e => by cases e⟩
    (fun x => { tmps := #[.map (some mb), undef, .slice none 0 0, .pointer (some ⟨w1.heap.size, 0, none⟩), encStr x, .map (some mb), .int .i64 es.size, .slice (some ⟨w.heap.size, 0, none⟩) 0 es.size, .map (some mb), .func (.func 79) #[.map (some mb)] #[], encStr x, undef, undef, undef, undef, undef], defers := [] }) ?assign ?body ?done
  case new =>
    rintro s A B b ⟨⟨⟨v, h1, h2, -⟩, h3⟩, -⟩ hAB hb hbB
    refine ⟨⟨⟨v, h1.kept (grown_of hAB) (by simp), h2.kept (grown_of hAB) (Classical.em _), fun b' e => ?_⟩, h3.trans (hAB.mono h3.size)⟩, fun b' e => by cases e; exact hbB⟩
    cases e
    refine ⟨fun e' => ?_, ?_⟩
    · have := (h2.lt b e').2
      omega
    · have := h1.lt
      omega
  case assign =>
    intro l x W K hK
    gi_wp2
    exact hK
  case body =>
    rintro l q pre x W ⟨⟨⟨v, hv, hrow, hq⟩, hB⟩, hqb⟩ hlt
    have hc := hv.cell
    have hkl := keysD_len D
    have hpl : pre.length ≤ 4194304 := by omega
    gi_wp2_with (gi_at_builtin; refine wpListIn_append_own_at _ rfl _ _ 33 rfl w.heap.size 9 i0 (.string ⟨#[]⟩) 1 16 Tryz.underlying33 hi hz0 hz1 hz2 rfl (by decide) _ _ _ rfl (hrow.alloc _) ⟨W.heap.size, 0, none⟩ 1 1 [encStr x] rfl rfl (cell_one_new _ _ _) (by simp [Value.oneCell']) (by unfold maxLen; omega) (by omega) (by have := hB.size; simp; omega) ?_; intro v' w2 hown' hgr _ hat; obtain ⟨g', cap', rfl⟩ := ownsRow_succ hown'; obtain ⟨hv1, hv2, hr2, hk2, hb2⟩ := hv.appended (by decide) hrow hB.size hle hown' hgr; have hc1 := hv1.cell; have hf1 := hv1.frozen)
    refine ⟨⟨⟨⟨_, hv2, by simpa using hr2, fun b e => ⟨?_, (hq b e).2⟩⟩, hB.trans hb2⟩, fun b e => Nat.lt_of_lt_of_le (hqb b e) (by simpa using hk2.size)⟩, fun b e hbl => ?_⟩
    · rcases hat with h | h
      · rw [h]; exact (hq b e).1
      · rw [h]
        intro e'
        have := hqb b e
        simp at e'
        omega
    · have hbA : b < (W.alloc (.cells #[encStr x] 9)).heap.size := by simp; omega
      have s1 := hgr.block b (by simp; omega) (fun e' => (hq b e).1 e'.symm)
      have s2 := (grownBy_setCell' w2 w1.heap.size (.slice (some ⟨g', 0, none⟩) (pre.length + 1) cap')).block b (Nat.lt_of_lt_of_le hbA (by simpa using hgr.size)) (fun e' => (hq b e).2 (by cases e'; rfl))
      exact (s2.trans s1).trans (Below.heap_alloc W _ b hbl)
  case done =>
    rintro D q W hD ⟨⟨⟨v, hv, hrow, -⟩, hB⟩, -⟩ hK
    have hc := hv.cell
    gi_wp2
    refine ⟨by simp, .inl ⟨_, _, rfl, run_takeDeferred hK, ?_⟩⟩
    exact ⟨_, results_tmp rfl _ _ _, v, rfl, ownsRow_putObj hrow _ hK rfl, hB.trans (belowK_b (w := w) (Nat.le_refl _) W D _ _ (by simp at hD; omega) hK rfl rfl)⟩
end Go.Proofs.YtihffcphbcepoaaGreatDoor
/-
  Chapter 4, plain mathematics: the names of the program's map, ascending, are the specification's.
-/
namespace Go.Proofs.YtihffcphbcepoaaGreatDoor
open Go.ChangeShapes Go.WideShapes Go.ChangeAt Go.RowKit Go.Sort
set_option linter.unusedVariables false

theorem insS_perm : ∀ (l : List ByteArray) (s : ByteArray), keyS s ∉ l.map keyS → ((insS l s).map keyS).Perm (keyS s :: l.map keyS)
  | [], s, h => List.Perm.refl _
  | x :: xs, s, h => by
    have h1 : x.toList ≠ s.toList := fun e => h (by simp [keyS, e])
    unfold insS
    split
    · exact ((insS_perm xs s (fun h' => h (by simp only [List.map_cons, List.mem_cons]; exact .inr h'))).cons _).trans (List.Perm.swap _ _ _)
    · exact List.Perm.refl _
theorem insS_asc : ∀ (l : List ByteArray) (s : ByteArray), (l.map keyS).Pairwise (fun a b => a ≤ b) → ((insS l s).map keyS).Pairwise (fun a b => a ≤ b)
  | [], s, h => by simp [insS]
  | x :: xs, s, h => by
    obtain ⟨h1, h2⟩ := List.pairwise_cons.1 h
    unfold insS
    split
    · rename_i hlt
      have hlt' : keyS x < keyS s := by
        unfold ltS at hlt
        rw [bytesLess_eq] at hlt
        exact of_decide_eq_true hlt
      refine List.pairwise_cons.2 ⟨fun y hy => ?_, insS_asc xs s h2⟩
      obtain ⟨z, hz, rfl⟩ := List.mem_map.1 hy
      rcases insS_mem xs s z hz with rfl | hz
      · exact List.le_of_lt hlt'
      · exact h1 _ (List.mem_map.2 ⟨z, hz, rfl⟩)
    · rename_i hlt
      have hle : keyS s ≤ keyS x := by
        have : ¬ keyS x < keyS s := fun e => hlt (by unfold ltS; rw [bytesLess_eq]; exact decide_eq_true e)
        exact List.not_lt.1 this
      split
      · exact h
      · refine List.pairwise_cons.2 ⟨fun y hy => ?_, h⟩
        rcases List.mem_cons.1 hy with rfl | hy
        · exact hle
        · exact List.le_trans hle (h1 y hy)
theorem sortS_from : ∀ (l acc : List ByteArray), (acc.map keyS ++ l.map keyS).Nodup → (acc.map keyS).Pairwise (fun a b => a ≤ b) →
    ((l.foldl insS acc).map keyS).Perm (acc.map keyS ++ l.map keyS) ∧ ((l.foldl insS acc).map keyS).Pairwise (fun a b => a ≤ b)
  | [], acc, hn, h => ⟨by simp, h⟩
  | s :: l, acc, hn, h => by
    have hs : keyS s ∉ acc.map keyS := by
      intro hm
      have := (List.nodup_append.1 hn).2.2 _ hm (keyS s) (by simp)
      exact this rfl
    have hp := insS_perm acc s hs
    have hp2 : ((insS acc s).map keyS ++ l.map keyS).Perm (acc.map keyS ++ (s :: l).map keyS) := by
      refine (hp.append_right _).trans ?_
      simp only [List.map_cons, List.cons_append]
      exact List.perm_middle.symm
    obtain ⟨g1, g2⟩ := sortS_from l (insS acc s) (hp2.symm.nodup_iff.1 hn) (insS_asc acc s h)
    exact ⟨g1.trans hp2, g2⟩
theorem sortS_perm (l : List ByteArray) (hn : NdK l) : ((sortS l).map keyS).Perm (l.map keyS) ∧ ((sortS l).map keyS).Pairwise (fun a b => a ≤ b) := by
  have := sortS_from l [] (by simpa [NdK] using hn) (by simp)
  simpa [sortS] using this
theorem keysL_eq (K : List (List UInt8)) (l : List ByteArray) (hn : NdK l) (hm : ∀ x, x ∈ l.map keyS ↔ x ∈ K) : keysL K = (sortS l).map keyS := by
  obtain ⟨h1, h2⟩ := sortS_perm l hn
  have h3 : ((sortS l).map keyS).Perm (strKeys (setD K)) := h1.trans (setD_perm K _ hn hm)
  unfold keysL keysD
  rw [← mergeSort_of_perm h3]
  exact List.mergeSort_of_pairwise (h2.imp (fun h => decide_eq_true h))
theorem encStr_keyS (s : ByteArray) : encStr (keyS s) = .string s := by
  unfold encStr keyS
  rw [ByteArray.toList_eq]
theorem keysL_strs (K : List (List UInt8)) (l : List ByteArray) (hn : NdK l) (hm : ∀ x, x ∈ l.map keyS ↔ x ∈ K) : (keysL K).map encStr = strs (sortS l) ∧ (keysL K).length = (sortS l).length := by
  rw [keysL_eq K l hn hm]
  refine ⟨?_, by simp⟩
  unfold strs
  rw [List.map_map]
  exact List.map_congr_left (fun s _ => encStr_keyS s)
end Go.Proofs.YtihffcphbcepoaaGreatDoor
/-
  What is held lies in the heap.
-/
namespace Go.Proofs.YtihffcphbcepoaaGreatDoor
open Go.ChangeShapes Go.WideShapes Go.ChangeAt Go.RowKit
set_option linter.unusedVariables false

/-- What is held lies in the heap. -/
theorem Rows.tight {α : Type} {w : World} {S : Nat → Prop} {c : Nat} {R R' : List Value → α → Prop} {v : Value} {xs : List α} (h : Rows w S c R v xs) (hR : ∀ cs x, R cs x → R' cs x) : Rows w (fun g => g < w.heap.size) c R' v xs := by
  obtain ⟨p, cap, hv, h1, h2, h3⟩ := h
  refine ⟨p, cap, hv, h1, h2, fun hne => ?_⟩
  obtain ⟨g, off, hp, hg, hlt, hx⟩ := h3 hne
  refine ⟨g, off, hp, hlt, hlt, fun i x hi => ?_⟩
  obtain ⟨cs, hl, hc, hr⟩ := hx i x hi
  exact ⟨cs, hl, hc, hR cs x hr⟩
theorem HEx.tight {w : World} {S : Nat → Prop} : ∀ {d : Nat} {cs : List Value} {x : Ex}, HEx w S d cs x → HEx w (fun g => g < w.heap.size) d cs x
  | 0, _, _, h => h.elim
  | d + 1, cs, x, h => by
    obtain ⟨kv, cv, rfl, h1, h2, h3, h4, hk, hc⟩ := h
    refine ⟨kv, cv, rfl, h1, h2, h3, h4, hk.tight (fun _ _ h => h.tight), hc.tight (fun _ _ h => ?_)⟩
    obtain ⟨p, b, rfl, g1, g2⟩ := h
    exact ⟨p, b, rfl, g1.tight (fun _ _ h => h.tight), g2.tight (fun _ _ h => h.tight)⟩
end Go.Proofs.YtihffcphbcepoaaGreatDoor
/-
  The program's list of the names that were put into a set, by contract.
-/
namespace Go.Proofs.YtihffcphbcepoaaGreatDoor
open Go.ChangeShapes Go.WideShapes Go.ChangeAt Go.RowKit Go.Maps Go.WideMaps Go.Sort
set_option linter.unusedVariables false
set_option maxRecDepth 100000

theorem MapAt.made (w : World) : MapAt (w.alloc (.map #[] 0)) w.heap.size [] := by
  unfold MapAt
  exact World.ownsMap_made w _ _ _
theorem list_any (w : World) (mb : Nat) (K : List (List UInt8)) (l : List ByteArray) (hm : MapAt w mb K) (hK : K.length ≤ 4194304) (hn : NdK l) (hl : ∀ x, x ∈ l.map keyS ↔ x ∈ K) :
    Calls Tryz.prog 43 #[.map (some mb)] w fun e w' => ∃ u, e = .returned u ∧ OwnS w' w.heap.size u (sortS l) ∧ Below w.heap.size w w' := by
  refine (list_in w mb K.length (setD K) hm hK (Nat.le_trans (setD_size K) hK)).mono ?_
  rintro e w' ⟨u, rfl, ho, hb⟩
  obtain ⟨h1, h2⟩ := keysL_strs K l hn hl
  unfold keysL at h1 h2
  rw [h1, h2] at ho
  exact ⟨u, rfl, ⟨ho, hb.size⟩, hb⟩
end Go.Proofs.YtihffcphbcepoaaGreatDoor
/-
  The program's VarsAt, by contract.
-/
namespace Go.Proofs.YtihffcphbcepoaaGreatDoor
open Go.ChangeShapes Go.WideShapes Go.ChangeAt Go.RowKit Go.Maps Go.WideMaps Go.Sort
set_option linter.unusedVariables false
set_option maxRecDepth 100000

theorem rows_apart {α : Type} {w : World} {S : Nat → Prop} {c mb : Nat} (hc0 : 0 < c) {R R' : List Value → α → Prop} {v : Value} {xs : List α} (h : Rows w S c R v xs) (hm : ∀ o, w.cell? ⟨mb, o, none⟩ = none) (hR : ∀ cs x, R cs x → R' cs x) : Rows w (fun g => g ≠ mb) c R' v xs := by
  obtain ⟨p, cap, hv, h1, h2, h3⟩ := h
  refine ⟨p, cap, hv, h1, h2, fun hne => ?_⟩
  obtain ⟨g, off, hp, hg, hlt, hx⟩ := h3 hne
  refine ⟨g, off, hp, ?_, hlt, fun i x hi => ?_⟩
  · rintro rfl
    obtain ⟨y, hy⟩ : ∃ y, xs[0]? = some y := by
      cases xs with
      | nil => exact absurd rfl hne
      | cons y ys => exact ⟨y, rfl⟩
    obtain ⟨cs, hl, hc, -⟩ := hx 0 y hy
    have := hc 0 hc0
    rw [hm, List.getElem?_eq_getElem (by omega)] at this
    cases this
  · obtain ⟨cs, hl, hc, hr⟩ := hx i x hi
    exact ⟨cs, hl, hc, hR cs x hr⟩
theorem HEx.apart {w : World} {S : Nat → Prop} {mb : Nat} (hm : ∀ o, w.cell? ⟨mb, o, none⟩ = none) : ∀ {d : Nat} {cs : List Value} {x : Ex}, HEx w S d cs x → HEx w (fun g => g ≠ mb) d cs x
  | 0, _, _, h => h.elim
  | d + 1, cs, x, h => by
    obtain ⟨kv, cv, rfl, h1, h2, h3, h4, hk, hc⟩ := h
    refine ⟨kv, cv, rfl, h1, h2, h3, h4, rows_apart (by decide) hk hm (fun _ _ h => h.apart hm), rows_apart (by decide) hc hm (fun _ _ h => ?_)⟩
    obtain ⟨p, b, rfl, g1, g2⟩ := h
    exact ⟨p, b, rfl, rows_apart (by decide) g1 hm (fun _ _ h => h.apart hm), rows_apart (by decide) g2 hm (fun _ _ h => h.apart hm)⟩
theorem MapAt.nocell {w : World} {mb : Nat} {K : List (List UInt8)} (h : MapAt w mb K) (o : Nat) : w.cell? ⟨mb, o, none⟩ = none := by
  obtain ⟨es, clock, h1, -⟩ := h
  unfold World.cell?
  simp [h1]

theorem ownG_low {α : Type} {e : TypeId} {c : Nat} {R : List Value → α → Prop} {w : World} {B : Nat} {v : Value} {l : List α} (h : OwnG e c R w B v l) : Rows w (fun g => B ≤ g) c R v l := by
  obtain ⟨⟨cells, g1, g2⟩, -⟩ := h
  obtain ⟨p, cap, rfl, h1, h2, h3⟩ := CellsR.rows g1 g2 rfl
  refine ⟨p, cap, rfl, h1, h2, fun hne => ?_⟩
  obtain ⟨g, off, rfl, -, hlt, hx⟩ := h3 hne
  refine ⟨g, off, rfl, ?_, hlt, hx⟩
  rcases g1.2 with ⟨hv, -⟩ | ⟨g', cap', cur, hv, hB, -⟩
  · cases hv
  · simp only [Value.slice.injEq, Option.some.injEq, Addr.mk.injEq] at hv
    rw [hv.1.1]; exact hB

/-- All variables of a clause, as they stand. -/
def clauseL (d : Nat) (c : Cl) : List (List UInt8) := (c.1 ++ c.2).flatMap (varL d)
theorem clauseL_ex (d : Nat) (c : Cl) : varL (d + 1) (.mk 10 0 ByteArray.empty ByteArray.empty [] [c]) = clauseL d c := by
  show (if (10 : Int) = 2 then [keyS ByteArray.empty] else []) ++ (([] : List Ex).flatMap (varL d) ++ [c].flatMap fun c => c.1.flatMap (varL d) ++ c.2.flatMap (varL d)) = _
  simp [clauseL]
theorem clauseL_len (d : Nat) (c : Cl) (h : 1 + wtCl (wtEx d) c ≤ 1048576) (k : Nat) : (((c.1 ++ c.2).take k).flatMap (varL d)).length ≤ 1048576 := by
  have h1 := flat_len (varL d) (wtEx d) ((c.1 ++ c.2).take k) (fun y _ => varL_len d y)
  have h2 : wtS (wtEx d) ((c.1 ++ c.2).take k) ≤ wtS (wtEx d) (c.1 ++ c.2) := by
    have := sum_take_le (wtEx d) (c.1 ++ c.2) k
    unfold wtS
    rw [List.length_take]
    omega
  have h3 : wtS (wtEx d) (c.1 ++ c.2) = wtCl (wtEx d) c := by
    show _ = wtS (wtEx d) c.1 + wtS (wtEx d) c.2
    simp [wtS]; omega
  omega
theorem clauseL_all (d : Nat) (c : Cl) (z : List UInt8) : z ∈ (clauseVars d c).map keyS ↔ z ∈ clauseL d c := by
  rw [← clauseL_ex, clauseVars_ex]
  refine ⟨fun hz => ?_, allV_all _ _ z⟩
  obtain ⟨s, hs, rfl⟩ := List.mem_map.1 hz
  exact allV_sub _ _ s hs
theorem clauseVars_nd (d : Nat) (c : Cl) : NdK (clauseVars d c) := by rw [clauseVars_ex]; exact allV_nd _ _

set_option maxHeartbeats 16000000 in
theorem implVarsAt_any (d : Nat) (w : World) (v : Value) (ms : List Md) (q : Pl) (hT : Tabs w) (h : Rows w All 3 (HMd w All d) v ms) (hw : wtS (wtMd d) ms ≤ 1048576) :
    Calls Tryz.prog 23 #[v, .agg #[.string q.mod, .string q.name, .int .i64 q.arity, .int .i64 q.clause]] w fun e w' => ∃ u, e = .returned u ∧ OwnS w' w.heap.size u (varsAt d ms q) ∧ Below w.heap.size w w' := by
  have HTAB : Hid (Tabs w) := hT
  have HR : Hid (∀ w', Below w.heap.size w w' → Rows w' All 3 (HMd w' All d) v ms) := fun w' hw => h.mono (SameOn.of_below hw) (fun _ h => h) (fun _ _ _ h => h.mono (SameOn.of_below hw) (fun _ h => h))
  have hm := @mkMap
  obtain ⟨W1, hW1⟩ : ∃ W1, W1 = (w.alloc (.cells #[.string q.mod, .string q.name, .int .i64 q.arity, .int .i64 q.clause] 41)).alloc (.map #[] 0) := ⟨_, rfl⟩
  have bA : Hid (Blk W1 w.heap.size #[.string q.mod, .string q.name, .int .i64 q.arity, .int .i64 q.clause] 41) := by show Blk _ _ _ _; rw [hW1]; exact Blk.new.alloc
  have B1 : Hid (Below w.heap.size w W1) := by show Below _ _ _; rw [hW1]; exact ((Below.refl _ _).alloc (Nat.le_refl _) _).alloc (by simp) _
  have M1 : Hid (MapAt W1 (w.heap.size + 1) []) := by
    have := MapAt.made (w.alloc (.cells #[.string q.mod, .string q.name, .int .i64 q.arity, .int .i64 q.clause] 41))
    rw [alloc_hs] at this
    show MapAt _ _ _; rw [hW1]; exact this
  have HW1 : Hid (W1 = (w.alloc (.cells #[.string q.mod, .string q.name, .int .i64 q.arity, .int .i64 q.clause] 41)).alloc (.map #[] 0)) := hW1
  have CP : Hid (Calls Tryz.prog 42 #[v] W1 fun e w'' => e = .returned (.bool (pgOk d ms)) ∧ Below W1.heap.size W1 w'') := implProgramOk_any d W1 v ms (HTAB.out.below B1.out) (HR.out _ B1.out)
  have HV : Hid (varsAt d ms q = if pgOk d ms then (match clauseOf ms q with
    | none => []
    | some c => sortS (clauseVars d c)) else []) := rfl
  have HWT : Hid (∀ c, clauseOf ms q = some c → 1 + wtCl (wtEx d) c ≤ 1048576) := fun c hc => Nat.le_trans (clauseOf_wt1 hc) hw
  have HPG : Hid (pgOk d ms = true → OneName ms) := pgOk_one
  obtain ⟨p, cap, rfl, -⟩ := h
  have CC : Hid (∀ w', Below w.heap.size w w' → OneName ms → Calls Tryz.prog 44 #[.slice p ms.length cap, .agg #[.string q.mod, .string q.name, .int .i64 q.arity, .int .i64 q.clause]] w' fun e w'' => ClQ d ms q (.slice p ms.length cap) w'' e ∧ Below w'.heap.size w' w'') := fun w' hb hu => clauseAt_any d w' _ ms q (HR.out _ hb) hu
  clear hW1 hw hT
  generalize ms.length = n at *
  generalize hX : varsAt d ms q = X at *
  clear hX
  generalize hP : pgOk d ms = P at *
  clear hP
  go_enter Tryz.func23, Tryz.ntmps23
  go_wp2_with fail
  rw [← HW1.out]
  refine CP.out.mono ?_
  rintro e w2 ⟨rfl, hb⟩
  have B2 : Hid (Below w.heap.size w w2) := B1.out.trans (hb.mono B1.out.size)
  have M2 : Hid (MapAt w2 (w.heap.size + 1) []) := M1.out.keep (hb.block _ M1.out.lt)
  have bA2 : Hid (Blk w2 w.heap.size #[.string q.mod, .string q.name, .int .i64 q.arity, .int .i64 q.clause] 41) := bA.out.next hb
  clear hb M1 B1 CP HW1 bA hm
  cases P with
  | false =>
    have HX : Hid (X = []) := by
      show X = []
      rw [HV.out]; rfl
    go_wp2_with fail
    refine (list_any w2 (w.heap.size + 1) [] [] M2.out (by simp) (by simp [NdK]) (by simp)).mono ?_
    rintro e w3 ⟨u, rfl, ho, hb⟩
    have HO : Hid (OwnS w3 w.heap.size u []) := ho.base B2.out.size
    have B3 : Hid (Below w.heap.size w w3) := B2.out.trans (hb.mono B2.out.size)
    clear ho hb
    go_wp2_with fail
    go_ret
    exact ⟨u, rfl, by rw [HX.out]; exact HO.out, B3.out⟩
  | true =>
    have y0 := bA2.out.cell 0 _ rfl
    have y1 := bA2.out.cell 1 _ rfl
    have y2 := bA2.out.cell 2 _ rfl
    have y3 := bA2.out.cell 3 _ rfl
    go_wp2_with fail
    refine (CC.out _ B2.out (HPG.out (by first | rfl | trivial))).mono ?_
    rintro e w3 ⟨hq, hb⟩
    have B3 : Hid (Below w.heap.size w w3) := B2.out.trans (hb.mono B2.out.size)
    have M3 : Hid (MapAt w3 (w.heap.size + 1) []) := M2.out.keep (hb.block _ M2.out.lt)
    clear hb y0 y1 y2 y3 M2 B2 bA2 CC
    rcases hq with ⟨rfl, hno⟩ | ⟨gc, o, c, rfl, hc, hP⟩
    · have HX : Hid (X = []) := by
        show X = []
        rw [HV.out, hno]; rfl
      clear hno
      go_wp2_with fail
      refine (list_any w3 (w.heap.size + 1) [] [] M3.out (by simp) (by simp [NdK]) (by simp)).mono ?_
      rintro e w4 ⟨u, rfl, ho, hb⟩
      have HO : Hid (OwnS w4 w.heap.size u []) := ho.base B3.out.size
      have B4 : Hid (Below w.heap.size w w4) := B3.out.trans (hb.mono B3.out.size)
      clear ho hb
      go_wp2_with fail
      go_ret
      exact ⟨u, rfl, by rw [HX.out]; exact HO.out, B4.out⟩
    · have HX : Hid (X = sortS (clauseVars d c)) := by
        show X = _
        rw [HV.out, hc]; rfl
      have HWC : Hid (1 + wtCl (wtEx d) c ≤ 1048576) := HWT.out c hc
      obtain ⟨_, _, _, _, _, _, -, _, _, _, -, -, hgc, -, -, cs, hcl, hcs, pv, bv, rfl, hp, hb⟩ := hP
      have RP : Hid (Rows w3 All 6 (HEx w3 (fun g => g ≠ w.heap.size + 1) d) pv c.1) := hp.mono ⟨Nat.le_refl _, fun _ _ _ => rfl⟩ (fun _ _ => trivial) (fun _ _ _ h => h.apart M3.out.nocell)
      have RB : Hid (Rows w3 All 6 (HEx w3 (fun g => g ≠ w.heap.size + 1) d) bv c.2) := hb.mono ⟨Nat.le_refl _, fun _ _ _ => rfl⟩ (fun _ _ => trivial) (fun _ _ _ h => h.apart M3.out.nocell)
      obtain ⟨p1, c1, rfl, -⟩ := hp
      obtain ⟨p2, c2, rfl, -⟩ := hb
      have a0 := hcs 0 (by omega)
      have a1 := hcs 1 (by omega)
      clear hcs
      have A0 : Hid (w3.cell? ⟨gc, o, none⟩ = some (.slice p1 c.1.length c1)) := by show _ = _; simpa using a0
      have A1 : Hid (w3.cell? ⟨gc, o + 1, none⟩ = some (.slice p2 c.2.length c2)) := by show _ = _; simpa using a1
      have HLL : Hid (c.1.length + c.2.length ≤ 1048576) := by
        have h1 : wtCl (wtEx d) c = wtS (wtEx d) c.1 + wtS (wtEx d) c.2 := rfl
        have h2 := HWC.out
        show _ ≤ _
        unfold wtS at h1
        omega
      clear hcl hc HWT a0 a1
      have K4 : Hid (Below w3.heap.size w3 (w3.alloc (.cells #[.slice p1 c.1.length c1, .slice p2 c.2.length c2] 76)).drew) := ((Below.refl _ _).alloc (Nat.le_refl _) _).drew
      have BK4 : Hid (Blk (w3.alloc (.cells #[.slice p1 c.1.length c1, .slice p2 c.2.length c2] 76)).drew w3.heap.size #[.slice p1 c.1.length c1, .slice p2 c.2.length c2] 76) := Blk.new
      have RP4 : Hid (Rows (w3.alloc (.cells #[.slice p1 c.1.length c1, .slice p2 c.2.length c2] 76)).drew All 6 (HEx w3 (fun g => g ≠ w.heap.size + 1) d) (.slice p1 c.1.length c1) c.1) := RP.out.mono (SameOn.of_below K4.out) (fun _ h => h) (fun _ _ _ h => h)
      have RB4 : Hid (Rows (w3.alloc (.cells #[.slice p1 c.1.length c1, .slice p2 c.2.length c2] 76)).drew All 6 (HEx w3 (fun g => g ≠ w.heap.size + 1) d) (.slice p2 c.2.length c2) c.2) := RB.out.mono (SameOn.of_below K4.out) (fun _ h => h) (fun _ _ _ h => h)
      have LT3 : Hid (w.heap.size + 1 < w3.heap.size) := M3.out.lt
      clear RP RB
      go_wp2_with fail
      have a0 := A0.out
      have a1 := A1.out
      go_region_held3 (fun w' => w'.cell? ⟨gc, o, none⟩ = some (.slice p1 c.1.length c1) ∧ w'.cell? ⟨gc, o + 1, none⟩ = some (.slice p2 c.2.length c2))
        (first | exact ⟨a0, a1⟩ | go_keep | (go_split_ands; refine ⟨?_, ?_⟩ <;> exact cell_next hb (by assumption)))
        ((go_at_call 45; refine (concatEx_any (HEx w3 (fun g => g ≠ w.heap.size + 1) d) exc_oneCell _ w3.heap.size p1 p2 c1 c2 c.1 c.2 BK4.out RP4.out RB4.out HLL.out).mono ?_; rintro e w5 ⟨u, rfl, ho, hb⟩; obtain ⟨pu, cu, hu, -⟩ := ho.slice; obtain ⟨ne, hnn⟩ : ∃ nn, (c.1 ++ c.2).length = nn := ⟨_, rfl⟩; rw [hnn] at hu; subst hu; have HNN : Hid ((c.1 ++ c.2).length = ne) := hnn; clear hnn; have HO5 : Hid (OwnG 88 6 (HEx w3 (fun g => g ≠ w.heap.size + 1) d) w5 w3.heap.size (.slice pu ne cu) (c.1 ++ c.2)) := ho.base K4.out.size; have K5 : Hid (Below w3.heap.size w3 w5) := K4.out.trans (hb.mono K4.out.size)))
      go_split_ands
      clear a0 a1 A0 A1 hb ho BK4 RP4 RB4 K4
      have B5 : Hid (Below w.heap.size w w5) := B3.out.trans (K5.out.mono B3.out.size)
      have M5 : Hid (MapAt w5 (w.heap.size + 1) []) := M3.out.keep (K5.out.block _ LT3.out)
      have HE5 : Hid (∀ cs x, HEx w3 (fun g => g ≠ w.heap.size + 1) d cs x → HEx w5 (fun g => g ≠ w.heap.size + 1) d cs x) := fun cs x h => h.mono (SameOn.of_below K5.out) (fun _ h => h)
      have HRW : Hid (Rows w5 (fun g => w3.heap.size ≤ g) 6 (HEx w3 (fun g => g ≠ w.heap.size + 1) d) (.slice pu ne cu) (c.1 ++ c.2)) := by
        exact ownG_low HO5.out
      have HNL : Hid (∀ k, (((c.1 ++ c.2).take k).flatMap (varL d)).length ≤ 1048576) := clauseL_len d c HWC.out
      have HFN : Hid (∀ K, K = (c.1 ++ c.2).flatMap (varL d) → ∀ x, x ∈ (clauseVars d c).map keyS ↔ x ∈ K) := fun K hK x => by rw [hK]; exact clauseL_all d c x
      have HND : Hid (NdK (clauseVars d c)) := clauseVars_nd d c
      generalize hes : c.1 ++ c.2 = es at *
      have HNE : Hid (es.length = ne) := HNN.out
      clear hes HO5 HNN
      obtain ⟨pu', cu', hpu, hcl5, hcm5, hx5⟩ := HRW.out
      simp only [Value.slice.injEq] at hpu
      obtain ⟨rfl, -, rfl⟩ := hpu
      have hnb : ne ≤ 9223372036854775807 := by unfold maxLen at hcm5; rw [HNE.out] at hcl5; omega
      have HX5 : Hid (es ≠ [] → ∃ g off, pu = some ⟨g, off, none⟩ ∧ w3.heap.size ≤ g ∧ g < w5.heap.size ∧ ∀ i x, es[i]? = some x → ∃ cs, cs.length = 6 ∧ (∀ j, j < 6 → w5.cell? ⟨g, off + i * 6 + j, none⟩ = cs[j]?) ∧ HEx w3 (fun g => g ≠ w.heap.size + 1) d cs x) := hx5
      clear hx5 hcl5 hcm5 HRW
      go_wp2_with fail
      go_loopw [31] (fun iv wr => ∃ k : Nat, k ≤ ne ∧ iv = .int .i64 k ∧ Hid (MapAt wr (w.heap.size + 1) ((es.take k).flatMap (varL d))) ∧ Hid (Off [w.heap.size + 1] w5 wr)) (fun iv _ => ne - (intOf iv).toNat)
      case atStart => exact ⟨0, Nat.zero_le _, rfl, by show MapAt _ _ _; simpa using M5.out, Off.refl _ _⟩
      case round =>
        obtain ⟨k, hk, rfl, hmk, hof⟩ := hrel
        by_cases hlt : k < ne
        · obtain ⟨x, hxk⟩ : ∃ x, es[k]? = some x := ⟨es[k]'(by rw [HNE.out]; exact hlt), List.getElem?_eq_getElem _⟩
          obtain ⟨g, off, rfl, hgB, hgl, hat⟩ := HX5.out (by intro h; rw [h] at hxk; simp at hxk)
          obtain ⟨xcs, hxl, hxcs, hxe⟩ := hat k x hxk
          have hgm : g ≠ w.heap.size + 1 := by have := LT3.out; omega
          have hgk : wr.heap[g]? = w5.heap[g]? := hof.out.block g hgl (by simpa using hgm)
          have HEX : Hid (HEx wr (fun g => g ≠ w.heap.size + 1) d xcs x) := (HE5.out xcs x hxe).offN hof.out
          obtain ⟨sk, sn, st, se, p3, n3, q3, p4, n4, q4, rfl⟩ := HEx.shapeN hxe
          have c0 := hxcs 0 (by omega)
          have c1 := hxcs 1 (by omega)
          have c2 := hxcs 2 (by omega)
          have c3 := hxcs 3 (by omega)
          have c4 := hxcs 4 (by omega)
          have c5 := hxcs 5 (by omega)
          clear hxcs hat
          rw [← World.cell?_of_block (w := w5) (w' := wr) (a := ⟨g, _, none⟩) hgk] at c0 c1 c2 c3 c4 c5
          simp at c0 c1 c2 c3 c4 c5
          have hki : (k : Int) < (ne : Int) := by omega
          have hk0 : (0 : Int) ≤ (k : Int) := by omega
          have HKS : Hid ((es.take (k + 1)).flatMap (varL d) = (es.take k).flatMap (varL d) ++ varL d x) := by
            show _ = _
            rw [List.take_add_one, hxk]
            simp
          have HKL : Hid (((es.take k).flatMap (varL d)).length + (varL d x).length ≤ 2097152) := by
            show _ ≤ _
            have h1 := HNL.out (k + 1)
            rw [HKS.out, List.length_append] at h1
            omega
          have K6 : Hid (Below wr.heap.size wr (wr.alloc (.cells #[.int .i64 sk, .int .i64 sn, .string st, .string se, .slice p3 n3 q3, .slice p4 n4 q4] 88))) := (Below.refl _ _).alloc (Nat.le_refl _) _
          clear hxl hxe hgk
          go_wp2_with fail
          refine (eachVar_any _ (w.heap.size + 1) d _ x ((es.take k).flatMap (varL d)) (HEX.out.offN (Off.of_below K6.out)) (hmk.out.keep (K6.out.block _ hmk.out.lt)) HKL.out).mono ?_
          rintro e w7 ⟨rfl, hm7, ho7⟩
          have M7 : Hid (MapAt w7 (w.heap.size + 1) ((es.take (k + 1)).flatMap (varL d))) := by show MapAt _ _ _; rw [HKS.out]; exact hm7
          have O7 : Hid (Off [w.heap.size + 1] w5 w7) := hof.out.trans ((Off.of_below K6.out).trans ho7)
          clear hm7 ho7 c0 c1 c2 c3 c4 c5 K6
          go_wp2_with fail
          exact ⟨⟨k + 1, by omega, by go_num, M7.out, O7.out⟩, by simp [intOf]; omega⟩
        · have hek : es.take k = es := List.take_of_length_le (by rw [HNE.out]; omega)
          rw [hek] at hmk
          have HLE : Hid ((es.flatMap (varL d)).length ≤ 4194304) := by
            have := HNL.out k
            rw [hek] at this
            show _ ≤ _
            omega
          have B8 : Hid (Below w.heap.size w wr) := B5.out.trans (hof.out.below (by simp) B5.out.size)
          clear hek
          go_wp2_with fail
          refine (list_any wr (w.heap.size + 1) (es.flatMap (varL d)) (clauseVars d c) hmk.out HLE.out HND.out (HFN.out _ rfl)).mono ?_
          rintro e w9 ⟨u, rfl, ho, hb⟩
          have HO : Hid (OwnS w9 w.heap.size u (sortS (clauseVars d c))) := ho.base B8.out.size
          have B9 : Hid (Below w.heap.size w w9) := B8.out.trans (hb.mono B8.out.size)
          clear ho hb
          go_wp2_with fail
          go_ret
          exact ⟨u, rfl, by rw [HX.out]; exact HO.out, B9.out⟩
end Go.Proofs.YtihffcphbcepoaaGreatDoor
/-
  How great a module is: the laws' szModule tells its weight, and -1 where that is more than what is left.
-/
namespace Go.Proofs.YtihffcphbcepoaaGreatDoor
open Go.ChangeShapes Go.WideShapes Go.ChangeAt Go.RowKit
set_option linter.unusedVariables false

variable {N : Nat}

set_option maxHeartbeats 2000000 in
theorem szExpS_of {d : Nat} (hE : SzC 219 (fun w v e => ∃ cs, v = .agg cs.toArray ∧ HEx w (fun g => g < N) d cs e) (wtEx d)) :
    SzC 198 (fun w v es => Rows w (fun g => g < N) 6 (HEx w (fun g => g < N) d) v es) (wtS (wtEx d)) := by
  intro w v es left h hl
  obtain ⟨p, cap, rfl, hcl, hcm, hx⟩ := h
  generalize hn : es.length = n at *
  have HN : Hid (es.length = n) := hn
  have HX : Hid _ := hx
  have hnb : n ≤ 9223372036854775807 := by unfold maxLen at hcm; omega
  clear hx hn
  by_cases h0 : left < n
  · have hr : leftOf left (wtS (wtEx d) es) = -1 := leftOf_lt (by unfold wtS; rw [HN.out]; omega)
    have HR : Hid (leftOf left (wtS (wtEx d) es) = -1) := hr
    clear hr
    go_enter Tryz.func198, Tryz.ntmps198
    go_wp2
    go_ret
    exact ⟨by rw [HR.out]; rfl, Below.refl _ _⟩
  · go_enter Tryz.func198, Tryz.ntmps198
    go_wp2
    go_loopw [1, 5] (fun lv iv wr => ∃ k r : Nat, k ≤ n ∧ iv = .int .i64 k ∧ lv = .int .i64 r ∧ Hid (r + n + ((es.take k).map (wtEx d)).sum = left) ∧ Below w.heap.size w wr) (fun _ iv _ => n - (intOf iv).toNat)
    case atStart => exact ⟨0, left - n, Nat.zero_le _, rfl, by go_num, (by show left - n + n + _ = left; simp; omega), Below.refl _ _⟩
    case round =>
      obtain ⟨k, r, hk, rfl, rfl, hrs, hb⟩ := hrel
      have HB : Hid (Below w.heap.size w wr) := hb
      by_cases hlt : k < n
      · obtain ⟨x, hxk⟩ : ∃ x, es[k]? = some x := ⟨es[k]'(by rw [HN.out]; exact hlt), List.getElem?_eq_getElem _⟩
        obtain ⟨g, off, rfl, hg, hgl, hat⟩ := HX.out (by intro h; rw [h] at hxk; simp at hxk)
        obtain ⟨cs, hcl6, hcs, hex⟩ := hat k x hxk
        have hex' : HEx wr (fun g => g < N) d cs x := hex.mono (SameOn.of_below hb) (fun _ h => h)
        obtain ⟨c0, c1, c2, c3, c4, c5, rfl⟩ := len6 hcl6
        have a0 := hcs 0 (by omega)
        have a1 := hcs 1 (by omega)
        have a2 := hcs 2 (by omega)
        have a3 := hcs 3 (by omega)
        have a4 := hcs 4 (by omega)
        have a5 := hcs 5 (by omega)
        rw [← hb.cell (p := ⟨g, _, none⟩) hgl] at a0 a1 a2 a3 a4 a5
        simp at a0 a1 a2 a3 a4 a5
        clear hb hcs hat hex hcl6
        have hrb : r ≤ 1048576 := by have := hrs.out; omega
        have hst := sum_take_succ (wtEx d) es k x hxk
        have HST : Hid (((es.take (k + 1)).map (wtEx d)).sum = ((es.take k).map (wtEx d)).sum + wtEx d x) := hst
        have hle := sum_take_le (wtEx d) es (k + 1)
        have HLE : Hid (((es.take (k + 1)).map (wtEx d)).sum ≤ (es.map (wtEx d)).sum) := hle
        clear hst hle
        generalize hwx : wtEx d x = y at *
        have HY : Hid (wtEx d x = y) := hwx
        by_cases hy : r < y
        · have hr : leftOf left (wtS (wtEx d) es) = -1 := leftOf_lt (by unfold wtS; have := hrs.out; have := HLE.out; have := HST.out; rw [HN.out]; omega)
          have HR : Hid (leftOf left (wtS (wtEx d) es) = -1) := hr
          have hr2 : leftOf r y = -1 := leftOf_lt hy
          clear hr hwx
          go_wp2_with (go_at_call 219; go_must (refine (hE _ _ x r ⟨_, rfl, hex'⟩ hrb).mono ?_; rintro e w1 ⟨rfl, hb1⟩; rw [HY.out, hr2]; have HB1 : Hid _ := hb1; clear hb1))
          go_ret
          exact ⟨by rw [HR.out]; rfl, HB.out.trans (HB1.out.mono HB.out.size)⟩
        · have hr2 : leftOf r y = ((r - y : Nat) : Int) := leftOf_ge (by omega)
          clear hwx
          go_wp2_with (go_at_call 219; go_must (refine (hE _ _ x r ⟨_, rfl, hex'⟩ hrb).mono ?_; rintro e w1 ⟨rfl, hb1⟩; rw [HY.out, hr2]; have HB1 : Hid _ := hb1; clear hb1))
          exact ⟨⟨k + 1, r - y, by omega, by go_num, rfl, (by have := hrs.out; have := HST.out; show r - y + n + _ = left; omega), HB.out.trans (HB1.out.mono HB.out.size)⟩, by simp [intOf]; omega⟩
      · have hr : leftOf left (wtS (wtEx d) es) = (r : Int) := by
          have h1 := hrs.out
          rw [List.take_of_length_le (by rw [HN.out]; omega)] at h1
          rw [leftOf_ge (by unfold wtS; rw [HN.out]; omega)]
          unfold wtS; rw [HN.out]; omega
        have HR : Hid (leftOf left (wtS (wtEx d) es) = (r : Int)) := hr
        clear hr
        go_wp2
        go_ret
        exact ⟨by rw [HR.out]; rfl, HB.out⟩

set_option maxHeartbeats 2000000 in
theorem szClauseS_of {d : Nat} (hE : SzC 165 (fun w v e => ∃ cs, v = .agg cs.toArray ∧ HCl w (fun g => g < N) (HEx w (fun g => g < N) d) cs e) (wtCl (wtEx d))) :
    SzC 125 (fun w v es => Rows w (fun g => g < N) 2 (HCl w (fun g => g < N) (HEx w (fun g => g < N) d)) v es) (wtS (wtCl (wtEx d))) := by
  intro w v es left h hl
  obtain ⟨p, cap, rfl, hcl, hcm, hx⟩ := h
  generalize hn : es.length = n at *
  have HN : Hid (es.length = n) := hn
  have HX : Hid _ := hx
  have hnb : n ≤ 9223372036854775807 := by unfold maxLen at hcm; omega
  clear hx hn
  by_cases h0 : left < n
  · have hr : leftOf left (wtS (wtCl (wtEx d)) es) = -1 := leftOf_lt (by unfold wtS; rw [HN.out]; omega)
    have HR : Hid (leftOf left (wtS (wtCl (wtEx d)) es) = -1) := hr
    clear hr
    go_enter Tryz.func125, Tryz.ntmps125
    go_wp2
    go_ret
    exact ⟨by rw [HR.out]; rfl, Below.refl _ _⟩
  · go_enter Tryz.func125, Tryz.ntmps125
    go_wp2
    go_loopw [1, 5] (fun lv iv wr => ∃ k r : Nat, k ≤ n ∧ iv = .int .i64 k ∧ lv = .int .i64 r ∧ Hid (r + n + ((es.take k).map (wtCl (wtEx d))).sum = left) ∧ Below w.heap.size w wr) (fun _ iv _ => n - (intOf iv).toNat)
    case atStart => exact ⟨0, left - n, Nat.zero_le _, rfl, by go_num, (by show left - n + n + _ = left; simp; omega), Below.refl _ _⟩
    case round =>
      obtain ⟨k, r, hk, rfl, rfl, hrs, hb⟩ := hrel
      have HB : Hid (Below w.heap.size w wr) := hb
      by_cases hlt : k < n
      · obtain ⟨x, hxk⟩ : ∃ x, es[k]? = some x := ⟨es[k]'(by rw [HN.out]; exact hlt), List.getElem?_eq_getElem _⟩
        obtain ⟨g, off, rfl, hg, hgl, hat⟩ := HX.out (by intro h; rw [h] at hxk; simp at hxk)
        obtain ⟨cs, hcl6, hcs, hex⟩ := hat k x hxk
        have hex' : HCl wr (fun g => g < N) (HEx wr (fun g => g < N) d) cs x := hex.mono (SameOn.of_below hb) (fun _ h => h) (fun _ _ => HEx.mono (SameOn.of_below hb) (fun _ h => h))
        obtain ⟨c0, c1, rfl⟩ := len2 hcl6
        have a0 := hcs 0 (by omega)
        have a1 := hcs 1 (by omega)
        rw [← hb.cell (p := ⟨g, _, none⟩) hgl] at a0 a1
        simp at a0 a1
        clear hb hcs hat hex hcl6
        have hrb : r ≤ 1048576 := by have := hrs.out; omega
        have hst := sum_take_succ (wtCl (wtEx d)) es k x hxk
        have HST : Hid (((es.take (k + 1)).map (wtCl (wtEx d))).sum = ((es.take k).map (wtCl (wtEx d))).sum + wtCl (wtEx d) x) := hst
        have hle := sum_take_le (wtCl (wtEx d)) es (k + 1)
        have HLE : Hid (((es.take (k + 1)).map (wtCl (wtEx d))).sum ≤ (es.map (wtCl (wtEx d))).sum) := hle
        clear hst hle
        generalize hwx : wtCl (wtEx d) x = y at *
        have HY : Hid (wtCl (wtEx d) x = y) := hwx
        by_cases hy : r < y
        · have hr : leftOf left (wtS (wtCl (wtEx d)) es) = -1 := leftOf_lt (by unfold wtS; have := hrs.out; have := HLE.out; have := HST.out; rw [HN.out]; omega)
          have HR : Hid (leftOf left (wtS (wtCl (wtEx d)) es) = -1) := hr
          have hr2 : leftOf r y = -1 := leftOf_lt hy
          clear hr hwx
          go_wp2_with (go_at_call 165; go_must (refine (hE _ _ x r ⟨_, rfl, hex'⟩ hrb).mono ?_; rintro e w1 ⟨rfl, hb1⟩; rw [HY.out, hr2]; have HB1 : Hid _ := hb1; clear hb1))
          go_ret
          exact ⟨by rw [HR.out]; rfl, HB.out.trans (HB1.out.mono HB.out.size)⟩
        · have hr2 : leftOf r y = ((r - y : Nat) : Int) := leftOf_ge (by omega)
          clear hwx
          go_wp2_with (go_at_call 165; go_must (refine (hE _ _ x r ⟨_, rfl, hex'⟩ hrb).mono ?_; rintro e w1 ⟨rfl, hb1⟩; rw [HY.out, hr2]; have HB1 : Hid _ := hb1; clear hb1))
          exact ⟨⟨k + 1, r - y, by omega, by go_num, rfl, (by have := hrs.out; have := HST.out; show r - y + n + _ = left; omega), HB.out.trans (HB1.out.mono HB.out.size)⟩, by simp [intOf]; omega⟩
      · have hr : leftOf left (wtS (wtCl (wtEx d)) es) = (r : Int) := by
          have h1 := hrs.out
          rw [List.take_of_length_le (by rw [HN.out]; omega)] at h1
          rw [leftOf_ge (by unfold wtS; rw [HN.out]; omega)]
          unfold wtS; rw [HN.out]; omega
        have HR : Hid (leftOf left (wtS (wtCl (wtEx d)) es) = (r : Int)) := hr
        clear hr
        go_wp2
        go_ret
        exact ⟨by rw [HR.out]; rfl, HB.out⟩

set_option maxHeartbeats 2000000 in
theorem szFunS_of {d : Nat} (hE : SzC 86 (fun w v e => ∃ cs, v = .agg cs.toArray ∧ HFn w (fun g => g < N) d cs e) (wtFn d)) :
    SzC 49 (fun w v es => Rows w (fun g => g < N) 3 (HFn w (fun g => g < N) d) v es) (wtS (wtFn d)) := by
  intro w v es left h hl
  obtain ⟨p, cap, rfl, hcl, hcm, hx⟩ := h
  generalize hn : es.length = n at *
  have HN : Hid (es.length = n) := hn
  have HX : Hid _ := hx
  have hnb : n ≤ 9223372036854775807 := by unfold maxLen at hcm; omega
  clear hx hn
  by_cases h0 : left < n
  · have hr : leftOf left (wtS (wtFn d) es) = -1 := leftOf_lt (by unfold wtS; rw [HN.out]; omega)
    have HR : Hid (leftOf left (wtS (wtFn d) es) = -1) := hr
    clear hr
    go_enter Tryz.func49, Tryz.ntmps49
    go_wp2
    go_ret
    exact ⟨by rw [HR.out]; rfl, Below.refl _ _⟩
  · go_enter Tryz.func49, Tryz.ntmps49
    go_wp2
    go_loopw [1, 5] (fun lv iv wr => ∃ k r : Nat, k ≤ n ∧ iv = .int .i64 k ∧ lv = .int .i64 r ∧ Hid (r + n + ((es.take k).map (wtFn d)).sum = left) ∧ Below w.heap.size w wr) (fun _ iv _ => n - (intOf iv).toNat)
    case atStart => exact ⟨0, left - n, Nat.zero_le _, rfl, by go_num, (by show left - n + n + _ = left; simp; omega), Below.refl _ _⟩
    case round =>
      obtain ⟨k, r, hk, rfl, rfl, hrs, hb⟩ := hrel
      have HB : Hid (Below w.heap.size w wr) := hb
      by_cases hlt : k < n
      · obtain ⟨x, hxk⟩ : ∃ x, es[k]? = some x := ⟨es[k]'(by rw [HN.out]; exact hlt), List.getElem?_eq_getElem _⟩
        obtain ⟨g, off, rfl, hg, hgl, hat⟩ := HX.out (by intro h; rw [h] at hxk; simp at hxk)
        obtain ⟨cs, hcl6, hcs, hex⟩ := hat k x hxk
        have hex' : HFn wr (fun g => g < N) d cs x := hex.mono (SameOn.of_below hb) (fun _ h => h)
        obtain ⟨c0, c1, c2, rfl⟩ := len3 hcl6
        have a0 := hcs 0 (by omega)
        have a1 := hcs 1 (by omega)
        have a2 := hcs 2 (by omega)
        rw [← hb.cell (p := ⟨g, _, none⟩) hgl] at a0 a1 a2
        simp at a0 a1 a2
        clear hb hcs hat hex hcl6
        have hrb : r ≤ 1048576 := by have := hrs.out; omega
        have hst := sum_take_succ (wtFn d) es k x hxk
        have HST : Hid (((es.take (k + 1)).map (wtFn d)).sum = ((es.take k).map (wtFn d)).sum + wtFn d x) := hst
        have hle := sum_take_le (wtFn d) es (k + 1)
        have HLE : Hid (((es.take (k + 1)).map (wtFn d)).sum ≤ (es.map (wtFn d)).sum) := hle
        clear hst hle
        generalize hwx : wtFn d x = y at *
        have HY : Hid (wtFn d x = y) := hwx
        by_cases hy : r < y
        · have hr : leftOf left (wtS (wtFn d) es) = -1 := leftOf_lt (by unfold wtS; have := hrs.out; have := HLE.out; have := HST.out; rw [HN.out]; omega)
          have HR : Hid (leftOf left (wtS (wtFn d) es) = -1) := hr
          have hr2 : leftOf r y = -1 := leftOf_lt hy
          clear hr hwx
          go_wp2_with (go_at_call 86; go_must (refine (hE _ _ x r ⟨_, rfl, hex'⟩ hrb).mono ?_; rintro e w1 ⟨rfl, hb1⟩; rw [HY.out, hr2]; have HB1 : Hid _ := hb1; clear hb1))
          go_ret
          exact ⟨by rw [HR.out]; rfl, HB.out.trans (HB1.out.mono HB.out.size)⟩
        · have hr2 : leftOf r y = ((r - y : Nat) : Int) := leftOf_ge (by omega)
          clear hwx
          go_wp2_with (go_at_call 86; go_must (refine (hE _ _ x r ⟨_, rfl, hex'⟩ hrb).mono ?_; rintro e w1 ⟨rfl, hb1⟩; rw [HY.out, hr2]; have HB1 : Hid _ := hb1; clear hb1))
          exact ⟨⟨k + 1, r - y, by omega, by go_num, rfl, (by have := hrs.out; have := HST.out; show r - y + n + _ = left; omega), HB.out.trans (HB1.out.mono HB.out.size)⟩, by simp [intOf]; omega⟩
      · have hr : leftOf left (wtS (wtFn d) es) = (r : Int) := by
          have h1 := hrs.out
          rw [List.take_of_length_le (by rw [HN.out]; omega)] at h1
          rw [leftOf_ge (by unfold wtS; rw [HN.out]; omega)]
          unfold wtS; rw [HN.out]; omega
        have HR : Hid (leftOf left (wtS (wtFn d) es) = (r : Int)) := hr
        clear hr
        go_wp2
        go_ret
        exact ⟨by rw [HR.out]; rfl, HB.out⟩

set_option maxHeartbeats 2000000 in
theorem szRefS_of {d : Nat} (hE : SzC 85 (fun w v e => ∃ cs, v = .agg cs.toArray ∧ HRf cs e) (wtRf)) :
    SzC 48 (fun w v es => Rows w (fun g => g < N) 2 (HRf) v es) (wtS (wtRf)) := by
  intro w v es left h hl
  obtain ⟨p, cap, rfl, hcl, hcm, hx⟩ := h
  generalize hn : es.length = n at *
  have HN : Hid (es.length = n) := hn
  have HX : Hid _ := hx
  have hnb : n ≤ 9223372036854775807 := by unfold maxLen at hcm; omega
  clear hx hn
  by_cases h0 : left < n
  · have hr : leftOf left (wtS (wtRf) es) = -1 := leftOf_lt (by unfold wtS; rw [HN.out]; omega)
    have HR : Hid (leftOf left (wtS (wtRf) es) = -1) := hr
    clear hr
    go_enter Tryz.func48, Tryz.ntmps48
    go_wp2
    go_ret
    exact ⟨by rw [HR.out]; rfl, Below.refl _ _⟩
  · go_enter Tryz.func48, Tryz.ntmps48
    go_wp2
    go_loopw [1, 5] (fun lv iv wr => ∃ k r : Nat, k ≤ n ∧ iv = .int .i64 k ∧ lv = .int .i64 r ∧ Hid (r + n + ((es.take k).map (wtRf)).sum = left) ∧ Below w.heap.size w wr) (fun _ iv _ => n - (intOf iv).toNat)
    case atStart => exact ⟨0, left - n, Nat.zero_le _, rfl, by go_num, (by show left - n + n + _ = left; simp; omega), Below.refl _ _⟩
    case round =>
      obtain ⟨k, r, hk, rfl, rfl, hrs, hb⟩ := hrel
      have HB : Hid (Below w.heap.size w wr) := hb
      by_cases hlt : k < n
      · obtain ⟨x, hxk⟩ : ∃ x, es[k]? = some x := ⟨es[k]'(by rw [HN.out]; exact hlt), List.getElem?_eq_getElem _⟩
        obtain ⟨g, off, rfl, hg, hgl, hat⟩ := HX.out (by intro h; rw [h] at hxk; simp at hxk)
        obtain ⟨cs, hcl6, hcs, hex⟩ := hat k x hxk
        have hex' : HRf cs x := hex
        obtain ⟨c0, c1, rfl⟩ := len2 hcl6
        have a0 := hcs 0 (by omega)
        have a1 := hcs 1 (by omega)
        rw [← hb.cell (p := ⟨g, _, none⟩) hgl] at a0 a1
        simp at a0 a1
        clear hb hcs hat hex hcl6
        have hrb : r ≤ 1048576 := by have := hrs.out; omega
        have hst := sum_take_succ (wtRf) es k x hxk
        have HST : Hid (((es.take (k + 1)).map (wtRf)).sum = ((es.take k).map (wtRf)).sum + wtRf x) := hst
        have hle := sum_take_le (wtRf) es (k + 1)
        have HLE : Hid (((es.take (k + 1)).map (wtRf)).sum ≤ (es.map (wtRf)).sum) := hle
        clear hst hle
        generalize hwx : wtRf x = y at *
        have HY : Hid (wtRf x = y) := hwx
        by_cases hy : r < y
        · have hr : leftOf left (wtS (wtRf) es) = -1 := leftOf_lt (by unfold wtS; have := hrs.out; have := HLE.out; have := HST.out; rw [HN.out]; omega)
          have HR : Hid (leftOf left (wtS (wtRf) es) = -1) := hr
          have hr2 : leftOf r y = -1 := leftOf_lt hy
          clear hr hwx
          go_wp2_with (go_at_call 85; go_must (refine (hE _ _ x r ⟨_, rfl, hex'⟩ hrb).mono ?_; rintro e w1 ⟨rfl, hb1⟩; rw [HY.out, hr2]; have HB1 : Hid _ := hb1; clear hb1))
          go_ret
          exact ⟨by rw [HR.out]; rfl, HB.out.trans (HB1.out.mono HB.out.size)⟩
        · have hr2 : leftOf r y = ((r - y : Nat) : Int) := leftOf_ge (by omega)
          clear hwx
          go_wp2_with (go_at_call 85; go_must (refine (hE _ _ x r ⟨_, rfl, hex'⟩ hrb).mono ?_; rintro e w1 ⟨rfl, hb1⟩; rw [HY.out, hr2]; have HB1 : Hid _ := hb1; clear hb1))
          exact ⟨⟨k + 1, r - y, by omega, by go_num, rfl, (by have := hrs.out; have := HST.out; show r - y + n + _ = left; omega), HB.out.trans (HB1.out.mono HB.out.size)⟩, by simp [intOf]; omega⟩
      · have hr : leftOf left (wtS (wtRf) es) = (r : Int) := by
          have h1 := hrs.out
          rw [List.take_of_length_le (by rw [HN.out]; omega)] at h1
          rw [leftOf_ge (by unfold wtS; rw [HN.out]; omega)]
          unfold wtS; rw [HN.out]; omega
        have HR : Hid (leftOf left (wtS (wtRf) es) = (r : Int)) := hr
        clear hr
        go_wp2
        go_ret
        exact ⟨by rw [HR.out]; rfl, HB.out⟩

set_option maxHeartbeats 2000000 in
theorem szExp_of {d : Nat} (h1 : SzC 198 (fun w v es => Rows w (fun g => g < N) 6 (HEx w (fun g => g < N) d) v es) (wtS (wtEx d))) (h2 : SzC 125 (fun w v es => Rows w (fun g => g < N) 2 (HCl w (fun g => g < N) (HEx w (fun g => g < N) d)) v es) (wtS (wtCl (wtEx d)))) :
    SzC 219 (fun w v e => ∃ cs, v = .agg cs.toArray ∧ HEx w (fun g => g < N) (d + 1) cs e) (wtEx (d + 1)) := by
  intro w v e left h hl
  obtain ⟨cs, rfl, kv, cv, rfl, hk, hn, ht, hm, hks, hcs⟩ := h
  have hb0 : e.text.size ≤ 9223372036854775807 := by have := ht; unfold okS maxLen at this; omega
  have hb1 : e.mod.size ≤ 9223372036854775807 := by have := hm; unfold okS maxLen at this; omega
  have hal : SameOn (fun g => g < N) w (w.alloc (.cells #[.int .i64 e.kind, .int .i64 e.n, .string e.text, .string e.mod, kv, cv] 262)) := SameOn.of_below ((Below.refl _ _).alloc (Nat.le_refl _) _)
  replace hks := hks.mono hal (fun _ h => h) (fun _ _ _ => HEx.mono hal (fun _ h => h))
  replace hcs := hcs.mono hal (fun _ h => h) (fun _ _ _ h => h.mono hal (fun _ h => h) (fun _ _ => HEx.mono hal (fun _ h => h)))
  have HW : Hid (wtEx (d + 1) e = e.text.size + e.mod.size + wtS (wtEx d) e.kids + wtS (wtCl (wtEx d)) e.clauses) := rfl
  generalize wtEx (d + 1) e = W at *
  have hx0 : ∃ x0 : Nat, e.text.size = x0 := ⟨_, rfl⟩
  obtain ⟨x0, hx0⟩ := hx0
  rw [hx0] at hb0
  have hx1 : ∃ x1 : Nat, e.mod.size = x1 := ⟨_, rfl⟩
  obtain ⟨x1, hx1⟩ := hx1
  rw [hx1] at hb1
  generalize hx2 : wtS (wtEx d) e.kids = x2 at *
  have HX2 : Hid (wtS (wtEx d) e.kids = x2) := hx2
  clear hx2
  generalize hx3 : wtS (wtCl (wtEx d)) e.clauses = x3 at *
  have HX3 : Hid (wtS (wtCl (wtEx d)) e.clauses = x3) := hx3
  clear hx3
  by_cases t0 : left < x0
  · have HR : Hid (leftOf left W = -1) := by
      have := HW.out
      show leftOf left W = _
      exact leftOf_lt (by omega)
    clear HW
    go_enter Tryz.func219, Tryz.ntmps219
    go_wp2
    go_ret
    exact ⟨by rw [HR.out]; first | rfl | (congr 2; omega) | (simp; omega), ((Below.refl _ _).alloc (Nat.le_refl _) _)⟩
  by_cases t1 : left - x0 < x1
  · have HR : Hid (leftOf left W = -1) := by
      have := HW.out
      show leftOf left W = _
      exact leftOf_lt (by omega)
    clear HW
    go_enter Tryz.func219, Tryz.ntmps219
    go_wp2
    go_ret
    exact ⟨by rw [HR.out]; first | rfl | (congr 2; omega) | (simp; omega), ((Below.refl _ _).alloc (Nat.le_refl _) _)⟩
  by_cases t2 : left - x0 - x1 < x2
  · have HR : Hid (leftOf left W = -1) := by
      have := HW.out
      show leftOf left W = _
      exact leftOf_lt (by omega)
    have hr2 : leftOf (left - x0 - x1) x2 = -1 := leftOf_lt t2
    clear HW
    go_enter Tryz.func219, Tryz.ntmps219
    go_wp2_with (first | (go_at_call 198; go_must (refine (h1.at (w := _) (v := _) e.kids _ (left - x0 - x1) (by omega) hks (by omega)).mono ?_; rintro e w2 ⟨rfl, hb2⟩; rw [HX2.out, hr2]; have HB2 : Hid _ := hb2; have hk2 := (hb2.cell (p := ⟨w.heap.size, 5, none⟩) (by simp)).trans (cell_new _ _ _ 5 cv rfl); clear hb2)) )
    go_ret
    exact ⟨by rw [HR.out]; first | rfl | (congr 2; omega) | (simp; omega), (((Below.refl _ _).alloc (Nat.le_refl _) _).trans (HB2.out.mono ((Below.refl _ _).alloc (Nat.le_refl _) _).size))⟩
  by_cases t3 : left - x0 - x1 - x2 < x3
  · have HR : Hid (leftOf left W = -1) := by
      have := HW.out
      show leftOf left W = _
      exact leftOf_lt (by omega)
    have hr2 : leftOf (left - x0 - x1) x2 = ((left - x0 - x1 - x2 : Nat) : Int) := by rw [leftOf_ge (by omega)]
    have hr3 : leftOf (left - x0 - x1 - x2) x3 = -1 := leftOf_lt t3
    clear HW
    go_enter Tryz.func219, Tryz.ntmps219
    go_wp2_with (first | (go_at_call 125; go_must (refine (h2.at (w := _) (v := _) e.clauses _ (left - x0 - x1 - x2) (by omega) (hcs.mono (SameOn.of_below HB2.out) (fun _ h => h) (fun _ _ _ h => h.mono (SameOn.of_below HB2.out) (fun _ h => h) (fun _ _ => HEx.mono (SameOn.of_below HB2.out) (fun _ h => h)))) (by omega)).mono ?_; rintro e w3 ⟨rfl, hb3⟩; rw [HX3.out, hr3]; have HB3 : Hid _ := hb3; clear hb3)) | (go_at_call 198; go_must (refine (h1.at (w := _) (v := _) e.kids _ (left - x0 - x1) (by omega) hks (by omega)).mono ?_; rintro e w2 ⟨rfl, hb2⟩; rw [HX2.out, hr2]; have HB2 : Hid _ := hb2; have hk2 := (hb2.cell (p := ⟨w.heap.size, 5, none⟩) (by simp)).trans (cell_new _ _ _ 5 cv rfl); clear hb2)) )
    go_ret
    exact ⟨by rw [HR.out]; first | rfl | (congr 2; omega) | (simp; omega), ((((Below.refl _ _).alloc (Nat.le_refl _) _).trans (HB2.out.mono ((Below.refl _ _).alloc (Nat.le_refl _) _).size)).trans (HB3.out.mono (((Below.refl _ _).alloc (Nat.le_refl _) _).trans (HB2.out.mono ((Below.refl _ _).alloc (Nat.le_refl _) _).size)).size))⟩
  have HR : Hid (leftOf left W = ((left - x0 - x1 - x2 - x3 : Nat) : Int)) := by
    have := HW.out
    show leftOf left W = _
    rw [leftOf_ge (by omega)]; omega
  have hr2 : leftOf (left - x0 - x1) x2 = ((left - x0 - x1 - x2 : Nat) : Int) := by rw [leftOf_ge (by omega)]
  have hr3 : leftOf (left - x0 - x1 - x2) x3 = ((left - x0 - x1 - x2 - x3 : Nat) : Int) := by rw [leftOf_ge (by omega)]
  clear HW
  go_enter Tryz.func219, Tryz.ntmps219
  go_wp2_with (first | (go_at_call 125; go_must (refine (h2.at (w := _) (v := _) e.clauses _ (left - x0 - x1 - x2) (by omega) (hcs.mono (SameOn.of_below HB2.out) (fun _ h => h) (fun _ _ _ h => h.mono (SameOn.of_below HB2.out) (fun _ h => h) (fun _ _ => HEx.mono (SameOn.of_below HB2.out) (fun _ h => h)))) (by omega)).mono ?_; rintro e w3 ⟨rfl, hb3⟩; rw [HX3.out, hr3]; have HB3 : Hid _ := hb3; clear hb3)) | (go_at_call 198; go_must (refine (h1.at (w := _) (v := _) e.kids _ (left - x0 - x1) (by omega) hks (by omega)).mono ?_; rintro e w2 ⟨rfl, hb2⟩; rw [HX2.out, hr2]; have HB2 : Hid _ := hb2; have hk2 := (hb2.cell (p := ⟨w.heap.size, 5, none⟩) (by simp)).trans (cell_new _ _ _ 5 cv rfl); clear hb2)) )
  go_ret
  exact ⟨by rw [HR.out]; first | rfl | (congr 2; omega) | (simp; omega), ((((Below.refl _ _).alloc (Nat.le_refl _) _).trans (HB2.out.mono ((Below.refl _ _).alloc (Nat.le_refl _) _).size)).trans (HB3.out.mono (((Below.refl _ _).alloc (Nat.le_refl _) _).trans (HB2.out.mono ((Below.refl _ _).alloc (Nat.le_refl _) _).size)).size))⟩

set_option maxHeartbeats 2000000 in
theorem szClause_of {d : Nat} (h1 : SzC 198 (fun w v es => Rows w (fun g => g < N) 6 (HEx w (fun g => g < N) d) v es) (wtS (wtEx d))) (h2 : SzC 198 (fun w v es => Rows w (fun g => g < N) 6 (HEx w (fun g => g < N) d) v es) (wtS (wtEx d))) :
    SzC 165 (fun w v e => ∃ cs, v = .agg cs.toArray ∧ HCl w (fun g => g < N) (HEx w (fun g => g < N) d) cs e) (wtCl (wtEx d)) := by
  intro w v e left h hl
  obtain ⟨cs, rfl, kv, cv, rfl, hks, hcs⟩ := h
  have hal : SameOn (fun g => g < N) w (w.alloc (.cells #[kv, cv] 219)) := SameOn.of_below ((Below.refl _ _).alloc (Nat.le_refl _) _)
  replace hks := hks.mono hal (fun _ h => h) (fun _ _ _ => HEx.mono hal (fun _ h => h))
  replace hcs := hcs.mono hal (fun _ h => h) (fun _ _ _ => HEx.mono hal (fun _ h => h))
  have HW : Hid (wtCl (wtEx d) e = wtS (wtEx d) e.1 + wtS (wtEx d) e.2) := rfl
  generalize wtCl (wtEx d) e = W at *
  generalize hx0 : wtS (wtEx d) e.1 = x0 at *
  have HX0 : Hid (wtS (wtEx d) e.1 = x0) := hx0
  clear hx0
  generalize hx1 : wtS (wtEx d) e.2 = x1 at *
  have HX1 : Hid (wtS (wtEx d) e.2 = x1) := hx1
  clear hx1
  by_cases t0 : left < x0
  · have HR : Hid (leftOf left W = -1) := by
      have := HW.out
      show leftOf left W = _
      exact leftOf_lt (by omega)
    have hr0 : leftOf (left) x0 = -1 := leftOf_lt t0
    clear HW
    go_enter Tryz.func165, Tryz.ntmps165
    go_wp2_with (first | (go_at_call 198; (refine (h1.at (w := _) (v := _) e.1 _ (left) (by omega) hks (by omega)).mono ?_; rintro e w0 ⟨rfl, hb0⟩; rw [HX0.out, hr0]; have HB0 : Hid _ := hb0; have hk0 := (hb0.cell (p := ⟨w.heap.size, 1, none⟩) (by simp)).trans (cell_new _ _ _ 1 cv rfl); clear hb0)) )
    go_ret
    exact ⟨by rw [HR.out]; first | rfl | (congr 2; omega) | (simp; omega), (((Below.refl _ _).alloc (Nat.le_refl _) _).trans (HB0.out.mono ((Below.refl _ _).alloc (Nat.le_refl _) _).size))⟩
  by_cases t1 : left - x0 < x1
  · have HR : Hid (leftOf left W = -1) := by
      have := HW.out
      show leftOf left W = _
      exact leftOf_lt (by omega)
    have hr0 : leftOf (left) x0 = ((left - x0 : Nat) : Int) := by rw [leftOf_ge (by omega)]
    have hr1 : leftOf (left - x0) x1 = -1 := leftOf_lt t1
    clear HW
    go_enter Tryz.func165, Tryz.ntmps165
    go_wp2_with (first | (go_at_call 198; (refine (h2.at (w := _) (v := _) e.2 _ (left - x0) (by omega) (hcs.mono (SameOn.of_below HB0.out) (fun _ h => h) (fun _ _ _ => HEx.mono (SameOn.of_below HB0.out) (fun _ h => h))) (by omega)).mono ?_; rintro e w1 ⟨rfl, hb1⟩; rw [HX1.out, hr1]; have HB1 : Hid _ := hb1; clear hb1)) | (go_at_call 198; (refine (h1.at (w := _) (v := _) e.1 _ (left) (by omega) hks (by omega)).mono ?_; rintro e w0 ⟨rfl, hb0⟩; rw [HX0.out, hr0]; have HB0 : Hid _ := hb0; have hk0 := (hb0.cell (p := ⟨w.heap.size, 1, none⟩) (by simp)).trans (cell_new _ _ _ 1 cv rfl); clear hb0)) )
    go_ret
    exact ⟨by rw [HR.out]; first | rfl | (congr 2; omega) | (simp; omega), ((((Below.refl _ _).alloc (Nat.le_refl _) _).trans (HB0.out.mono ((Below.refl _ _).alloc (Nat.le_refl _) _).size)).trans (HB1.out.mono (((Below.refl _ _).alloc (Nat.le_refl _) _).trans (HB0.out.mono ((Below.refl _ _).alloc (Nat.le_refl _) _).size)).size))⟩
  have HR : Hid (leftOf left W = ((left - x0 - x1 : Nat) : Int)) := by
    have := HW.out
    show leftOf left W = _
    rw [leftOf_ge (by omega)]; omega
  have hr0 : leftOf (left) x0 = ((left - x0 : Nat) : Int) := by rw [leftOf_ge (by omega)]
  have hr1 : leftOf (left - x0) x1 = ((left - x0 - x1 : Nat) : Int) := by rw [leftOf_ge (by omega)]
  clear HW
  go_enter Tryz.func165, Tryz.ntmps165
  go_wp2_with (first | (go_at_call 198; (refine (h2.at (w := _) (v := _) e.2 _ (left - x0) (by omega) (hcs.mono (SameOn.of_below HB0.out) (fun _ h => h) (fun _ _ _ => HEx.mono (SameOn.of_below HB0.out) (fun _ h => h))) (by omega)).mono ?_; rintro e w1 ⟨rfl, hb1⟩; rw [HX1.out, hr1]; have HB1 : Hid _ := hb1; clear hb1)) | (go_at_call 198; (refine (h1.at (w := _) (v := _) e.1 _ (left) (by omega) hks (by omega)).mono ?_; rintro e w0 ⟨rfl, hb0⟩; rw [HX0.out, hr0]; have HB0 : Hid _ := hb0; have hk0 := (hb0.cell (p := ⟨w.heap.size, 1, none⟩) (by simp)).trans (cell_new _ _ _ 1 cv rfl); clear hb0)) )
  go_ret
  exact ⟨by rw [HR.out]; first | rfl | (congr 2; omega) | (simp; omega), ((((Below.refl _ _).alloc (Nat.le_refl _) _).trans (HB0.out.mono ((Below.refl _ _).alloc (Nat.le_refl _) _).size)).trans (HB1.out.mono (((Below.refl _ _).alloc (Nat.le_refl _) _).trans (HB0.out.mono ((Below.refl _ _).alloc (Nat.le_refl _) _).size)).size))⟩

set_option maxHeartbeats 2000000 in
theorem szFun_of {d : Nat} (h1 : SzC 125 (fun w v es => Rows w (fun g => g < N) 2 (HCl w (fun g => g < N) (HEx w (fun g => g < N) d)) v es) (wtS (wtCl (wtEx d)))) :
    SzC 86 (fun w v e => ∃ cs, v = .agg cs.toArray ∧ HFn w (fun g => g < N) d cs e) (wtFn d) := by
  intro w v e left h hl
  obtain ⟨cs, rfl, cv, rfl, ht, hn, hcs⟩ := h
  have hb0 : e.name.size ≤ 9223372036854775807 := by have := ht; unfold okS maxLen at this; omega
  have hal : SameOn (fun g => g < N) w (w.alloc (.cells #[.string e.name, .int .i64 e.arity, cv] 135)) := SameOn.of_below ((Below.refl _ _).alloc (Nat.le_refl _) _)
  replace hcs := hcs.mono hal (fun _ h => h) (fun _ _ _ h => h.mono hal (fun _ h => h) (fun _ _ => HEx.mono hal (fun _ h => h)))
  have HW : Hid (wtFn d e = e.name.size + wtS (wtCl (wtEx d)) e.clauses) := rfl
  generalize wtFn d e = W at *
  have hx0 : ∃ x0 : Nat, e.name.size = x0 := ⟨_, rfl⟩
  obtain ⟨x0, hx0⟩ := hx0
  rw [hx0] at hb0
  generalize hx1 : wtS (wtCl (wtEx d)) e.clauses = x1 at *
  have HX1 : Hid (wtS (wtCl (wtEx d)) e.clauses = x1) := hx1
  clear hx1
  by_cases t0 : left < x0
  · have HR : Hid (leftOf left W = -1) := by
      have := HW.out
      show leftOf left W = _
      exact leftOf_lt (by omega)
    clear HW
    go_enter Tryz.func86, Tryz.ntmps86
    go_wp2
    go_ret
    exact ⟨by rw [HR.out]; first | rfl | (congr 2; omega) | (simp; omega), ((Below.refl _ _).alloc (Nat.le_refl _) _)⟩
  by_cases t1 : left - x0 < x1
  · have HR : Hid (leftOf left W = -1) := by
      have := HW.out
      show leftOf left W = _
      exact leftOf_lt (by omega)
    have hr1 : leftOf (left - x0) x1 = -1 := leftOf_lt t1
    clear HW
    go_enter Tryz.func86, Tryz.ntmps86
    go_wp2_with (first | (go_at_call 125; go_must (refine (h1.at (w := _) (v := _) e.clauses _ (left - x0) (by omega) hcs (by omega)).mono ?_; rintro e w1 ⟨rfl, hb1⟩; rw [HX1.out, hr1]; have HB1 : Hid _ := hb1; clear hb1)) )
    go_ret
    exact ⟨by rw [HR.out]; first | rfl | (congr 2; omega) | (simp; omega), (((Below.refl _ _).alloc (Nat.le_refl _) _).trans (HB1.out.mono ((Below.refl _ _).alloc (Nat.le_refl _) _).size))⟩
  have HR : Hid (leftOf left W = ((left - x0 - x1 : Nat) : Int)) := by
    have := HW.out
    show leftOf left W = _
    rw [leftOf_ge (by omega)]; omega
  have hr1 : leftOf (left - x0) x1 = ((left - x0 - x1 : Nat) : Int) := by rw [leftOf_ge (by omega)]
  clear HW
  go_enter Tryz.func86, Tryz.ntmps86
  go_wp2_with (first | (go_at_call 125; go_must (refine (h1.at (w := _) (v := _) e.clauses _ (left - x0) (by omega) hcs (by omega)).mono ?_; rintro e w1 ⟨rfl, hb1⟩; rw [HX1.out, hr1]; have HB1 : Hid _ := hb1; clear hb1)) )
  go_ret
  exact ⟨by rw [HR.out]; first | rfl | (congr 2; omega) | (simp; omega), (((Below.refl _ _).alloc (Nat.le_refl _) _).trans (HB1.out.mono ((Below.refl _ _).alloc (Nat.le_refl _) _).size))⟩

set_option maxHeartbeats 2000000 in
theorem szRef_of {d : Nat}  :
    SzC 85 (fun w v e => ∃ cs, v = .agg cs.toArray ∧ HRf cs e) (wtRf) := by
  intro w v e left h hl
  obtain ⟨cs, rfl, rfl, ht, hn⟩ := h
  have hb0 : e.name.size ≤ 9223372036854775807 := by have := ht; unfold okS maxLen at this; omega
  have HW : Hid (wtRf e = e.name.size) := rfl
  generalize wtRf e = W at *
  have hx0 : ∃ x0 : Nat, e.name.size = x0 := ⟨_, rfl⟩
  obtain ⟨x0, hx0⟩ := hx0
  rw [hx0] at hb0
  by_cases t0 : left < x0
  · have HR : Hid (leftOf left W = -1) := by
      have := HW.out
      show leftOf left W = _
      exact leftOf_lt (by omega)
    clear HW
    go_enter Tryz.func85, Tryz.ntmps85
    go_wp2
    go_ret
    exact ⟨by rw [HR.out]; first | rfl | (congr 2; omega) | (simp; omega), ((Below.refl _ _).alloc (Nat.le_refl _) _)⟩
  have HR : Hid (leftOf left W = ((left - x0 : Nat) : Int)) := by
    have := HW.out
    show leftOf left W = _
    rw [leftOf_ge (by omega)]; omega
  clear HW
  go_enter Tryz.func85, Tryz.ntmps85
  go_wp2
  go_ret
  exact ⟨by rw [HR.out]; first | rfl | (congr 2; omega) | (simp; omega), ((Below.refl _ _).alloc (Nat.le_refl _) _)⟩

set_option maxHeartbeats 2000000 in
theorem szModule_of {d : Nat} (h1 : SzC 48 (fun w v es => Rows w (fun g => g < N) 2 (HRf) v es) (wtS (wtRf))) (h2 : SzC 49 (fun w v es => Rows w (fun g => g < N) 3 (HFn w (fun g => g < N) d) v es) (wtS (wtFn d))) :
    SzC 24 (fun w v e => ∃ cs, v = .agg cs.toArray ∧ HMd w (fun g => g < N) d cs e) (wtMd d) := by
  intro w v e left h hl
  obtain ⟨cs, rfl, kv, cv, rfl, ht, hks, hcs⟩ := h
  have hb0 : e.name.size ≤ 9223372036854775807 := by have := ht; unfold okS maxLen at this; omega
  have hal : SameOn (fun g => g < N) w (w.alloc (.cells #[.string e.name, kv, cv] 48)) := SameOn.of_below ((Below.refl _ _).alloc (Nat.le_refl _) _)
  replace hks := hks.mono hal (fun _ h => h) (fun _ _ _ h => h)
  replace hcs := hcs.mono hal (fun _ h => h) (fun _ _ _ h => h.mono hal (fun _ h => h))
  have HW : Hid (wtMd d e = e.name.size + wtS wtRf e.exports + wtS (wtFn d) e.funs) := rfl
  generalize wtMd d e = W at *
  have hx0 : ∃ x0 : Nat, e.name.size = x0 := ⟨_, rfl⟩
  obtain ⟨x0, hx0⟩ := hx0
  rw [hx0] at hb0
  generalize hx1 : wtS wtRf e.exports = x1 at *
  have HX1 : Hid (wtS wtRf e.exports = x1) := hx1
  clear hx1
  generalize hx2 : wtS (wtFn d) e.funs = x2 at *
  have HX2 : Hid (wtS (wtFn d) e.funs = x2) := hx2
  clear hx2
  by_cases t0 : left < x0
  · have HR : Hid (leftOf left W = -1) := by
      have := HW.out
      show leftOf left W = _
      exact leftOf_lt (by omega)
    clear HW
    go_enter Tryz.func24, Tryz.ntmps24
    go_wp2
    go_ret
    exact ⟨by rw [HR.out]; first | rfl | (congr 2; omega) | (simp; omega), ((Below.refl _ _).alloc (Nat.le_refl _) _)⟩
  by_cases t1 : left - x0 < x1
  · have HR : Hid (leftOf left W = -1) := by
      have := HW.out
      show leftOf left W = _
      exact leftOf_lt (by omega)
    have hr1 : leftOf (left - x0) x1 = -1 := leftOf_lt t1
    clear HW
    go_enter Tryz.func24, Tryz.ntmps24
    go_wp2_with (first | (go_at_call 48; go_must (refine (h1.at (w := _) (v := _) e.exports _ (left - x0) (by omega) hks (by omega)).mono ?_; rintro e w1 ⟨rfl, hb1⟩; rw [HX1.out, hr1]; have HB1 : Hid _ := hb1; have hk1 := (hb1.cell (p := ⟨w.heap.size, 2, none⟩) (by simp)).trans (cell_new _ _ _ 2 cv rfl); clear hb1)) )
    go_ret
    exact ⟨by rw [HR.out]; first | rfl | (congr 2; omega) | (simp; omega), (((Below.refl _ _).alloc (Nat.le_refl _) _).trans (HB1.out.mono ((Below.refl _ _).alloc (Nat.le_refl _) _).size))⟩
  by_cases t2 : left - x0 - x1 < x2
  · have HR : Hid (leftOf left W = -1) := by
      have := HW.out
      show leftOf left W = _
      exact leftOf_lt (by omega)
    have hr1 : leftOf (left - x0) x1 = ((left - x0 - x1 : Nat) : Int) := by rw [leftOf_ge (by omega)]
    have hr2 : leftOf (left - x0 - x1) x2 = -1 := leftOf_lt t2
    clear HW
    go_enter Tryz.func24, Tryz.ntmps24
    go_wp2_with (first | (go_at_call 49; go_must (refine (h2.at (w := _) (v := _) e.funs _ (left - x0 - x1) (by omega) (hcs.mono (SameOn.of_below HB1.out) (fun _ h => h) (fun _ _ _ h => h.mono (SameOn.of_below HB1.out) (fun _ h => h))) (by omega)).mono ?_; rintro e w2 ⟨rfl, hb2⟩; rw [HX2.out, hr2]; have HB2 : Hid _ := hb2; clear hb2)) | (go_at_call 48; go_must (refine (h1.at (w := _) (v := _) e.exports _ (left - x0) (by omega) hks (by omega)).mono ?_; rintro e w1 ⟨rfl, hb1⟩; rw [HX1.out, hr1]; have HB1 : Hid _ := hb1; have hk1 := (hb1.cell (p := ⟨w.heap.size, 2, none⟩) (by simp)).trans (cell_new _ _ _ 2 cv rfl); clear hb1)) )
    go_ret
    exact ⟨by rw [HR.out]; first | rfl | (congr 2; omega) | (simp; omega), ((((Below.refl _ _).alloc (Nat.le_refl _) _).trans (HB1.out.mono ((Below.refl _ _).alloc (Nat.le_refl _) _).size)).trans (HB2.out.mono (((Below.refl _ _).alloc (Nat.le_refl _) _).trans (HB1.out.mono ((Below.refl _ _).alloc (Nat.le_refl _) _).size)).size))⟩
  have HR : Hid (leftOf left W = ((left - x0 - x1 - x2 : Nat) : Int)) := by
    have := HW.out
    show leftOf left W = _
    rw [leftOf_ge (by omega)]; omega
  have hr1 : leftOf (left - x0) x1 = ((left - x0 - x1 : Nat) : Int) := by rw [leftOf_ge (by omega)]
  have hr2 : leftOf (left - x0 - x1) x2 = ((left - x0 - x1 - x2 : Nat) : Int) := by rw [leftOf_ge (by omega)]
  clear HW
  go_enter Tryz.func24, Tryz.ntmps24
  go_wp2_with (first | (go_at_call 49; go_must (refine (h2.at (w := _) (v := _) e.funs _ (left - x0 - x1) (by omega) (hcs.mono (SameOn.of_below HB1.out) (fun _ h => h) (fun _ _ _ h => h.mono (SameOn.of_below HB1.out) (fun _ h => h))) (by omega)).mono ?_; rintro e w2 ⟨rfl, hb2⟩; rw [HX2.out, hr2]; have HB2 : Hid _ := hb2; clear hb2)) | (go_at_call 48; go_must (refine (h1.at (w := _) (v := _) e.exports _ (left - x0) (by omega) hks (by omega)).mono ?_; rintro e w1 ⟨rfl, hb1⟩; rw [HX1.out, hr1]; have HB1 : Hid _ := hb1; have hk1 := (hb1.cell (p := ⟨w.heap.size, 2, none⟩) (by simp)).trans (cell_new _ _ _ 2 cv rfl); clear hb1)) )
  go_ret
  exact ⟨by rw [HR.out]; first | rfl | (congr 2; omega) | (simp; omega), ((((Below.refl _ _).alloc (Nat.le_refl _) _).trans (HB1.out.mono ((Below.refl _ _).alloc (Nat.le_refl _) _).size)).trans (HB2.out.mono (((Below.refl _ _).alloc (Nat.le_refl _) _).trans (HB1.out.mono ((Below.refl _ _).alloc (Nat.le_refl _) _).size)).size))⟩

theorem szExp_all : ∀ d, SzC 219 (fun w v e => ∃ cs, v = .agg cs.toArray ∧ HEx w (fun g => g < N) d cs e) (wtEx d)
  | 0 => fun w v x left ⟨_, _, h⟩ _ => h.elim
  | d + 1 => szExp_of (szExpS_of (szExp_all d)) (szClauseS_of (szClause_of (szExpS_of (szExp_all d)) (szExpS_of (szExp_all d))))
theorem szClauseS_all (d : Nat) : SzC 125 (fun w v es => Rows w (fun g => g < N) 2 (HCl w (fun g => g < N) (HEx w (fun g => g < N) d)) v es) (wtS (wtCl (wtEx d))) :=
  szClauseS_of (szClause_of (szExpS_of (szExp_all d)) (szExpS_of (szExp_all d)))

/-- THE LAWS' szModule. -/
theorem szModule_all (d : Nat) : SzC 24 (fun w v m => ∃ cs, v = .agg cs.toArray ∧ HMd w (fun g => g < N) d cs m) (wtMd d) :=
  szModule_of (szRefS_of (d := 0) (szRef_of (d := 0))) (szFunS_of (szFun_of (szClauseS_all d)))
end Go.Proofs.YtihffcphbcepoaaGreatDoor
/-
  The laws' szModuleS: the weight of a row of modules.
-/
namespace Go.Proofs.YtihffcphbcepoaaGreatDoor
open Go.ChangeShapes Go.WideShapes Go.ChangeAt Go.RowKit
set_option linter.unusedVariables false

section
variable {N : Nat}

set_option maxHeartbeats 2000000 in
theorem szModuleS_of {d : Nat} (hE : SzC 24 (fun w v e => ∃ cs, v = .agg cs.toArray ∧ HMd w (fun g => g < N) d cs e) (wtMd d)) :
    SzC 6 (fun w v es => Rows w (fun g => g < N) 3 (HMd w (fun g => g < N) d) v es) (wtS (wtMd d)) := by
  intro w v es left h hl
  obtain ⟨p, cap, rfl, hcl, hcm, hx⟩ := h
  generalize hn : es.length = n at *
  have HN : Hid (es.length = n) := hn
  have HX : Hid _ := hx
  have hnb : n ≤ 9223372036854775807 := by unfold maxLen at hcm; omega
  clear hx hn
  by_cases h0 : left < n
  · have hr : leftOf left (wtS (wtMd d) es) = -1 := leftOf_lt (by unfold wtS; rw [HN.out]; omega)
    have HR : Hid (leftOf left (wtS (wtMd d) es) = -1) := hr
    clear hr
    go_enter Tryz.func6, Tryz.ntmps6
    go_wp2
    go_ret
    exact ⟨by rw [HR.out]; rfl, Below.refl _ _⟩
  · go_enter Tryz.func6, Tryz.ntmps6
    go_wp2
    go_loopw [1, 5] (fun lv iv wr => ∃ k r : Nat, k ≤ n ∧ iv = .int .i64 k ∧ lv = .int .i64 r ∧ Hid (r + n + ((es.take k).map (wtMd d)).sum = left) ∧ Below w.heap.size w wr) (fun _ iv _ => n - (intOf iv).toNat)
    case atStart => exact ⟨0, left - n, Nat.zero_le _, rfl, by go_num, (by show left - n + n + _ = left; simp; omega), Below.refl _ _⟩
    case round =>
      obtain ⟨k, r, hk, rfl, rfl, hrs, hb⟩ := hrel
      have HB : Hid (Below w.heap.size w wr) := hb
      by_cases hlt : k < n
      · obtain ⟨x, hxk⟩ : ∃ x, es[k]? = some x := ⟨es[k]'(by rw [HN.out]; exact hlt), List.getElem?_eq_getElem _⟩
        obtain ⟨g, off, rfl, hg, hgl, hat⟩ := HX.out (by intro h; rw [h] at hxk; simp at hxk)
        obtain ⟨cs, hcl6, hcs, hex⟩ := hat k x hxk
        have hex' : HMd wr (fun g => g < N) d cs x := hex.mono (SameOn.of_below hb) (fun _ h => h)
        obtain ⟨c0, c1, c2, rfl⟩ := len3 hcl6
        have a0 := hcs 0 (by omega)
        have a1 := hcs 1 (by omega)
        have a2 := hcs 2 (by omega)
        rw [← hb.cell (p := ⟨g, _, none⟩) hgl] at a0 a1 a2
        simp at a0 a1 a2
        clear hb hcs hat hex hcl6
        have hrb : r ≤ 1048576 := by have := hrs.out; omega
        have hst := sum_take_succ (wtMd d) es k x hxk
        have HST : Hid (((es.take (k + 1)).map (wtMd d)).sum = ((es.take k).map (wtMd d)).sum + wtMd d x) := hst
        have hle := sum_take_le (wtMd d) es (k + 1)
        have HLE : Hid (((es.take (k + 1)).map (wtMd d)).sum ≤ (es.map (wtMd d)).sum) := hle
        clear hst hle
        generalize hwx : wtMd d x = y at *
        have HY : Hid (wtMd d x = y) := hwx
        by_cases hy : r < y
        · have hr : leftOf left (wtS (wtMd d) es) = -1 := leftOf_lt (by unfold wtS; have := hrs.out; have := HLE.out; have := HST.out; rw [HN.out]; omega)
          have HR : Hid (leftOf left (wtS (wtMd d) es) = -1) := hr
          have hr2 : leftOf r y = -1 := leftOf_lt hy
          clear hr hwx
          go_wp2_with (go_at_call 24; go_must (refine (hE _ _ x r ⟨_, rfl, hex'⟩ hrb).mono ?_; rintro e w1 ⟨rfl, hb1⟩; rw [HY.out, hr2]; have HB1 : Hid _ := hb1; clear hb1))
          go_ret
          exact ⟨by rw [HR.out]; rfl, HB.out.trans (HB1.out.mono HB.out.size)⟩
        · have hr2 : leftOf r y = ((r - y : Nat) : Int) := leftOf_ge (by omega)
          clear hwx
          go_wp2_with (go_at_call 24; go_must (refine (hE _ _ x r ⟨_, rfl, hex'⟩ hrb).mono ?_; rintro e w1 ⟨rfl, hb1⟩; rw [HY.out, hr2]; have HB1 : Hid _ := hb1; clear hb1))
          exact ⟨⟨k + 1, r - y, by omega, by go_num, rfl, (by have := hrs.out; have := HST.out; show r - y + n + _ = left; omega), HB.out.trans (HB1.out.mono HB.out.size)⟩, by simp [intOf]; omega⟩
      · have hr : leftOf left (wtS (wtMd d) es) = (r : Int) := by
          have h1 := hrs.out
          rw [List.take_of_length_le (by rw [HN.out]; omega)] at h1
          rw [leftOf_ge (by unfold wtS; rw [HN.out]; omega)]
          unfold wtS; rw [HN.out]; omega
        have HR : Hid (leftOf left (wtS (wtMd d) es) = (r : Int)) := hr
        clear hr
        go_wp2
        go_ret
        exact ⟨by rw [HR.out]; rfl, HB.out⟩

theorem szModuleS_all (d : Nat) : SzC 6 (fun w v es => Rows w (fun g => g < N) 3 (HMd w (fun g => g < N) d) v es) (wtS (wtMd d)) := szModuleS_of (szModule_all d)
end
end Go.Proofs.YtihffcphbcepoaaGreatDoor
/-
  The laws' eqModule and what it calls: of two modules in memory that are the same tree it tells that they are.
-/
namespace Go.Proofs.YtihffcphbcepoaaGreatDoor
open Go.ChangeShapes Go.WideShapes Go.ChangeAt Go.RowKit
set_option linter.unusedVariables false

set_option maxHeartbeats 2000000 in
theorem eqExpS_of {d : Nat} (hE : EqC 224 (fun w v e => ∃ cs, v = .agg cs.toArray ∧ HEx w All d cs e)) :
    EqC 208 (fun w v es => Rows w All 6 (HEx w All d) v es) := by
  intro w v1 v2 es h1 h2
  obtain ⟨p, cap, rfl, hcl, hcm, hx⟩ := h1
  obtain ⟨q, cap', rfl, hcl', hcm', hy⟩ := h2
  generalize hn : es.length = n at *
  have HN : Hid (es.length = n) := hn
  have HX : Hid _ := hx
  have HY : Hid _ := hy
  have hnb : n ≤ 9223372036854775807 := by unfold maxLen at hcm; omega
  clear hx hy hn
  go_enter Tryz.func208, Tryz.ntmps208
  go_wp2
  go_loopw [5] (fun iv wr => ∃ k : Nat, k ≤ n ∧ iv = .int .i64 k ∧ Below w.heap.size w wr) (fun iv _ => n - (intOf iv).toNat)
  case atStart => exact ⟨0, Nat.zero_le _, rfl, Below.refl _ _⟩
  case round =>
    obtain ⟨k, hk, rfl, hb⟩ := hrel
    have HB : Hid (Below w.heap.size w wr) := hb
    by_cases hlt : k < n
    · obtain ⟨x, hxk⟩ : ∃ x, es[k]? = some x := ⟨es[k]'(by rw [HN.out]; exact hlt), List.getElem?_eq_getElem _⟩
      have hne : es ≠ [] := by intro h; rw [h] at hxk; simp at hxk
      obtain ⟨g, off, rfl, _, hgl, hat⟩ := HX.out hne
      obtain ⟨g', off', rfl, _, hgl', hat'⟩ := HY.out hne
      obtain ⟨cs, hcl6, hcs, hex⟩ := hat k x hxk
      obtain ⟨cs', hcl6', hcs', hex'⟩ := hat' k x hxk
      have E1 : ∀ w', SameOn All wr w' → HEx w' All d cs x := fun w' hw => hex.mono (SameOn.trans (SameOn.of_below hb) hw) (fun _ h => h)
      have E2 : ∀ w', SameOn All wr w' → HEx w' All d cs' x := fun w' hw => hex'.mono (SameOn.trans (SameOn.of_below hb) hw) (fun _ h => h)
      obtain ⟨c0, c1, c2, c3, c4, c5, rfl⟩ := len6 hcl6
      obtain ⟨d0, d1, d2, d3, d4, d5, rfl⟩ := len6 hcl6'
      have a0 := hcs 0 (by omega)
      have b0 := hcs' 0 (by omega)
      have a1 := hcs 1 (by omega)
      have b1 := hcs' 1 (by omega)
      have a2 := hcs 2 (by omega)
      have b2 := hcs' 2 (by omega)
      have a3 := hcs 3 (by omega)
      have b3 := hcs' 3 (by omega)
      have a4 := hcs 4 (by omega)
      have b4 := hcs' 4 (by omega)
      have a5 := hcs 5 (by omega)
      have b5 := hcs' 5 (by omega)
      rw [← hb.cell (p := ⟨g, _, none⟩) hgl] at a0 a1 a2 a3 a4 a5
      rw [← hb.cell (p := ⟨g', _, none⟩) hgl'] at b0 b1 b2 b3 b4 b5
      simp at a0 a1 a2 a3 a4 a5 b0 b1 b2 b3 b4 b5
      clear hb hcs hat hex hcl6 hcs' hat' hex' hcl6' hne
      go_wp2
      go_region_with ((go_at_call 224; refine (hE _ _ _ x ⟨_, rfl, E1 _ (by exact ⟨Nat.le_refl _, fun _ _ _ => rfl⟩)⟩ ⟨_, rfl, E2 _ (by exact ⟨Nat.le_refl _, fun _ _ _ => rfl⟩)⟩).mono ?_; rintro e w1 ⟨rfl, hb1⟩; have HB1 : Hid _ := hb1; clear hb1))
      all_goals go_wp2
      all_goals
        have hbe : Below w.heap.size w w1 := by
          refine Below.trans ?_ (HB1.out.mono (by exact HB.out.size))
          repeat (first | exact HB.out | apply Below.drew)
        exact ⟨⟨k + 1, by omega, by go_num, hbe⟩, by simp [intOf]; omega⟩
    · go_wp2
      go_ret
      exact ⟨rfl, HB.out⟩

set_option maxHeartbeats 2000000 in
theorem eqClauseS_of {d : Nat} (hE : EqC 181 (fun w v e => ∃ cs, v = .agg cs.toArray ∧ HCl w All (HEx w All d) cs e)) :
    EqC 147 (fun w v es => Rows w All 2 (HCl w All (HEx w All d)) v es) := by
  intro w v1 v2 es h1 h2
  obtain ⟨p, cap, rfl, hcl, hcm, hx⟩ := h1
  obtain ⟨q, cap', rfl, hcl', hcm', hy⟩ := h2
  generalize hn : es.length = n at *
  have HN : Hid (es.length = n) := hn
  have HX : Hid _ := hx
  have HY : Hid _ := hy
  have hnb : n ≤ 9223372036854775807 := by unfold maxLen at hcm; omega
  clear hx hy hn
  go_enter Tryz.func147, Tryz.ntmps147
  go_wp2
  go_loopw [5] (fun iv wr => ∃ k : Nat, k ≤ n ∧ iv = .int .i64 k ∧ Below w.heap.size w wr) (fun iv _ => n - (intOf iv).toNat)
  case atStart => exact ⟨0, Nat.zero_le _, rfl, Below.refl _ _⟩
  case round =>
    obtain ⟨k, hk, rfl, hb⟩ := hrel
    have HB : Hid (Below w.heap.size w wr) := hb
    by_cases hlt : k < n
    · obtain ⟨x, hxk⟩ : ∃ x, es[k]? = some x := ⟨es[k]'(by rw [HN.out]; exact hlt), List.getElem?_eq_getElem _⟩
      have hne : es ≠ [] := by intro h; rw [h] at hxk; simp at hxk
      obtain ⟨g, off, rfl, _, hgl, hat⟩ := HX.out hne
      obtain ⟨g', off', rfl, _, hgl', hat'⟩ := HY.out hne
      obtain ⟨cs, hcl6, hcs, hex⟩ := hat k x hxk
      obtain ⟨cs', hcl6', hcs', hex'⟩ := hat' k x hxk
      have E1 : ∀ w', SameOn All wr w' → HCl w' All (HEx w' All d) cs x := fun w' hw => hex.mono (SameOn.trans (SameOn.of_below hb) hw) (fun _ h => h) (fun _ _ => HEx.mono (SameOn.trans (SameOn.of_below hb) hw) (fun _ h => h))
      have E2 : ∀ w', SameOn All wr w' → HCl w' All (HEx w' All d) cs' x := fun w' hw => hex'.mono (SameOn.trans (SameOn.of_below hb) hw) (fun _ h => h) (fun _ _ => HEx.mono (SameOn.trans (SameOn.of_below hb) hw) (fun _ h => h))
      obtain ⟨c0, c1, rfl⟩ := len2 hcl6
      obtain ⟨d0, d1, rfl⟩ := len2 hcl6'
      have a0 := hcs 0 (by omega)
      have b0 := hcs' 0 (by omega)
      have a1 := hcs 1 (by omega)
      have b1 := hcs' 1 (by omega)
      rw [← hb.cell (p := ⟨g, _, none⟩) hgl] at a0 a1
      rw [← hb.cell (p := ⟨g', _, none⟩) hgl'] at b0 b1
      simp at a0 a1 b0 b1
      clear hb hcs hat hex hcl6 hcs' hat' hex' hcl6' hne
      go_wp2
      go_region_with ((go_at_call 181; refine (hE _ _ _ x ⟨_, rfl, E1 _ (by exact ⟨Nat.le_refl _, fun _ _ _ => rfl⟩)⟩ ⟨_, rfl, E2 _ (by exact ⟨Nat.le_refl _, fun _ _ _ => rfl⟩)⟩).mono ?_; rintro e w1 ⟨rfl, hb1⟩; have HB1 : Hid _ := hb1; clear hb1))
      all_goals go_wp2
      all_goals
        have hbe : Below w.heap.size w w1 := by
          refine Below.trans ?_ (HB1.out.mono (by exact HB.out.size))
          repeat (first | exact HB.out | apply Below.drew)
        exact ⟨⟨k + 1, by omega, by go_num, hbe⟩, by simp [intOf]; omega⟩
    · go_wp2
      go_ret
      exact ⟨rfl, HB.out⟩

set_option maxHeartbeats 2000000 in
theorem eqFunS_of {d : Nat} (hE : EqC 107 (fun w v e => ∃ cs, v = .agg cs.toArray ∧ HFn w All d cs e)) :
    EqC 66 (fun w v es => Rows w All 3 (HFn w All d) v es) := by
  intro w v1 v2 es h1 h2
  obtain ⟨p, cap, rfl, hcl, hcm, hx⟩ := h1
  obtain ⟨q, cap', rfl, hcl', hcm', hy⟩ := h2
  generalize hn : es.length = n at *
  have HN : Hid (es.length = n) := hn
  have HX : Hid _ := hx
  have HY : Hid _ := hy
  have hnb : n ≤ 9223372036854775807 := by unfold maxLen at hcm; omega
  clear hx hy hn
  go_enter Tryz.func66, Tryz.ntmps66
  go_wp2
  go_loopw [5] (fun iv wr => ∃ k : Nat, k ≤ n ∧ iv = .int .i64 k ∧ Below w.heap.size w wr) (fun iv _ => n - (intOf iv).toNat)
  case atStart => exact ⟨0, Nat.zero_le _, rfl, Below.refl _ _⟩
  case round =>
    obtain ⟨k, hk, rfl, hb⟩ := hrel
    have HB : Hid (Below w.heap.size w wr) := hb
    by_cases hlt : k < n
    · obtain ⟨x, hxk⟩ : ∃ x, es[k]? = some x := ⟨es[k]'(by rw [HN.out]; exact hlt), List.getElem?_eq_getElem _⟩
      have hne : es ≠ [] := by intro h; rw [h] at hxk; simp at hxk
      obtain ⟨g, off, rfl, _, hgl, hat⟩ := HX.out hne
      obtain ⟨g', off', rfl, _, hgl', hat'⟩ := HY.out hne
      obtain ⟨cs, hcl6, hcs, hex⟩ := hat k x hxk
      obtain ⟨cs', hcl6', hcs', hex'⟩ := hat' k x hxk
      have E1 : ∀ w', SameOn All wr w' → HFn w' All d cs x := fun w' hw => hex.mono (SameOn.trans (SameOn.of_below hb) hw) (fun _ h => h)
      have E2 : ∀ w', SameOn All wr w' → HFn w' All d cs' x := fun w' hw => hex'.mono (SameOn.trans (SameOn.of_below hb) hw) (fun _ h => h)
      obtain ⟨c0, c1, c2, rfl⟩ := len3 hcl6
      obtain ⟨d0, d1, d2, rfl⟩ := len3 hcl6'
      have a0 := hcs 0 (by omega)
      have b0 := hcs' 0 (by omega)
      have a1 := hcs 1 (by omega)
      have b1 := hcs' 1 (by omega)
      have a2 := hcs 2 (by omega)
      have b2 := hcs' 2 (by omega)
      rw [← hb.cell (p := ⟨g, _, none⟩) hgl] at a0 a1 a2
      rw [← hb.cell (p := ⟨g', _, none⟩) hgl'] at b0 b1 b2
      simp at a0 a1 a2 b0 b1 b2
      clear hb hcs hat hex hcl6 hcs' hat' hex' hcl6' hne
      go_wp2
      go_region_with ((go_at_call 107; refine (hE _ _ _ x ⟨_, rfl, E1 _ (by exact ⟨Nat.le_refl _, fun _ _ _ => rfl⟩)⟩ ⟨_, rfl, E2 _ (by exact ⟨Nat.le_refl _, fun _ _ _ => rfl⟩)⟩).mono ?_; rintro e w1 ⟨rfl, hb1⟩; have HB1 : Hid _ := hb1; clear hb1))
      all_goals go_wp2
      all_goals
        have hbe : Below w.heap.size w w1 := by
          refine Below.trans ?_ (HB1.out.mono (by exact HB.out.size))
          repeat (first | exact HB.out | apply Below.drew)
        exact ⟨⟨k + 1, by omega, by go_num, hbe⟩, by simp [intOf]; omega⟩
    · go_wp2
      go_ret
      exact ⟨rfl, HB.out⟩

set_option maxHeartbeats 2000000 in
theorem eqRefS_of {d : Nat} (hE : EqC 106 (fun w v e => ∃ cs, v = .agg cs.toArray ∧ HRf cs e)) :
    EqC 65 (fun w v es => Rows w All 2 (HRf) v es) := by
  intro w v1 v2 es h1 h2
  obtain ⟨p, cap, rfl, hcl, hcm, hx⟩ := h1
  obtain ⟨q, cap', rfl, hcl', hcm', hy⟩ := h2
  generalize hn : es.length = n at *
  have HN : Hid (es.length = n) := hn
  have HX : Hid _ := hx
  have HY : Hid _ := hy
  have hnb : n ≤ 9223372036854775807 := by unfold maxLen at hcm; omega
  clear hx hy hn
  go_enter Tryz.func65, Tryz.ntmps65
  go_wp2
  go_loopw [5] (fun iv wr => ∃ k : Nat, k ≤ n ∧ iv = .int .i64 k ∧ Below w.heap.size w wr) (fun iv _ => n - (intOf iv).toNat)
  case atStart => exact ⟨0, Nat.zero_le _, rfl, Below.refl _ _⟩
  case round =>
    obtain ⟨k, hk, rfl, hb⟩ := hrel
    have HB : Hid (Below w.heap.size w wr) := hb
    by_cases hlt : k < n
    · obtain ⟨x, hxk⟩ : ∃ x, es[k]? = some x := ⟨es[k]'(by rw [HN.out]; exact hlt), List.getElem?_eq_getElem _⟩
      have hne : es ≠ [] := by intro h; rw [h] at hxk; simp at hxk
      obtain ⟨g, off, rfl, _, hgl, hat⟩ := HX.out hne
      obtain ⟨g', off', rfl, _, hgl', hat'⟩ := HY.out hne
      obtain ⟨cs, hcl6, hcs, hex⟩ := hat k x hxk
      obtain ⟨cs', hcl6', hcs', hex'⟩ := hat' k x hxk
      have E1 : ∀ w', SameOn All wr w' → HRf cs x := fun w' hw => hex
      have E2 : ∀ w', SameOn All wr w' → HRf cs' x := fun w' hw => hex'
      obtain ⟨c0, c1, rfl⟩ := len2 hcl6
      obtain ⟨d0, d1, rfl⟩ := len2 hcl6'
      have a0 := hcs 0 (by omega)
      have b0 := hcs' 0 (by omega)
      have a1 := hcs 1 (by omega)
      have b1 := hcs' 1 (by omega)
      rw [← hb.cell (p := ⟨g, _, none⟩) hgl] at a0 a1
      rw [← hb.cell (p := ⟨g', _, none⟩) hgl'] at b0 b1
      simp at a0 a1 b0 b1
      clear hb hcs hat hex hcl6 hcs' hat' hex' hcl6' hne
      go_wp2
      go_region_with ((go_at_call 106; refine (hE _ _ _ x ⟨_, rfl, E1 _ (by exact ⟨Nat.le_refl _, fun _ _ _ => rfl⟩)⟩ ⟨_, rfl, E2 _ (by exact ⟨Nat.le_refl _, fun _ _ _ => rfl⟩)⟩).mono ?_; rintro e w1 ⟨rfl, hb1⟩; have HB1 : Hid _ := hb1; clear hb1))
      all_goals go_wp2
      all_goals
        have hbe : Below w.heap.size w w1 := by
          refine Below.trans ?_ (HB1.out.mono (by exact HB.out.size))
          repeat (first | exact HB.out | apply Below.drew)
        exact ⟨⟨k + 1, by omega, by go_num, hbe⟩, by simp [intOf]; omega⟩
    · go_wp2
      go_ret
      exact ⟨rfl, HB.out⟩

set_option maxHeartbeats 2000000 in
theorem eqExp_of {d : Nat} (h0 : EqC 208 (fun w v es => Rows w All 6 (HEx w All d) v es)) (h1 : EqC 147 (fun w v es => Rows w All 2 (HCl w All (HEx w All d)) v es)) :
    EqC 224 (fun w v e => ∃ cs, v = .agg cs.toArray ∧ HEx w All (d + 1) cs e) := by
  intro w v1 v2 e i1 i2
  obtain ⟨cs, rfl, kv, cv, rfl, p1, p2, p3, p4, f0, f1⟩ := i1
  obtain ⟨cs, rfl, kv', cv', rfl, p1', p2', p3', p4', f0', f1'⟩ := i2
  have hal : Below w.heap.size w ((w.alloc (.cells #[.int .i64 e.kind, .int .i64 e.n, .string e.text, .string e.mod, kv, cv] 88)).alloc (.cells #[.int .i64 e.kind, .int .i64 e.n, .string e.text, .string e.mod, kv', cv'] 88)) := ((Below.refl _ _).alloc (Nat.le_refl _) _).alloc (by simp) _
  have HA : Hid (Below w.heap.size w ((w.alloc (.cells #[.int .i64 e.kind, .int .i64 e.n, .string e.text, .string e.mod, kv, cv] 88)).alloc (.cells #[.int .i64 e.kind, .int .i64 e.n, .string e.text, .string e.mod, kv', cv'] 88))) := hal
  have g0 : ∀ w', SameOn All w w' → Rows w' All 6 (HEx w' All d) kv e.kids := fun w' hw => f0.mono (hw) (fun _ h => h) (fun _ _ _ => HEx.mono (hw) (fun _ h => h))
  have g0' : ∀ w', SameOn All w w' → Rows w' All 6 (HEx w' All d) kv' e.kids := fun w' hw => f0'.mono (hw) (fun _ h => h) (fun _ _ _ => HEx.mono (hw) (fun _ h => h))
  have g1 : ∀ w', SameOn All w w' → Rows w' All 2 (HCl w' All (HEx w' All d)) cv e.clauses := fun w' hw => f1.mono (hw) (fun _ h => h) (fun _ _ _ h => h.mono (hw) (fun _ h => h) (fun _ _ => HEx.mono (hw) (fun _ h => h)))
  have g1' : ∀ w', SameOn All w w' → Rows w' All 2 (HCl w' All (HEx w' All d)) cv' e.clauses := fun w' hw => f1'.mono (hw) (fun _ h => h) (fun _ _ _ h => h.mono (hw) (fun _ h => h) (fun _ _ => HEx.mono (hw) (fun _ h => h)))
  clear hal f0 f0' f1 f1'
  go_enter Tryz.func224, Tryz.ntmps224
  go_wp2_with (first | (go_at_call 147; (refine (h1 _ _ _ e.clauses (g1 _ (SameOn.of_below (HA.out.trans (HB0.out.mono HA.out.size)))) (g1' _ (SameOn.of_below (HA.out.trans (HB0.out.mono HA.out.size))))).mono ?_; rintro e w1 ⟨rfl, hb1⟩; have HB1 : Hid _ := hb1; clear hb1)) | (go_at_call 208; (refine (h0 _ _ _ e.kids (g0 _ (SameOn.of_below HA.out)) (g0' _ (SameOn.of_below HA.out))).mono ?_; rintro e w0 ⟨rfl, hb0⟩; have HB0 : Hid _ := hb0; have k0 := (hb0.cell (p := ⟨w.heap.size, 5, none⟩) (by simp only [alloc_hs]; omega)).trans ((World.cell?_of_block (a := ⟨w.heap.size, 5, none⟩) (Below.heap_alloc _ _ _ (by simp))).trans (cell_new _ _ _ 5 cv rfl)); have m0 := (hb0.cell (p := ⟨(w.alloc (.cells #[.int .i64 e.kind, .int .i64 e.n, .string e.text, .string e.mod, kv, cv] 88)).heap.size, 5, none⟩) (by simp)).trans (cell_new _ _ _ 5 cv' rfl); simp only [alloc_hs] at m0; clear hb0)))
  go_ret
  exact ⟨rfl, ((HA.out.trans (HB0.out.mono HA.out.size)).trans (HB1.out.mono (HA.out.trans (HB0.out.mono HA.out.size)).size))⟩

set_option maxHeartbeats 2000000 in
theorem eqClause_of {d : Nat} (h0 : EqC 208 (fun w v es => Rows w All 6 (HEx w All d) v es)) (h1 : EqC 208 (fun w v es => Rows w All 6 (HEx w All d) v es)) :
    EqC 181 (fun w v e => ∃ cs, v = .agg cs.toArray ∧ HCl w All (HEx w All d) cs e) := by
  intro w v1 v2 e i1 i2
  obtain ⟨cs, rfl, kv, cv, rfl, f0, f1⟩ := i1
  obtain ⟨cs, rfl, kv', cv', rfl, f0', f1'⟩ := i2
  have hal : Below w.heap.size w ((w.alloc (.cells #[kv, cv] 78)).alloc (.cells #[kv', cv'] 78)) := ((Below.refl _ _).alloc (Nat.le_refl _) _).alloc (by simp) _
  have HA : Hid (Below w.heap.size w ((w.alloc (.cells #[kv, cv] 78)).alloc (.cells #[kv', cv'] 78))) := hal
  have g0 : ∀ w', SameOn All w w' → Rows w' All 6 (HEx w' All d) kv e.1 := fun w' hw => f0.mono (hw) (fun _ h => h) (fun _ _ _ => HEx.mono (hw) (fun _ h => h))
  have g0' : ∀ w', SameOn All w w' → Rows w' All 6 (HEx w' All d) kv' e.1 := fun w' hw => f0'.mono (hw) (fun _ h => h) (fun _ _ _ => HEx.mono (hw) (fun _ h => h))
  have g1 : ∀ w', SameOn All w w' → Rows w' All 6 (HEx w' All d) cv e.2 := fun w' hw => f1.mono (hw) (fun _ h => h) (fun _ _ _ => HEx.mono (hw) (fun _ h => h))
  have g1' : ∀ w', SameOn All w w' → Rows w' All 6 (HEx w' All d) cv' e.2 := fun w' hw => f1'.mono (hw) (fun _ h => h) (fun _ _ _ => HEx.mono (hw) (fun _ h => h))
  clear hal f0 f0' f1 f1'
  go_enter Tryz.func181, Tryz.ntmps181
  go_wp2_with (first | (go_at_call 208; (refine (h1 _ _ _ e.2 (g1 _ (SameOn.of_below (HA.out.trans (HB0.out.mono HA.out.size)))) (g1' _ (SameOn.of_below (HA.out.trans (HB0.out.mono HA.out.size))))).mono ?_; rintro e w1 ⟨rfl, hb1⟩; have HB1 : Hid _ := hb1; clear hb1)) | (go_at_call 208; (refine (h0 _ _ _ e.1 (g0 _ (SameOn.of_below HA.out)) (g0' _ (SameOn.of_below HA.out))).mono ?_; rintro e w0 ⟨rfl, hb0⟩; have HB0 : Hid _ := hb0; have k0 := (hb0.cell (p := ⟨w.heap.size, 1, none⟩) (by simp only [alloc_hs]; omega)).trans ((World.cell?_of_block (a := ⟨w.heap.size, 1, none⟩) (Below.heap_alloc _ _ _ (by simp))).trans (cell_new _ _ _ 1 cv rfl)); have m0 := (hb0.cell (p := ⟨(w.alloc (.cells #[kv, cv] 78)).heap.size, 1, none⟩) (by simp)).trans (cell_new _ _ _ 1 cv' rfl); simp only [alloc_hs] at m0; clear hb0)))
  go_ret
  exact ⟨rfl, ((HA.out.trans (HB0.out.mono HA.out.size)).trans (HB1.out.mono (HA.out.trans (HB0.out.mono HA.out.size)).size))⟩

set_option maxHeartbeats 2000000 in
theorem eqFun_of {d : Nat} (h0 : EqC 147 (fun w v es => Rows w All 2 (HCl w All (HEx w All d)) v es)) :
    EqC 107 (fun w v e => ∃ cs, v = .agg cs.toArray ∧ HFn w All d cs e) := by
  intro w v1 v2 e i1 i2
  obtain ⟨cs, rfl, cv, rfl, p1, p2, f0⟩ := i1
  obtain ⟨cs, rfl, cv', rfl, p1', p2', f0'⟩ := i2
  have hal : Below w.heap.size w ((w.alloc (.cells #[.string e.name, .int .i64 e.arity, cv] 57)).alloc (.cells #[.string e.name, .int .i64 e.arity, cv'] 57)) := ((Below.refl _ _).alloc (Nat.le_refl _) _).alloc (by simp) _
  have HA : Hid (Below w.heap.size w ((w.alloc (.cells #[.string e.name, .int .i64 e.arity, cv] 57)).alloc (.cells #[.string e.name, .int .i64 e.arity, cv'] 57))) := hal
  have g0 : ∀ w', SameOn All w w' → Rows w' All 2 (HCl w' All (HEx w' All d)) cv e.clauses := fun w' hw => f0.mono (hw) (fun _ h => h) (fun _ _ _ h => h.mono (hw) (fun _ h => h) (fun _ _ => HEx.mono (hw) (fun _ h => h)))
  have g0' : ∀ w', SameOn All w w' → Rows w' All 2 (HCl w' All (HEx w' All d)) cv' e.clauses := fun w' hw => f0'.mono (hw) (fun _ h => h) (fun _ _ _ h => h.mono (hw) (fun _ h => h) (fun _ _ => HEx.mono (hw) (fun _ h => h)))
  clear hal f0 f0'
  go_enter Tryz.func107, Tryz.ntmps107
  go_wp2_with (first | (go_at_call 147; (refine (h0 _ _ _ e.clauses (g0 _ (SameOn.of_below HA.out)) (g0' _ (SameOn.of_below HA.out))).mono ?_; rintro e w0 ⟨rfl, hb0⟩; have HB0 : Hid _ := hb0; clear hb0)))
  go_ret
  exact ⟨rfl, (HA.out.trans (HB0.out.mono HA.out.size))⟩

set_option maxHeartbeats 2000000 in
theorem eqRef_of {d : Nat}  :
    EqC 106 (fun w v e => ∃ cs, v = .agg cs.toArray ∧ HRf cs e) := by
  intro w v1 v2 e i1 i2
  obtain ⟨cs, rfl, rfl, p1, p2⟩ := i1
  obtain ⟨cs, rfl, rfl, p1', p2'⟩ := i2
  go_enter Tryz.func106, Tryz.ntmps106
  go_wp2
  go_ret
  exact ⟨rfl, ((Below.refl _ _).alloc (Nat.le_refl _) _).alloc (by simp) _⟩

set_option maxHeartbeats 2000000 in
theorem eqModule_of {d : Nat} (h0 : EqC 65 (fun w v es => Rows w All 2 (HRf) v es)) (h1 : EqC 66 (fun w v es => Rows w All 3 (HFn w All d) v es)) :
    EqC 33 (fun w v e => ∃ cs, v = .agg cs.toArray ∧ HMd w All d cs e) := by
  intro w v1 v2 e i1 i2
  obtain ⟨cs, rfl, kv, cv, rfl, p1, f0, f1⟩ := i1
  obtain ⟨cs, rfl, kv', cv', rfl, p1', f0', f1'⟩ := i2
  have hal : Below w.heap.size w ((w.alloc (.cells #[.string e.name, kv, cv] 54)).alloc (.cells #[.string e.name, kv', cv'] 54)) := ((Below.refl _ _).alloc (Nat.le_refl _) _).alloc (by simp) _
  have HA : Hid (Below w.heap.size w ((w.alloc (.cells #[.string e.name, kv, cv] 54)).alloc (.cells #[.string e.name, kv', cv'] 54))) := hal
  have g0 : ∀ w', SameOn All w w' → Rows w' All 2 HRf kv e.exports := fun w' hw => f0.mono (hw) (fun _ h => h) (fun _ _ _ h => h)
  have g0' : ∀ w', SameOn All w w' → Rows w' All 2 HRf kv' e.exports := fun w' hw => f0'.mono (hw) (fun _ h => h) (fun _ _ _ h => h)
  have g1 : ∀ w', SameOn All w w' → Rows w' All 3 (HFn w' All d) cv e.funs := fun w' hw => f1.mono (hw) (fun _ h => h) (fun _ _ _ h => h.mono (hw) (fun _ h => h))
  have g1' : ∀ w', SameOn All w w' → Rows w' All 3 (HFn w' All d) cv' e.funs := fun w' hw => f1'.mono (hw) (fun _ h => h) (fun _ _ _ h => h.mono (hw) (fun _ h => h))
  clear hal f0 f0' f1 f1'
  go_enter Tryz.func33, Tryz.ntmps33
  go_wp2_with (first | (go_at_call 66; (refine (h1 _ _ _ e.funs (g1 _ (SameOn.of_below (HA.out.trans (HB0.out.mono HA.out.size)))) (g1' _ (SameOn.of_below (HA.out.trans (HB0.out.mono HA.out.size))))).mono ?_; rintro e w1 ⟨rfl, hb1⟩; have HB1 : Hid _ := hb1; clear hb1)) | (go_at_call 65; (refine (h0 _ _ _ e.exports (g0 _ (SameOn.of_below HA.out)) (g0' _ (SameOn.of_below HA.out))).mono ?_; rintro e w0 ⟨rfl, hb0⟩; have HB0 : Hid _ := hb0; have k0 := (hb0.cell (p := ⟨w.heap.size, 2, none⟩) (by simp only [alloc_hs]; omega)).trans ((World.cell?_of_block (a := ⟨w.heap.size, 2, none⟩) (Below.heap_alloc _ _ _ (by simp))).trans (cell_new _ _ _ 2 cv rfl)); have m0 := (hb0.cell (p := ⟨(w.alloc (.cells #[.string e.name, kv, cv] 54)).heap.size, 2, none⟩) (by simp)).trans (cell_new _ _ _ 2 cv' rfl); simp only [alloc_hs] at m0; clear hb0)))
  go_ret
  exact ⟨rfl, ((HA.out.trans (HB0.out.mono HA.out.size)).trans (HB1.out.mono (HA.out.trans (HB0.out.mono HA.out.size)).size))⟩

theorem eqExp_all : ∀ d, EqC 224 (fun w v e => ∃ cs, v = .agg cs.toArray ∧ HEx w All d cs e)
  | 0 => fun w v v' x ⟨_, _, h⟩ _ => h.elim
  | d + 1 => eqExp_of (eqExpS_of (eqExp_all d)) (eqClauseS_of (eqClause_of (eqExpS_of (eqExp_all d)) (eqExpS_of (eqExp_all d))))
theorem eqClauseS_all (d : Nat) : EqC 147 (fun w v es => Rows w All 2 (HCl w All (HEx w All d)) v es) :=
  eqClauseS_of (eqClause_of (eqExpS_of (eqExp_all d)) (eqExpS_of (eqExp_all d)))

/-- THE LAWS' eqModule. -/
theorem eqModule_all (d : Nat) : EqC 33 (fun w v m => ∃ cs, v = .agg cs.toArray ∧ HMd w All d cs m) :=
  eqModule_of (eqRefS_of (d := 0) (eqRef_of (d := 0))) (eqFunS_of (eqFun_of (eqClauseS_all d)))
end Go.Proofs.YtihffcphbcepoaaGreatDoor
/-
  The laws' eqModuleS: two rows of modules that are alike.
-/
namespace Go.Proofs.YtihffcphbcepoaaGreatDoor
open Go.ChangeShapes Go.WideShapes Go.ChangeAt Go.RowKit
set_option linter.unusedVariables false

set_option maxHeartbeats 2000000 in
theorem eqModuleS_of {d : Nat} (hE : EqC 33 (fun w v e => ∃ cs, v = .agg cs.toArray ∧ HMd w All d cs e)) :
    EqC 11 (fun w v es => Rows w All 3 (HMd w All d) v es) := by
  intro w v1 v2 es h1 h2
  obtain ⟨p, cap, rfl, hcl, hcm, hx⟩ := h1
  obtain ⟨q, cap', rfl, hcl', hcm', hy⟩ := h2
  generalize hn : es.length = n at *
  have HN : Hid (es.length = n) := hn
  have HX : Hid _ := hx
  have HY : Hid _ := hy
  have hnb : n ≤ 9223372036854775807 := by unfold maxLen at hcm; omega
  clear hx hy hn
  go_enter Tryz.func11, Tryz.ntmps11
  go_wp2
  go_loopw [5] (fun iv wr => ∃ k : Nat, k ≤ n ∧ iv = .int .i64 k ∧ Below w.heap.size w wr) (fun iv _ => n - (intOf iv).toNat)
  case atStart => exact ⟨0, Nat.zero_le _, rfl, Below.refl _ _⟩
  case round =>
    obtain ⟨k, hk, rfl, hb⟩ := hrel
    have HB : Hid (Below w.heap.size w wr) := hb
    by_cases hlt : k < n
    · obtain ⟨x, hxk⟩ : ∃ x, es[k]? = some x := ⟨es[k]'(by rw [HN.out]; exact hlt), List.getElem?_eq_getElem _⟩
      have hne : es ≠ [] := by intro h; rw [h] at hxk; simp at hxk
      obtain ⟨g, off, rfl, _, hgl, hat⟩ := HX.out hne
      obtain ⟨g', off', rfl, _, hgl', hat'⟩ := HY.out hne
      obtain ⟨cs, hcl6, hcs, hex⟩ := hat k x hxk
      obtain ⟨cs', hcl6', hcs', hex'⟩ := hat' k x hxk
      have E1 : ∀ w', SameOn All wr w' → HMd w' All d cs x := fun w' hw => hex.mono (SameOn.trans (SameOn.of_below hb) hw) (fun _ h => h)
      have E2 : ∀ w', SameOn All wr w' → HMd w' All d cs' x := fun w' hw => hex'.mono (SameOn.trans (SameOn.of_below hb) hw) (fun _ h => h)
      obtain ⟨c0, c1, c2, rfl⟩ := len3 hcl6
      obtain ⟨d0, d1, d2, rfl⟩ := len3 hcl6'
      have a0 := hcs 0 (by omega)
      have b0 := hcs' 0 (by omega)
      have a1 := hcs 1 (by omega)
      have b1 := hcs' 1 (by omega)
      have a2 := hcs 2 (by omega)
      have b2 := hcs' 2 (by omega)
      rw [← hb.cell (p := ⟨g, _, none⟩) hgl] at a0 a1 a2
      rw [← hb.cell (p := ⟨g', _, none⟩) hgl'] at b0 b1 b2
      simp at a0 a1 a2 b0 b1 b2
      clear hb hcs hat hex hcl6 hcs' hat' hex' hcl6' hne
      go_wp2
      go_region_with ((go_at_call 33; refine (hE _ _ _ x ⟨_, rfl, E1 _ (by exact ⟨Nat.le_refl _, fun _ _ _ => rfl⟩)⟩ ⟨_, rfl, E2 _ (by exact ⟨Nat.le_refl _, fun _ _ _ => rfl⟩)⟩).mono ?_; rintro e w1 ⟨rfl, hb1⟩; have HB1 : Hid _ := hb1; clear hb1))
      all_goals go_wp2
      all_goals
        have hbe : Below w.heap.size w w1 := by
          refine Below.trans ?_ (HB1.out.mono (by exact HB.out.size))
          repeat (first | exact HB.out | apply Below.drew)
        exact ⟨⟨k + 1, by omega, by go_num, hbe⟩, by simp [intOf]; omega⟩
    · go_wp2
      go_ret
      exact ⟨rfl, HB.out⟩

theorem eqModuleS_all (d : Nat) : EqC 11 (fun w v es => Rows w All 3 (HMd w All d) v es) := eqModuleS_of (eqModule_all d)
end Go.Proofs.YtihffcphbcepoaaGreatDoor
/-
  Expressions and clauses that own their memory.
-/
namespace Go.Proofs.YtihffcphbcepoaaGreatDoor
open Go.ChangeShapes Go.WideShapes Go.ChangeAt Go.RowKit
set_option linter.unusedVariables false

/-- Two cells that are a clause which owns its memory. -/
def OCl (w : World) (O : List Value → Ex → List Nat → Prop) (cs : List Value) (c : Cl) (fp : List Nat) : Prop :=
  ∃ pv bv f1 f2, cs = [pv, bv] ∧ fp = f1 ++ f2 ∧ ORows w 88 6 O pv c.1 f1 ∧ ORows w 88 6 O bv c.2 f2
/-- Six cells that are an expression which owns its memory. -/
def OEx (w : World) : Nat → List Value → Ex → List Nat → Prop
  | 0, _, _, _ => False
  | d + 1, cs, e, fp => ∃ kv cv f1 f2, cs = [.int .i64 e.kind, .int .i64 e.n, .string e.text, .string e.mod, kv, cv] ∧ fp = f1 ++ f2 ∧ okI e.kind ∧ okI e.n ∧ okS e.text ∧ okS e.mod ∧
      ORows w 88 6 (OEx w d) kv e.kids f1 ∧ ORows w 78 2 (OCl w (OEx w d)) cv e.clauses f2
abbrev OCls (w : World) (d : Nat) : List Value → Cl → List Nat → Prop := OCl w (OEx w d)

theorem OCl.keep' {w w' : World} {O O' : List Value → Ex → List Nat → Prop} {cs : List Value} {c : Cl} {fp : List Nat} (h : OCl w O cs c fp) (hk : KeepOn fp w w') (hO : ∀ cs x f, (∀ a ∈ f, a ∈ fp) → O cs x f → O' cs x f) : OCl w' O' cs c fp := by
  obtain ⟨pv, bv, f1, f2, rfl, rfl, h1, h2⟩ := h
  refine ⟨pv, bv, f1, f2, rfl, rfl, h1.keep (hk.sub (fun a ha => by simp [ha])) (fun cs x f _ hs => hO cs x f (fun a ha => by simp [hs a ha])), h2.keep (hk.sub (fun a ha => by simp [ha])) (fun cs x f _ hs => hO cs x f (fun a ha => by simp [hs a ha]))⟩
theorem OEx.keep {w w' : World} : ∀ {d : Nat} {cs : List Value} {e : Ex} {fp : List Nat}, OEx w d cs e fp → KeepOn fp w w' → OEx w' d cs e fp
  | 0, _, _, _, h, _ => h.elim
  | d + 1, cs, e, fp, h, hk => by
    obtain ⟨kv, cv, f1, f2, rfl, rfl, h1, h2, h3, h4, hr, hc⟩ := h
    refine ⟨kv, cv, f1, f2, rfl, rfl, h1, h2, h3, h4, hr.keep (hk.sub (fun a ha => by simp [ha])) (fun cs x f _ hs h => h.keep (hk.sub (fun a ha => by simp [hs a ha]))), hc.keep (hk.sub (fun a ha => by simp [ha])) (fun cs x f _ hs h => ?_)⟩
    exact h.keep' (hk.sub (fun a ha => by simp [hs a ha])) (fun cs x g hg h => h.keep (hk.sub (fun a ha => by simp [hs a (hg a ha)])))
theorem OCls.keep {w w' : World} {d : Nat} {cs : List Value} {c : Cl} {fp : List Nat} (h : OCl w (OEx w d) cs c fp) (hk : KeepOn fp w w') : OCl w' (OEx w' d) cs c fp :=
  h.keep' hk (fun cs x g hg h => h.keep (hk.sub hg))
theorem OCl.tree' {w : World} {S : Nat → Prop} {O : List Value → Ex → List Nat → Prop} {R : List Value → Ex → Prop} {cs : List Value} {c : Cl} {fp : List Nat} (h : OCl w O cs c fp) (hS : ∀ a ∈ fp, S a) (hO : ∀ cs x f, (∀ a ∈ f, a ∈ fp) → O cs x f → R cs x) : HCl w S R cs c := by
  obtain ⟨pv, bv, f1, f2, rfl, rfl, h1, h2⟩ := h
  exact ⟨pv, bv, rfl, h1.rows (fun a ha => hS a (by simp [ha])) (fun cs x f _ hs => hO cs x f (fun a ha => by simp [hs a ha])), h2.rows (fun a ha => hS a (by simp [ha])) (fun cs x f _ hs => hO cs x f (fun a ha => by simp [hs a ha]))⟩
theorem OEx.tree {w : World} {S : Nat → Prop} : ∀ {d : Nat} {cs : List Value} {e : Ex} {fp : List Nat}, OEx w d cs e fp → (∀ a ∈ fp, S a) → HEx w S d cs e
  | 0, _, _, _, h, _ => h.elim
  | d + 1, cs, e, fp, h, hS => by
    obtain ⟨kv, cv, f1, f2, rfl, rfl, h1, h2, h3, h4, hr, hc⟩ := h
    refine ⟨kv, cv, rfl, h1, h2, h3, h4, hr.rows (fun a ha => hS a (by simp [ha])) (fun cs x f _ hs h => h.tree (fun a ha => hS a (by simp [hs a ha]))), hc.rows (fun a ha => hS a (by simp [ha])) (fun cs x f _ hs h => ?_)⟩
    exact h.tree' (fun a ha => hS a (by simp [hs a ha])) (fun cs x g hg h => h.tree (fun a ha => hS a (by simp [hs a (hg a ha)])))
theorem OCls.tree {w : World} {S : Nat → Prop} {d : Nat} {cs : List Value} {c : Cl} {fp : List Nat} (h : OCl w (OEx w d) cs c fp) (hS : ∀ a ∈ fp, S a) : HCl w S (HEx w S d) cs c :=
  h.tree' hS (fun cs x g hg h => h.tree (fun a ha => hS a (hg a ha)))
theorem OCl.lt' {w : World} {O : List Value → Ex → List Nat → Prop} {cs : List Value} {c : Cl} {fp : List Nat} (h : OCl w O cs c fp) (hO : ∀ cs x f, O cs x f → ∀ a ∈ f, a < w.heap.size) : ∀ a ∈ fp, a < w.heap.size := by
  obtain ⟨pv, bv, f1, f2, rfl, rfl, h1, h2⟩ := h
  intro a ha
  rcases List.mem_append.1 ha with ha | ha
  · exact h1.lt hO a ha
  · exact h2.lt hO a ha
theorem OEx.lt {w : World} : ∀ {d : Nat} {cs : List Value} {e : Ex} {fp : List Nat}, OEx w d cs e fp → ∀ a ∈ fp, a < w.heap.size
  | 0, _, _, _, h => h.elim
  | d + 1, cs, e, fp, h => by
    obtain ⟨kv, cv, f1, f2, rfl, rfl, h1, h2, h3, h4, hr, hc⟩ := h
    intro a ha
    rcases List.mem_append.1 ha with ha | ha
    · exact hr.lt (fun cs x f h => h.lt) a ha
    · exact hc.lt (fun cs x f h => h.lt' (fun cs x f h => h.lt)) a ha
theorem OEx.shape {w : World} {d : Nat} {cs : List Value} {x : Ex} {fp : List Nat} (h : OEx w d cs x fp) : ∃ sk sn st se p1 n1 q1 p2 n2 q2, cs = [.int .i64 sk, .int .i64 sn, .string st, .string se, .slice p1 n1 q1, .slice p2 n2 q2] := by
  cases d with
  | zero => exact h.elim
  | succ d =>
    obtain ⟨kv, cv, f1, f2, rfl, rfl, _, _, _, _, hr, hc⟩ := h
    obtain ⟨p1, c1, rfl, _⟩ := hr.shape
    obtain ⟨p2, c2, rfl, _⟩ := hc.shape
    exact ⟨_, _, _, _, _, _, _, _, _, _, rfl⟩
theorem OCl.shape {w : World} {O : List Value → Ex → List Nat → Prop} {cs : List Value} {x : Cl} {fp : List Nat} (h : OCl w O cs x fp) : ∃ p1 n1 q1 p2 n2 q2, cs = [.slice p1 n1 q1, .slice p2 n2 q2] := by
  obtain ⟨pv, bv, f1, f2, rfl, rfl, h1, h2⟩ := h
  obtain ⟨p1, c1, rfl, _⟩ := h1.shape
  obtain ⟨p2, c2, rfl, _⟩ := h2.shape
  exact ⟨_, _, _, _, _, _, rfl⟩
end Go.Proofs.YtihffcphbcepoaaGreatDoor
/-
  The laws' toExp and toClause: a copy of an expression or a clause in memory that the copy owns.
-/
namespace Go.Proofs.YtihffcphbcepoaaGreatDoor
open Go.ChangeShapes Go.WideShapes Go.ChangeAt Go.RowKit
set_option linter.unusedVariables false


set_option maxHeartbeats 4000000 in
theorem toExpS_ofO {d : Nat} (hE : ToO 220 (fun w v e => ∃ cs, v = .agg cs.toArray ∧ HEx w All d cs e) (fun w v e fp => ∃ cs, v = .agg cs.toArray ∧ OEx w d cs e fp) (wtEx d)) :
    ToO 202 (fun w v es => Rows w All 6 (HEx w All d) v es) (fun w v es fp => ORows w 88 6 (OEx w d) v es fp) (wtS (wtEx d)) := by
  intro w v es h hwt
  obtain ⟨p, cap, rfl, hcl, hcm, hx⟩ := h
  generalize hn : es.length = n at *
  have HN : Hid (es.length = n) := hn
  have HX : Hid _ := hx
  have hnb : n ≤ 1048576 := by unfold wtS at hwt; omega
  have HWT : Hid (wtS (wtEx d) es ≤ 1048576) := hwt
  clear hx hn hwt
  obtain ⟨M, hM, hmk⟩ := make_row (t := 76) (e := 88) (c := 6) Tryz.underlying76 (by kernel_rfl) w n hnb
  have HO : Hid (Made w (w.alloc (.cells M 88)) w.heap.size n 88 6 (fun w => OEx w d) es 0 M.toList []) := Made.start hM (by unfold maxLen; omega)
  generalize hG : w.heap.size = G at *
  have HG : Hid (w.heap.size = G) := hG
  go_enter Tryz.func202, Tryz.ntmps202
  go_wp2
  go_loopw [4] (fun iv wr => ∃ (k : Nat) (xs : List Value) (fps : List (List Nat)), k ≤ n ∧ iv = .int .i64 k ∧ Hid (Made w wr G n 88 6 (fun w => OEx w d) es k xs fps)) (fun iv _ => n - (intOf iv).toNat)
  case atStart => exact ⟨0, M.toList, [], Nat.zero_le _, rfl, HO⟩
  case round =>
    obtain ⟨k, xs, fps, hk, rfl, HM⟩ := hrel
    by_cases hlt : k < n
    · obtain ⟨x, hxk⟩ : ∃ x, es[k]? = some x := ⟨es[k]'(by rw [HN.out]; exact hlt), List.getElem?_eq_getElem _⟩
      obtain ⟨g, off, rfl, hg, hgl, hat⟩ := HX.out (by intro h; rw [h] at hxk; simp at hxk)
      obtain ⟨cs, hcl6, hcs, hex⟩ := hat k x hxk
      have hbw : Below w.heap.size w wr := by rw [HG.out]; exact HM.out.below
      have hex' : ∀ w', SameOn All wr w' → HEx w' All d cs x := fun w' hw => hex.mono (SameOn.trans (SameOn.of_below hbw) hw) (fun _ h => h)
      obtain ⟨z0, z1, z2, z3, z4, z5, rfl⟩ := len6 hcl6
      have a0 := hcs 0 (by omega)
      have a1 := hcs 1 (by omega)
      have a2 := hcs 2 (by omega)
      have a3 := hcs 3 (by omega)
      have a4 := hcs 4 (by omega)
      have a5 := hcs 5 (by omega)
      rw [← hbw.cell (p := ⟨g, _, none⟩) (by show g < w.heap.size; rw [HG.out]; exact hgl)] at a0 a1 a2 a3 a4 a5
      simp at a0 a1 a2 a3 a4 a5
      have hwx : wtEx d x ≤ 1048576 := by
        have h1 := HWT.out
        have h2 := sum_take_succ (wtEx d) es k x hxk
        have h3 := sum_take_le (wtEx d) es (k + 1)
        unfold wtS at h1
        omega
      clear hbw hcs hat hex hcl6
      go_wp2_with (go_at_call 220; go_must (refine (hE _ _ x ⟨_, rfl, hex' _ (by exact ⟨Nat.le_refl _, fun _ _ _ => rfl⟩)⟩ hwx).mono ?_; rintro e w1 ⟨u, fp, rfl, ⟨cs', rfl, hx1⟩, hnd, hrg, hb1⟩; obtain ⟨sk, sn, st, se, p1, n1, q1, p2, n2, q2, hsh⟩ := hx1.shape; subst hsh; have HB1 : Hid (Below wr.heap.size wr w1) := hb1; have HX1 : Hid (OEx w1 d [.int .i64 sk, .int .i64 sn, .string st, .string se, .slice p1 n1 q1, .slice p2 n2 q2] x fp) := hx1; have HND : Hid fp.Nodup := hnd; have HRG : Hid (∀ a ∈ fp, wr.heap.size ≤ a ∧ a < w1.heap.size) := hrg; have o1 := HM.out.own.kept (grownBy_belowR (r := none) hb1) (Or.inr (by simp [Value.ownBlock])); have HO1 : Hid (w1.ownsRow G 88 6 (.slice (some ⟨G, 0, none⟩) n n) n xs) := o1; have f0 := o1.frozenAt (k * 6); obtain ⟨y0, g0⟩ := own_someR o1 (k * 6) (by omega); have f1 := o1.frozenAt (k * 6 + 1); obtain ⟨y1, g1⟩ := own_someR o1 (k * 6 + 1) (by omega); have f2 := o1.frozenAt (k * 6 + 2); obtain ⟨y2, g2⟩ := own_someR o1 (k * 6 + 2) (by omega); have f3 := o1.frozenAt (k * 6 + 3); obtain ⟨y3, g3⟩ := own_someR o1 (k * 6 + 3) (by omega); have f4 := o1.frozenAt (k * 6 + 4); obtain ⟨y4, g4⟩ := own_someR o1 (k * 6 + 4) (by omega); have f5 := o1.frozenAt (k * 6 + 5); obtain ⟨y5, g5⟩ := own_someR o1 (k * 6 + 5) (by omega); clear o1 hb1 hx1 hnd hrg))
      have sd := stored6 HO1.out (k * 6) (.int .i64 sk) (.int .i64 sn) (.string st) (.string se) (.slice p1 n1 q1) (.slice p2 n2 q2)
      have hlen : xs.length = n * 6 := HO1.out.1
      exact ⟨⟨k + 1, _, _, by omega, by go_num, HM.out.step (fun w w' cs x f h hk => h.keep hk) hxk HB1.out HX1.out HND.out HRG.out rfl sd.1 sd.2 (fun m hm => set6_other hm) (fun j hj => set6_self (by omega) j hj)⟩, by simp [intOf]; omega⟩
    · obtain rfl : k = n := by omega
      obtain ⟨fp, r1, r2, r3⟩ := HM.out.done HN.out (by unfold maxLen; omega)
      have R1 : Hid (ORows wr 88 6 (OEx wr d) (.slice (some ⟨G, 0, none⟩) k k) es fp) := r1
      have R2 : Hid (fp.Nodup ∧ ∀ a ∈ fp, G ≤ a ∧ a < wr.heap.size) := ⟨r2, r3⟩
      clear r1 r2 r3
      go_wp2
      go_ret
      exact ⟨_, fp, rfl, R1.out, R2.out.1, R2.out.2, HM.out.below⟩

set_option maxHeartbeats 4000000 in
theorem toClauseS_ofO {d : Nat} (hE : ToO 168 (fun w v e => ∃ cs, v = .agg cs.toArray ∧ HCl w All (HEx w All d) cs e) (fun w v e fp => ∃ cs, v = .agg cs.toArray ∧ OCls w d cs e fp) (wtCl (wtEx d))) :
    ToO 128 (fun w v es => Rows w All 2 (HCl w All (HEx w All d)) v es) (fun w v es fp => ORows w 78 2 (OCls w d) v es fp) (wtS (wtCl (wtEx d))) := by
  intro w v es h hwt
  obtain ⟨p, cap, rfl, hcl, hcm, hx⟩ := h
  generalize hn : es.length = n at *
  have HN : Hid (es.length = n) := hn
  have HX : Hid _ := hx
  have hnb : n ≤ 1048576 := by unfold wtS at hwt; omega
  have HWT : Hid (wtS (wtCl (wtEx d)) es ≤ 1048576) := hwt
  clear hx hn hwt
  obtain ⟨M, hM, hmk⟩ := make_row (t := 55) (e := 78) (c := 2) Tryz.underlying55 (by kernel_rfl) w n hnb
  have HO : Hid (Made w (w.alloc (.cells M 78)) w.heap.size n 78 2 (fun w => OCls w d) es 0 M.toList []) := Made.start hM (by unfold maxLen; omega)
  generalize hG : w.heap.size = G at *
  have HG : Hid (w.heap.size = G) := hG
  go_enter Tryz.func128, Tryz.ntmps128
  go_wp2
  go_loopw [4] (fun iv wr => ∃ (k : Nat) (xs : List Value) (fps : List (List Nat)), k ≤ n ∧ iv = .int .i64 k ∧ Hid (Made w wr G n 78 2 (fun w => OCls w d) es k xs fps)) (fun iv _ => n - (intOf iv).toNat)
  case atStart => exact ⟨0, M.toList, [], Nat.zero_le _, rfl, HO⟩
  case round =>
    obtain ⟨k, xs, fps, hk, rfl, HM⟩ := hrel
    by_cases hlt : k < n
    · obtain ⟨x, hxk⟩ : ∃ x, es[k]? = some x := ⟨es[k]'(by rw [HN.out]; exact hlt), List.getElem?_eq_getElem _⟩
      obtain ⟨g, off, rfl, hg, hgl, hat⟩ := HX.out (by intro h; rw [h] at hxk; simp at hxk)
      obtain ⟨cs, hcl6, hcs, hex⟩ := hat k x hxk
      have hbw : Below w.heap.size w wr := by rw [HG.out]; exact HM.out.below
      have hex' : ∀ w', SameOn All wr w' → HCl w' All (HEx w' All d) cs x := fun w' hw => hex.mono (SameOn.trans (SameOn.of_below hbw) hw) (fun _ h => h) (fun _ _ => HEx.mono (SameOn.trans (SameOn.of_below hbw) hw) (fun _ h => h))
      obtain ⟨z0, z1, rfl⟩ := len2 hcl6
      have a0 := hcs 0 (by omega)
      have a1 := hcs 1 (by omega)
      rw [← hbw.cell (p := ⟨g, _, none⟩) (by show g < w.heap.size; rw [HG.out]; exact hgl)] at a0 a1
      simp at a0 a1
      have hwx : wtCl (wtEx d) x ≤ 1048576 := by
        have h1 := HWT.out
        have h2 := sum_take_succ (wtCl (wtEx d)) es k x hxk
        have h3 := sum_take_le (wtCl (wtEx d)) es (k + 1)
        unfold wtS at h1
        omega
      clear hbw hcs hat hex hcl6
      go_wp2_with (go_at_call 168; go_must (refine (hE _ _ x ⟨_, rfl, hex' _ (by exact ⟨Nat.le_refl _, fun _ _ _ => rfl⟩)⟩ hwx).mono ?_; rintro e w1 ⟨u, fp, rfl, ⟨cs', rfl, hx1⟩, hnd, hrg, hb1⟩; obtain ⟨p1, n1, q1, p2, n2, q2, hsh⟩ := hx1.shape; subst hsh; have HB1 : Hid (Below wr.heap.size wr w1) := hb1; have HX1 : Hid (OCls w1 d [.slice p1 n1 q1, .slice p2 n2 q2] x fp) := hx1; have HND : Hid fp.Nodup := hnd; have HRG : Hid (∀ a ∈ fp, wr.heap.size ≤ a ∧ a < w1.heap.size) := hrg; have o1 := HM.out.own.kept (grownBy_belowR (r := none) hb1) (Or.inr (by simp [Value.ownBlock])); have HO1 : Hid (w1.ownsRow G 78 2 (.slice (some ⟨G, 0, none⟩) n n) n xs) := o1; have f0 := o1.frozenAt (k * 2); obtain ⟨y0, g0⟩ := own_someR o1 (k * 2) (by omega); have f1 := o1.frozenAt (k * 2 + 1); obtain ⟨y1, g1⟩ := own_someR o1 (k * 2 + 1) (by omega); clear o1 hb1 hx1 hnd hrg))
      have sd := stored2 HO1.out (k * 2) (.slice p1 n1 q1) (.slice p2 n2 q2)
      have hlen : xs.length = n * 2 := HO1.out.1
      exact ⟨⟨k + 1, _, _, by omega, by go_num, Made.step (O := fun w => OCls w d) (c := 2) (fun w w' cs x f h hk => OCls.keep h hk) HM.out hxk HB1.out HX1.out HND.out HRG.out rfl sd.1 sd.2 (fun m hm => set2_other hm) (fun j hj => set2_self (by omega) j hj)⟩, by simp [intOf]; omega⟩
    · obtain rfl : k = n := by omega
      obtain ⟨fp, r1, r2, r3⟩ := HM.out.done HN.out (by unfold maxLen; omega)
      have R1 : Hid (ORows wr 78 2 (OCls wr d) (.slice (some ⟨G, 0, none⟩) k k) es fp) := r1
      have R2 : Hid (fp.Nodup ∧ ∀ a ∈ fp, G ≤ a ∧ a < wr.heap.size) := ⟨r2, r3⟩
      clear r1 r2 r3
      go_wp2
      go_ret
      exact ⟨_, fp, rfl, R1.out, R2.out.1, R2.out.2, HM.out.below⟩

set_option maxHeartbeats 4000000 in
theorem toClause_ofO {d : Nat} (h0 : ToO 202 (fun w v es => Rows w All 6 (HEx w All d) v es) (fun w v es fp => ORows w 88 6 (OEx w d) v es fp) (wtS (wtEx d))) (h1 : ToO 202 (fun w v es => Rows w All 6 (HEx w All d) v es) (fun w v es fp => ORows w 88 6 (OEx w d) v es fp) (wtS (wtEx d))) :
    ToO 168 (fun w v e => ∃ cs, v = .agg cs.toArray ∧ HCl w All (HEx w All d) cs e) (fun w v e fp => ∃ cs, v = .agg cs.toArray ∧ OCl w (OEx w d) cs e fp) (wtCl (wtEx d)) := by
  intro w v e i1 hwt
  obtain ⟨cs, rfl, v0, v1, rfl, f0, f1⟩ := i1
  have hw0 : wtS (wtEx d) e.1 ≤ 1048576 := by unfold wtCl at hwt; omega
  have E0 : ∀ w', SameOn All w w' → Rows w' All 6 (HEx w' All d) v0 e.1 := fun w' hw => f0.mono hw (fun _ h => h) (fun _ _ _ => HEx.mono hw (fun _ h => h))
  have hw1 : wtS (wtEx d) e.2 ≤ 1048576 := by unfold wtCl at hwt; omega
  have E1 : ∀ w', SameOn All w w' → Rows w' All 6 (HEx w' All d) v1 e.2 := fun w' hw => f1.mono hw (fun _ h => h) (fun _ _ _ => HEx.mono hw (fun _ h => h))
  obtain ⟨p0, c0, rfl, _⟩ := id f0
  obtain ⟨p1, c1, rfl, _⟩ := id f1
  clear f0 f1
  go_enter Tryz.func168, Tryz.ntmps168
  go_wp2_with fail
  have hal : Below w.heap.size w (((w.alloc (.cells #[.slice p0 e.1.length c0, .slice p1 e.2.length c1] 219)).alloc (.cells #[.slice none 0 0, .slice none 0 0] 78)).alloc (.cells #[.slice none 0 0, .slice none 0 0] 78)) := (((Below.refl _ _).alloc (Nat.le_refl _) _).alloc (by simp only [alloc_hs]; omega) _).alloc (by simp only [alloc_hs]; omega) _
  refine (h0 _ _ e.1 (E0 _ (SameOn.of_below hal)) hw0).mono ?_
  rintro ex w1 ⟨u, fA, rfl, r0, ndA, rgA, hb⟩
  have bA := ((Blk.new (w := w) (cs := #[.slice p0 e.1.length c0, .slice p1 e.2.length c1]) (t := 219)).alloc (o := .cells #[.slice none 0 0, .slice none 0 0] 78)).alloc (o := .cells #[.slice none 0 0, .slice none 0 0] 78)
  have bR := (Blk.new (w := (w.alloc (.cells #[.slice p0 e.1.length c0, .slice p1 e.2.length c1] 219))) (cs := #[.slice none 0 0, .slice none 0 0]) (t := 78)).alloc (o := .cells #[.slice none 0 0, .slice none 0 0] 78)
  have bO := (Blk.new (w := ((w.alloc (.cells #[.slice p0 e.1.length c0, .slice p1 e.2.length c1] 219)).alloc (.cells #[.slice none 0 0, .slice none 0 0] 78))) (cs := #[.slice none 0 0, .slice none 0 0]) (t := 78))
  simp only [alloc_hs] at bA bR bO rgA
  replace bA := bA.below hb (by simp only [alloc_hs]; omega)
  replace bR := bR.below hb (by simp only [alloc_hs]; omega)
  replace bO := bO.below hb (by simp only [alloc_hs]; omega)
  have B1 : Below w.heap.size w w1 := hal.trans (hb.mono hal.size)
  have z1 : w.heap.size + 3 ≤ w1.heap.size := by have := hb.size; simp only [alloc_hs] at this; omega
  have Z1 : Hid (w.heap.size + 3 ≤ w1.heap.size) := z1
  have T0 : Hid (ORows w1 88 6 (OEx w1 d) u e.1 fA) := r0
  have NA : Hid (fA.Nodup) := ndA
  have GA : Hid (∀ a ∈ fA, w.heap.size + 1 + 1 + 1 ≤ a ∧ a < w1.heap.size) := rgA
  clear hal hb z1 ndA rgA
  obtain ⟨p0', c0', hu, _⟩ := r0.shape
  subst hu
  clear r0
  have a1 := bA.cell 1 _ rfl
  have o0 := bO.cell 0 _ rfl
  have g0 := bO.frozen 0
  have HA : Hid (Blk w1 w.heap.size #[.slice p0 e.1.length c0, .slice p1 e.2.length c1] 219) := bA
  have HR : Hid (Blk w1 (w.heap.size + 1) #[.slice none 0 0, .slice none 0 0] 78) := bR
  have HO : Hid (Blk w1 (w.heap.size + 1 + 1) #[.slice none 0 0, .slice none 0 0] 78) := bO
  have HB1 : Hid (Below w.heap.size w w1) := B1
  clear bA bR bO B1
  go_wp2_with fail
  have hp : Below w.heap.size w (w1.setCell ⟨w.heap.size + 1 + 1, 0, none⟩ (.slice p0' e.1.length c0')) := HB1.out.setCell (by show _ ≤ w.heap.size + 1 + 1; omega) _
  refine (h1 _ _ e.2 (E1 _ (SameOn.of_below hp)) hw1).mono ?_
  rintro ex w2 ⟨u, fB, rfl, r1, ndB, rgB, hb⟩
  have bA := ((HA.out.other (p := ⟨w.heap.size + 1 + 1, 0, none⟩) (v := (.slice p0' e.1.length c0')) (by show w.heap.size ≠ w.heap.size + 1 + 1; omega)).below hb (by have := Z1.out; simp only [setCell_hs]; omega))
  have bR := ((HR.out.other (p := ⟨w.heap.size + 1 + 1, 0, none⟩) (v := (.slice p0' e.1.length c0')) (by show w.heap.size + 1 ≠ w.heap.size + 1 + 1; omega)).below hb (by have := Z1.out; simp only [setCell_hs]; omega))
  have bO := ((HO.out.same (j := 0) (v := (.slice p0' e.1.length c0')) (cs' := #[.slice p0' e.1.length c0', .slice none 0 0]) rfl).below hb (by have := Z1.out; simp only [setCell_hs]; omega))
  have B2 : Below w.heap.size w w2 := hp.trans (hb.mono hp.size)
  simp only [setCell_hs] at rgB
  have k01 : KeepOn fA w1 w2 := fun a ha => by
    have h := GA.out a ha
    exact (hb.block a (by simp only [setCell_hs]; exact h.2)).trans (Below.heap_setCell _ _ _ _ (by show a ≠ w.heap.size + 1 + 1; omega))
  have T0 : Hid (ORows w2 88 6 (OEx w2 d) (.slice p0' e.1.length c0') e.1 fA) := by have h := T0.out; exact h.keep k01 (fun cs x f _ hs h => h.keep (k01.sub hs))
  have T1 : Hid (ORows w2 88 6 (OEx w2 d) u e.2 fB) := r1
  have sz2 : w1.heap.size ≤ w2.heap.size := by have := hb.size; simp only [setCell_hs] at this; exact this
  have HND : Hid ((fA ++ fB).Nodup) := by
    show List.Nodup _
    rw [List.nodup_append]
    exact ⟨NA.out, ndB, fun a ha b hb => by have := GA.out a ha; have := rgB b hb; omega⟩
  have HRG : Hid (∀ a ∈ fA ++ fB, w.heap.size + 1 + 1 + 1 ≤ a ∧ a < w2.heap.size) := fun a ha => by
    rcases List.mem_append.1 ha with ha | ha
    · have := GA.out a ha; omega
    · have := rgB a ha; have := Z1.out; omega
  have HB2 : Hid (Below w.heap.size w w2) := B2
  obtain ⟨p1', c1', hu, _⟩ := r1.shape
  subst hu
  clear hp hb r1 HA HR HO HB1 k01 ndB rgB NA GA sz2 B2
  have o0 := bO.cell 0 _ rfl
  have q0 := bR.cell 0 _ rfl
  have k0 := bR.frozen 0
  have o1 := bO.cell 1 _ rfl
  have q1 := bR.cell 1 _ rfl
  have k1 := bR.frozen 1
  have g1 := bO.frozen 1
  clear bA bR bO
  go_wp2_with fail
  have sf : SameOn (fun g => w.heap.size + 1 + 1 + 1 ≤ g) w2 (((w2.setCell ⟨w.heap.size + 1 + 1, 1, none⟩ (.slice p1' e.2.length c1')).setCell ⟨w.heap.size + 1, 0, none⟩ (.slice p0' e.1.length c0')).setCell ⟨w.heap.size + 1, 1, none⟩ (.slice p1' e.2.length c1')) := SameOn.setCell (SameOn.setCell (SameOn.setCell (SameOn.of_below (Below.refl _ _)) (by show ¬ (_ ≤ w.heap.size + 1 + 1); omega) _) (by show ¬ (_ ≤ w.heap.size + 1); omega) _) (by show ¬ (_ ≤ w.heap.size + 1); omega) _
  have bf : Below w.heap.size w (((w2.setCell ⟨w.heap.size + 1 + 1, 1, none⟩ (.slice p1' e.2.length c1')).setCell ⟨w.heap.size + 1, 0, none⟩ (.slice p0' e.1.length c0')).setCell ⟨w.heap.size + 1, 1, none⟩ (.slice p1' e.2.length c1')) := Below.setCell (Below.setCell (Below.setCell (HB2.out) (by show _ ≤ w.heap.size + 1 + 1; omega) _) (by show _ ≤ w.heap.size + 1; omega) _) (by show _ ≤ w.heap.size + 1; omega) _
  have kf : KeepOn (fA ++ fB) w2 (((w2.setCell ⟨w.heap.size + 1 + 1, 1, none⟩ (.slice p1' e.2.length c1')).setCell ⟨w.heap.size + 1, 0, none⟩ (.slice p0' e.1.length c0')).setCell ⟨w.heap.size + 1, 1, none⟩ (.slice p1' e.2.length c1')) := fun a ha => sf.2 a (HRG.out a ha).1 (HRG.out a ha).2
  have kA := kf.sub (fp' := fA) (fun a ha => by simp [ha])
  have kB := kf.sub (fp' := fB) (fun a ha => by simp [ha])
  have U0 := T0.out.keep kA (fun cs x f _ hs h => h.keep (kA.sub hs))
  have U1 := T1.out.keep kB (fun cs x f _ hs h => h.keep (kB.sub hs))
  exact bodyPost_ret (v := .agg #[.slice p0' e.1.length c0', .slice p1' e.2.length c1']) (by simp [results, Tryz.results168, go_sem, q0, q1]) rfl
    ⟨_, fA ++ fB, rfl, ⟨_, rfl, _, _, fA, fB, rfl, rfl, U0, U1⟩, HND.out, fun a ha => ⟨by have := (HRG.out a ha).1; omega, Nat.lt_of_lt_of_le (HRG.out a ha).2 sf.1⟩, bf⟩

set_option maxHeartbeats 4000000 in
theorem toExp_ofO {d : Nat} (h0 : ToO 202 (fun w v es => Rows w All 6 (HEx w All d) v es) (fun w v es fp => ORows w 88 6 (OEx w d) v es fp) (wtS (wtEx d))) (h1 : ToO 128 (fun w v es => Rows w All 2 (HCl w All (HEx w All d)) v es) (fun w v es fp => ORows w 78 2 (OCls w d) v es fp) (wtS (wtCl (wtEx d)))) :
    ToO 220 (fun w v e => ∃ cs, v = .agg cs.toArray ∧ HEx w All (d + 1) cs e) (fun w v e fp => ∃ cs, v = .agg cs.toArray ∧ OEx w (d + 1) cs e fp) (wtEx (d + 1)) := by
  intro w v e i1 hwt
  obtain ⟨cs, rfl, v0, v1, rfl, s0, s1, s2, s3, f0, f1⟩ := i1
  have hw0 : wtS (wtEx d) e.kids ≤ 1048576 := by unfold wtEx at hwt; omega
  have E0 : ∀ w', SameOn All w w' → Rows w' All 6 (HEx w' All d) v0 e.kids := fun w' hw => f0.mono hw (fun _ h => h) (fun _ _ _ => HEx.mono hw (fun _ h => h))
  have hw1 : wtS (wtCl (wtEx d)) e.clauses ≤ 1048576 := by unfold wtEx at hwt; omega
  have E1 : ∀ w', SameOn All w w' → Rows w' All 2 (HCl w' All (HEx w' All d)) v1 e.clauses := fun w' hw => f1.mono hw (fun _ h => h) (fun _ _ _ h => h.mono hw (fun _ h => h) (fun _ _ => HEx.mono hw (fun _ h => h)))
  obtain ⟨p0, c0, rfl, _⟩ := id f0
  obtain ⟨p1, c1, rfl, _⟩ := id f1
  clear f0 f1
  go_enter Tryz.func220, Tryz.ntmps220
  go_wp2_with fail
  have hal : Below w.heap.size w (((w.alloc (.cells #[.int .i64 e.kind, .int .i64 e.n, .string e.text, .string e.mod, .slice p0 e.kids.length c0, .slice p1 e.clauses.length c1] 262)).alloc (.cells #[.int .i64 0, .int .i64 0, .string ⟨#[]⟩, .string ⟨#[]⟩, .slice none 0 0, .slice none 0 0] 88)).alloc (.cells #[.int .i64 e.kind, .int .i64 e.n, .string e.text, .string e.mod, .slice none 0 0, .slice none 0 0] 88)) := (((Below.refl _ _).alloc (Nat.le_refl _) _).alloc (by simp only [alloc_hs]; omega) _).alloc (by simp only [alloc_hs]; omega) _
  refine (h0 _ _ e.kids (E0 _ (SameOn.of_below hal)) hw0).mono ?_
  rintro ex w1 ⟨u, fA, rfl, r0, ndA, rgA, hb⟩
  have bA := ((Blk.new (w := w) (cs := #[.int .i64 e.kind, .int .i64 e.n, .string e.text, .string e.mod, .slice p0 e.kids.length c0, .slice p1 e.clauses.length c1]) (t := 262)).alloc (o := .cells #[.int .i64 0, .int .i64 0, .string ⟨#[]⟩, .string ⟨#[]⟩, .slice none 0 0, .slice none 0 0] 88)).alloc (o := .cells #[.int .i64 e.kind, .int .i64 e.n, .string e.text, .string e.mod, .slice none 0 0, .slice none 0 0] 88)
  have bR := (Blk.new (w := (w.alloc (.cells #[.int .i64 e.kind, .int .i64 e.n, .string e.text, .string e.mod, .slice p0 e.kids.length c0, .slice p1 e.clauses.length c1] 262))) (cs := #[.int .i64 0, .int .i64 0, .string ⟨#[]⟩, .string ⟨#[]⟩, .slice none 0 0, .slice none 0 0]) (t := 88)).alloc (o := .cells #[.int .i64 e.kind, .int .i64 e.n, .string e.text, .string e.mod, .slice none 0 0, .slice none 0 0] 88)
  have bO := (Blk.new (w := ((w.alloc (.cells #[.int .i64 e.kind, .int .i64 e.n, .string e.text, .string e.mod, .slice p0 e.kids.length c0, .slice p1 e.clauses.length c1] 262)).alloc (.cells #[.int .i64 0, .int .i64 0, .string ⟨#[]⟩, .string ⟨#[]⟩, .slice none 0 0, .slice none 0 0] 88))) (cs := #[.int .i64 e.kind, .int .i64 e.n, .string e.text, .string e.mod, .slice none 0 0, .slice none 0 0]) (t := 88))
  simp only [alloc_hs] at bA bR bO rgA
  replace bA := bA.below hb (by simp only [alloc_hs]; omega)
  replace bR := bR.below hb (by simp only [alloc_hs]; omega)
  replace bO := bO.below hb (by simp only [alloc_hs]; omega)
  have B1 : Below w.heap.size w w1 := hal.trans (hb.mono hal.size)
  have z1 : w.heap.size + 3 ≤ w1.heap.size := by have := hb.size; simp only [alloc_hs] at this; omega
  have Z1 : Hid (w.heap.size + 3 ≤ w1.heap.size) := z1
  have T0 : Hid (ORows w1 88 6 (OEx w1 d) u e.kids fA) := r0
  have NA : Hid (fA.Nodup) := ndA
  have GA : Hid (∀ a ∈ fA, w.heap.size + 1 + 1 + 1 ≤ a ∧ a < w1.heap.size) := rgA
  clear hal hb z1 ndA rgA
  obtain ⟨p0', c0', hu, _⟩ := r0.shape
  subst hu
  clear r0
  have a5 := bA.cell 5 _ rfl
  have o4 := bO.cell 4 _ rfl
  have g4 := bO.frozen 4
  have HA : Hid (Blk w1 w.heap.size #[.int .i64 e.kind, .int .i64 e.n, .string e.text, .string e.mod, .slice p0 e.kids.length c0, .slice p1 e.clauses.length c1] 262) := bA
  have HR : Hid (Blk w1 (w.heap.size + 1) #[.int .i64 0, .int .i64 0, .string ⟨#[]⟩, .string ⟨#[]⟩, .slice none 0 0, .slice none 0 0] 88) := bR
  have HO : Hid (Blk w1 (w.heap.size + 1 + 1) #[.int .i64 e.kind, .int .i64 e.n, .string e.text, .string e.mod, .slice none 0 0, .slice none 0 0] 88) := bO
  have HB1 : Hid (Below w.heap.size w w1) := B1
  clear bA bR bO B1
  go_wp2_with fail
  have hp : Below w.heap.size w (w1.setCell ⟨w.heap.size + 1 + 1, 4, none⟩ (.slice p0' e.kids.length c0')) := HB1.out.setCell (by show _ ≤ w.heap.size + 1 + 1; omega) _
  refine (h1 _ _ e.clauses (E1 _ (SameOn.of_below hp)) hw1).mono ?_
  rintro ex w2 ⟨u, fB, rfl, r1, ndB, rgB, hb⟩
  have bA := ((HA.out.other (p := ⟨w.heap.size + 1 + 1, 4, none⟩) (v := (.slice p0' e.kids.length c0')) (by show w.heap.size ≠ w.heap.size + 1 + 1; omega)).below hb (by have := Z1.out; simp only [setCell_hs]; omega))
  have bR := ((HR.out.other (p := ⟨w.heap.size + 1 + 1, 4, none⟩) (v := (.slice p0' e.kids.length c0')) (by show w.heap.size + 1 ≠ w.heap.size + 1 + 1; omega)).below hb (by have := Z1.out; simp only [setCell_hs]; omega))
  have bO := ((HO.out.same (j := 4) (v := (.slice p0' e.kids.length c0')) (cs' := #[.int .i64 e.kind, .int .i64 e.n, .string e.text, .string e.mod, .slice p0' e.kids.length c0', .slice none 0 0]) rfl).below hb (by have := Z1.out; simp only [setCell_hs]; omega))
  have B2 : Below w.heap.size w w2 := hp.trans (hb.mono hp.size)
  simp only [setCell_hs] at rgB
  have k01 : KeepOn fA w1 w2 := fun a ha => by
    have h := GA.out a ha
    exact (hb.block a (by simp only [setCell_hs]; exact h.2)).trans (Below.heap_setCell _ _ _ _ (by show a ≠ w.heap.size + 1 + 1; omega))
  have T0 : Hid (ORows w2 88 6 (OEx w2 d) (.slice p0' e.kids.length c0') e.kids fA) := by have h := T0.out; exact h.keep k01 (fun cs x f _ hs h => h.keep (k01.sub hs))
  have T1 : Hid (ORows w2 78 2 (OCls w2 d) u e.clauses fB) := r1
  have sz2 : w1.heap.size ≤ w2.heap.size := by have := hb.size; simp only [setCell_hs] at this; exact this
  have HND : Hid ((fA ++ fB).Nodup) := by
    show List.Nodup _
    rw [List.nodup_append]
    exact ⟨NA.out, ndB, fun a ha b hb => by have := GA.out a ha; have := rgB b hb; omega⟩
  have HRG : Hid (∀ a ∈ fA ++ fB, w.heap.size + 1 + 1 + 1 ≤ a ∧ a < w2.heap.size) := fun a ha => by
    rcases List.mem_append.1 ha with ha | ha
    · have := GA.out a ha; omega
    · have := rgB a ha; have := Z1.out; omega
  have HB2 : Hid (Below w.heap.size w w2) := B2
  obtain ⟨p1', c1', hu, _⟩ := r1.shape
  subst hu
  clear hp hb r1 HA HR HO HB1 k01 ndB rgB NA GA sz2 B2
  have o0 := bO.cell 0 _ rfl
  have q0 := bR.cell 0 _ rfl
  have k0 := bR.frozen 0
  have o1 := bO.cell 1 _ rfl
  have q1 := bR.cell 1 _ rfl
  have k1 := bR.frozen 1
  have o2 := bO.cell 2 _ rfl
  have q2 := bR.cell 2 _ rfl
  have k2 := bR.frozen 2
  have o3 := bO.cell 3 _ rfl
  have q3 := bR.cell 3 _ rfl
  have k3 := bR.frozen 3
  have o4 := bO.cell 4 _ rfl
  have q4 := bR.cell 4 _ rfl
  have k4 := bR.frozen 4
  have o5 := bO.cell 5 _ rfl
  have q5 := bR.cell 5 _ rfl
  have k5 := bR.frozen 5
  have g5 := bO.frozen 5
  clear bA bR bO
  go_wp2_with fail
  have sf : SameOn (fun g => w.heap.size + 1 + 1 + 1 ≤ g) w2 (((((((w2.setCell ⟨w.heap.size + 1 + 1, 5, none⟩ (.slice p1' e.clauses.length c1')).setCell ⟨w.heap.size + 1, 0, none⟩ (.int .i64 e.kind)).setCell ⟨w.heap.size + 1, 1, none⟩ (.int .i64 e.n)).setCell ⟨w.heap.size + 1, 2, none⟩ (.string e.text)).setCell ⟨w.heap.size + 1, 3, none⟩ (.string e.mod)).setCell ⟨w.heap.size + 1, 4, none⟩ (.slice p0' e.kids.length c0')).setCell ⟨w.heap.size + 1, 5, none⟩ (.slice p1' e.clauses.length c1')) := SameOn.setCell (SameOn.setCell (SameOn.setCell (SameOn.setCell (SameOn.setCell (SameOn.setCell (SameOn.setCell (SameOn.of_below (Below.refl _ _)) (by show ¬ (_ ≤ w.heap.size + 1 + 1); omega) _) (by show ¬ (_ ≤ w.heap.size + 1); omega) _) (by show ¬ (_ ≤ w.heap.size + 1); omega) _) (by show ¬ (_ ≤ w.heap.size + 1); omega) _) (by show ¬ (_ ≤ w.heap.size + 1); omega) _) (by show ¬ (_ ≤ w.heap.size + 1); omega) _) (by show ¬ (_ ≤ w.heap.size + 1); omega) _
  have bf : Below w.heap.size w (((((((w2.setCell ⟨w.heap.size + 1 + 1, 5, none⟩ (.slice p1' e.clauses.length c1')).setCell ⟨w.heap.size + 1, 0, none⟩ (.int .i64 e.kind)).setCell ⟨w.heap.size + 1, 1, none⟩ (.int .i64 e.n)).setCell ⟨w.heap.size + 1, 2, none⟩ (.string e.text)).setCell ⟨w.heap.size + 1, 3, none⟩ (.string e.mod)).setCell ⟨w.heap.size + 1, 4, none⟩ (.slice p0' e.kids.length c0')).setCell ⟨w.heap.size + 1, 5, none⟩ (.slice p1' e.clauses.length c1')) := Below.setCell (Below.setCell (Below.setCell (Below.setCell (Below.setCell (Below.setCell (Below.setCell (HB2.out) (by show _ ≤ w.heap.size + 1 + 1; omega) _) (by show _ ≤ w.heap.size + 1; omega) _) (by show _ ≤ w.heap.size + 1; omega) _) (by show _ ≤ w.heap.size + 1; omega) _) (by show _ ≤ w.heap.size + 1; omega) _) (by show _ ≤ w.heap.size + 1; omega) _) (by show _ ≤ w.heap.size + 1; omega) _
  have kf : KeepOn (fA ++ fB) w2 (((((((w2.setCell ⟨w.heap.size + 1 + 1, 5, none⟩ (.slice p1' e.clauses.length c1')).setCell ⟨w.heap.size + 1, 0, none⟩ (.int .i64 e.kind)).setCell ⟨w.heap.size + 1, 1, none⟩ (.int .i64 e.n)).setCell ⟨w.heap.size + 1, 2, none⟩ (.string e.text)).setCell ⟨w.heap.size + 1, 3, none⟩ (.string e.mod)).setCell ⟨w.heap.size + 1, 4, none⟩ (.slice p0' e.kids.length c0')).setCell ⟨w.heap.size + 1, 5, none⟩ (.slice p1' e.clauses.length c1')) := fun a ha => sf.2 a (HRG.out a ha).1 (HRG.out a ha).2
  have kA := kf.sub (fp' := fA) (fun a ha => by simp [ha])
  have kB := kf.sub (fp' := fB) (fun a ha => by simp [ha])
  have U0 := T0.out.keep kA (fun cs x f _ hs h => h.keep (kA.sub hs))
  have U1 := T1.out.keep kB (fun cs x f _ hs h => OCls.keep h (kB.sub hs))
  exact bodyPost_ret (v := .agg #[.int .i64 e.kind, .int .i64 e.n, .string e.text, .string e.mod, .slice p0' e.kids.length c0', .slice p1' e.clauses.length c1']) (by simp [results, Tryz.results220, go_sem, q0, q1, q2, q3, q4, q5]) rfl
    ⟨_, fA ++ fB, rfl, ⟨_, rfl, _, _, fA, fB, rfl, rfl, s0, s1, s2, s3, U0, U1⟩, HND.out, fun a ha => ⟨by have := (HRG.out a ha).1; omega, Nat.lt_of_lt_of_le (HRG.out a ha).2 sf.1⟩, bf⟩

theorem toExp_own : ∀ d, ToO 220 (fun w v e => ∃ cs, v = .agg cs.toArray ∧ HEx w All d cs e) (fun w v e fp => ∃ cs, v = .agg cs.toArray ∧ OEx w d cs e fp) (wtEx d)
  | 0 => fun w v x ⟨_, _, h⟩ _ => h.elim
  | d + 1 => toExp_ofO (toExpS_ofO (toExp_own d)) (toClauseS_ofO (toClause_ofO (toExpS_ofO (toExp_own d)) (toExpS_ofO (toExp_own d))))
theorem toClause_own (d : Nat) : ToO 168 (fun w v e => ∃ cs, v = .agg cs.toArray ∧ HCl w All (HEx w All d) cs e) (fun w v e fp => ∃ cs, v = .agg cs.toArray ∧ OCl w (OEx w d) cs e fp) (wtCl (wtEx d)) :=
  toClause_ofO (toExpS_ofO (toExp_own d)) (toExpS_ofO (toExp_own d))
theorem toExpS_own (d : Nat) : ToO 202 (fun w v es => Rows w All 6 (HEx w All d) v es) (fun w v es fp => ORows w 88 6 (OEx w d) v es fp) (wtS (wtEx d)) := toExpS_ofO (toExp_own d)
theorem toClauseS_own (d : Nat) : ToO 128 (fun w v es => Rows w All 2 (HCl w All (HEx w All d)) v es) (fun w v es fp => ORows w 78 2 (OCl w (OEx w d)) v es fp) (wtS (wtCl (wtEx d))) := toClauseS_ofO (toClause_own d)
end Go.Proofs.YtihffcphbcepoaaGreatDoor
/-
  Modules that own their memory.
-/
namespace Go.Proofs.YtihffcphbcepoaaGreatDoor
open Go.ChangeShapes Go.WideShapes Go.ChangeAt Go.RowKit
set_option linter.unusedVariables false

/-- Two cells that are a name with its number: no memory. -/
def ORf (_ : World) (_ : Nat) (cs : List Value) (r : Rf) (fp : List Nat) : Prop := HRf cs r ∧ fp = []
/-- Three cells that are a function which owns its memory. -/
def OFn (w : World) (d : Nat) (cs : List Value) (f : Fn') (fp : List Nat) : Prop :=
  ∃ cv, cs = [.string f.name, .int .i64 f.arity, cv] ∧ okS f.name ∧ okI f.arity ∧ ORows w 78 2 (OCl w (OEx w d)) cv f.clauses fp
/-- Three cells that are a module which owns its memory. -/
def OMd (w : World) (d : Nat) (cs : List Value) (m : Md) (fp : List Nat) : Prop :=
  ∃ ev fv f1 f2, cs = [.string m.name, ev, fv] ∧ fp = f1 ++ f2 ∧ okS m.name ∧ ORows w 73 2 (ORf w d) ev m.exports f1 ∧ ORows w 57 3 (OFn w d) fv m.funs f2

theorem ORf.keep {w w' : World} {d : Nat} {cs : List Value} {r : Rf} {fp : List Nat} (h : ORf w d cs r fp) (_ : KeepOn fp w w') : ORf w' d cs r fp := h
theorem ORf.tree {w : World} {d : Nat} {cs : List Value} {r : Rf} {fp : List Nat} (h : ORf w d cs r fp) : HRf cs r := h.1
theorem ORf.lt {w : World} {d : Nat} {cs : List Value} {r : Rf} {fp : List Nat} (h : ORf w d cs r fp) : ∀ a ∈ fp, a < w.heap.size := by rw [h.2]; simp
theorem ORf.shape {w : World} {d : Nat} {cs : List Value} {x : Rf} {fp : List Nat} (h : ORf w d cs x fp) : ∃ st sk, cs = [.string st, .int .i64 sk] := by
  obtain ⟨⟨rfl, _⟩, _⟩ := h
  exact ⟨_, _, rfl⟩
theorem OFn.keep {w w' : World} {d : Nat} {cs : List Value} {f : Fn'} {fp : List Nat} (h : OFn w d cs f fp) (hk : KeepOn fp w w') : OFn w' d cs f fp := by
  obtain ⟨cv, rfl, h1, h2, h3⟩ := h
  exact ⟨cv, rfl, h1, h2, h3.keep hk (fun cs x f _ hs h => OCls.keep h (hk.sub hs))⟩
theorem OFn.tree {w : World} {S : Nat → Prop} {d : Nat} {cs : List Value} {f : Fn'} {fp : List Nat} (h : OFn w d cs f fp) (hS : ∀ a ∈ fp, S a) : HFn w S d cs f := by
  obtain ⟨cv, rfl, h1, h2, h3⟩ := h
  exact ⟨cv, rfl, h1, h2, h3.rows hS (fun cs x f _ hs h => OCls.tree h (fun a ha => hS a (hs a ha)))⟩
theorem OFn.lt {w : World} {d : Nat} {cs : List Value} {f : Fn'} {fp : List Nat} (h : OFn w d cs f fp) : ∀ a ∈ fp, a < w.heap.size := by
  obtain ⟨cv, rfl, h1, h2, h3⟩ := h
  exact h3.lt (fun cs x f h => h.lt' (fun cs x f h => h.lt))
theorem OFn.shape {w : World} {d : Nat} {cs : List Value} {x : Fn'} {fp : List Nat} (h : OFn w d cs x fp) : ∃ st sk p1 n1 q1, cs = [.string st, .int .i64 sk, .slice p1 n1 q1] := by
  obtain ⟨cv, rfl, h1, h2, h3⟩ := h
  obtain ⟨p1, c1, rfl, _⟩ := h3.shape
  exact ⟨_, _, _, _, _, rfl⟩
theorem OMd.keep {w w' : World} {d : Nat} {cs : List Value} {m : Md} {fp : List Nat} (h : OMd w d cs m fp) (hk : KeepOn fp w w') : OMd w' d cs m fp := by
  obtain ⟨ev, fv, f1, f2, rfl, rfl, h1, h2, h3⟩ := h
  exact ⟨ev, fv, f1, f2, rfl, rfl, h1, h2.keep (hk.sub (fun a ha => by simp [ha])) (fun cs x f _ hs h => h), h3.keep (hk.sub (fun a ha => by simp [ha])) (fun cs x f _ hs h => h.keep (hk.sub (fun a ha => by simp [hs a ha])))⟩
theorem OMd.tree {w : World} {S : Nat → Prop} {d : Nat} {cs : List Value} {m : Md} {fp : List Nat} (h : OMd w d cs m fp) (hS : ∀ a ∈ fp, S a) : HMd w S d cs m := by
  obtain ⟨ev, fv, f1, f2, rfl, rfl, h1, h2, h3⟩ := h
  exact ⟨ev, fv, rfl, h1, h2.rows (fun a ha => hS a (by simp [ha])) (fun cs x f _ hs h => h.1), h3.rows (fun a ha => hS a (by simp [ha])) (fun cs x f _ hs h => h.tree (fun a ha => hS a (by simp [hs a ha])))⟩
theorem OMd.lt {w : World} {d : Nat} {cs : List Value} {m : Md} {fp : List Nat} (h : OMd w d cs m fp) : ∀ a ∈ fp, a < w.heap.size := by
  obtain ⟨ev, fv, f1, f2, rfl, rfl, h1, h2, h3⟩ := h
  intro a ha
  rcases List.mem_append.1 ha with ha | ha
  · exact h2.lt (fun cs x f h => h.lt) a ha
  · exact h3.lt (fun cs x f h => h.lt) a ha
theorem OMd.shape {w : World} {d : Nat} {cs : List Value} {x : Md} {fp : List Nat} (h : OMd w d cs x fp) : ∃ st p1 n1 q1 p2 n2 q2, cs = [.string st, .slice p1 n1 q1, .slice p2 n2 q2] := by
  obtain ⟨ev, fv, f1, f2, rfl, rfl, h1, h2, h3⟩ := h
  obtain ⟨p1, c1, rfl, _⟩ := h2.shape
  obtain ⟨p2, c2, rfl, _⟩ := h3.shape
  exact ⟨_, _, _, _, _, _, _, rfl⟩
end Go.Proofs.YtihffcphbcepoaaGreatDoor
/-
  The laws' toModule and what it calls: a copy of a module in memory that the copy owns.
-/
namespace Go.Proofs.YtihffcphbcepoaaGreatDoor
open Go.ChangeShapes Go.WideShapes Go.ChangeAt Go.RowKit
set_option linter.unusedVariables false


set_option maxHeartbeats 4000000 in
theorem toRefS_ofO {d : Nat} (hE : ToO 90 (fun w v e => ∃ cs, v = .agg cs.toArray ∧ HRf cs e) (fun w v e fp => ∃ cs, v = .agg cs.toArray ∧ ORf w d cs e fp) (wtRf)) :
    ToO 53 (fun w v es => Rows w All 2 (HRf) v es) (fun w v es fp => ORows w 73 2 (ORf w d) v es fp) (wtS (wtRf)) := by
  intro w v es h hwt
  obtain ⟨p, cap, rfl, hcl, hcm, hx⟩ := h
  generalize hn : es.length = n at *
  have HN : Hid (es.length = n) := hn
  have HX : Hid _ := hx
  have hnb : n ≤ 1048576 := by unfold wtS at hwt; omega
  have HWT : Hid (wtS (wtRf) es ≤ 1048576) := hwt
  clear hx hn hwt
  obtain ⟨M, hM, hmk⟩ := make_row (t := 51) (e := 73) (c := 2) Tryz.underlying51 (by kernel_rfl) w n hnb
  have HO : Hid (Made w (w.alloc (.cells M 73)) w.heap.size n 73 2 (fun w => ORf w d) es 0 M.toList []) := Made.start hM (by unfold maxLen; omega)
  generalize hG : w.heap.size = G at *
  have HG : Hid (w.heap.size = G) := hG
  go_enter Tryz.func53, Tryz.ntmps53
  go_wp2
  go_loopw [4] (fun iv wr => ∃ (k : Nat) (xs : List Value) (fps : List (List Nat)), k ≤ n ∧ iv = .int .i64 k ∧ Hid (Made w wr G n 73 2 (fun w => ORf w d) es k xs fps)) (fun iv _ => n - (intOf iv).toNat)
  case atStart => exact ⟨0, M.toList, [], Nat.zero_le _, rfl, HO⟩
  case round =>
    obtain ⟨k, xs, fps, hk, rfl, HM⟩ := hrel
    by_cases hlt : k < n
    · obtain ⟨x, hxk⟩ : ∃ x, es[k]? = some x := ⟨es[k]'(by rw [HN.out]; exact hlt), List.getElem?_eq_getElem _⟩
      obtain ⟨g, off, rfl, hg, hgl, hat⟩ := HX.out (by intro h; rw [h] at hxk; simp at hxk)
      obtain ⟨cs, hcl6, hcs, hex⟩ := hat k x hxk
      have hbw : Below w.heap.size w wr := by rw [HG.out]; exact HM.out.below
      have hex' : ∀ w', SameOn All wr w' → HRf cs x := fun w' hw => hex
      obtain ⟨z0, z1, rfl⟩ := len2 hcl6
      have a0 := hcs 0 (by omega)
      have a1 := hcs 1 (by omega)
      rw [← hbw.cell (p := ⟨g, _, none⟩) (by show g < w.heap.size; rw [HG.out]; exact hgl)] at a0 a1
      simp at a0 a1
      have hwx : wtRf x ≤ 1048576 := by
        have h1 := HWT.out
        have h2 := sum_take_succ (wtRf) es k x hxk
        have h3 := sum_take_le (wtRf) es (k + 1)
        unfold wtS at h1
        omega
      clear hbw hcs hat hex hcl6
      go_wp2_with (go_at_call 90; go_must (refine (hE _ _ x ⟨_, rfl, hex' _ (by exact ⟨Nat.le_refl _, fun _ _ _ => rfl⟩)⟩ hwx).mono ?_; rintro e w1 ⟨u, fp, rfl, ⟨cs', rfl, hx1⟩, hnd, hrg, hb1⟩; obtain ⟨st, sk, hsh⟩ := hx1.shape; subst hsh; have HB1 : Hid (Below wr.heap.size wr w1) := hb1; have HX1 : Hid (ORf w1 d [.string st, .int .i64 sk] x fp) := hx1; have HND : Hid fp.Nodup := hnd; have HRG : Hid (∀ a ∈ fp, wr.heap.size ≤ a ∧ a < w1.heap.size) := hrg; have o1 := HM.out.own.kept (grownBy_belowR (r := none) hb1) (Or.inr (by simp [Value.ownBlock])); have HO1 : Hid (w1.ownsRow G 73 2 (.slice (some ⟨G, 0, none⟩) n n) n xs) := o1; have f0 := o1.frozenAt (k * 2); obtain ⟨y0, g0⟩ := own_someR o1 (k * 2) (by omega); have f1 := o1.frozenAt (k * 2 + 1); obtain ⟨y1, g1⟩ := own_someR o1 (k * 2 + 1) (by omega); clear o1 hb1 hx1 hnd hrg))
      have sd := stored2 HO1.out (k * 2) (.string st) (.int .i64 sk)
      have hlen : xs.length = n * 2 := HO1.out.1
      exact ⟨⟨k + 1, _, _, by omega, by go_num, Made.step (O := fun w => ORf w d) (c := 2) (fun w w' cs x f h hk => h) HM.out hxk HB1.out HX1.out HND.out HRG.out rfl sd.1 sd.2 (fun m hm => set2_other hm) (fun j hj => set2_self (by omega) j hj)⟩, by simp [intOf]; omega⟩
    · obtain rfl : k = n := by omega
      obtain ⟨fp, r1, r2, r3⟩ := HM.out.done HN.out (by unfold maxLen; omega)
      have R1 : Hid (ORows wr 73 2 (ORf wr d) (.slice (some ⟨G, 0, none⟩) k k) es fp) := r1
      have R2 : Hid (fp.Nodup ∧ ∀ a ∈ fp, G ≤ a ∧ a < wr.heap.size) := ⟨r2, r3⟩
      clear r1 r2 r3
      go_wp2
      go_ret
      exact ⟨_, fp, rfl, R1.out, R2.out.1, R2.out.2, HM.out.below⟩

set_option maxHeartbeats 4000000 in
theorem toFunS_ofO {d : Nat} (hE : ToO 91 (fun w v e => ∃ cs, v = .agg cs.toArray ∧ HFn w All d cs e) (fun w v e fp => ∃ cs, v = .agg cs.toArray ∧ OFn w d cs e fp) (wtFn d)) :
    ToO 54 (fun w v es => Rows w All 3 (HFn w All d) v es) (fun w v es fp => ORows w 57 3 (OFn w d) v es fp) (wtS (wtFn d)) := by
  intro w v es h hwt
  obtain ⟨p, cap, rfl, hcl, hcm, hx⟩ := h
  generalize hn : es.length = n at *
  have HN : Hid (es.length = n) := hn
  have HX : Hid _ := hx
  have hnb : n ≤ 1048576 := by unfold wtS at hwt; omega
  have HWT : Hid (wtS (wtFn d) es ≤ 1048576) := hwt
  clear hx hn hwt
  obtain ⟨M, hM, hmk⟩ := make_row (t := 52) (e := 57) (c := 3) Tryz.underlying52 (by kernel_rfl) w n hnb
  have HO : Hid (Made w (w.alloc (.cells M 57)) w.heap.size n 57 3 (fun w => OFn w d) es 0 M.toList []) := Made.start hM (by unfold maxLen; omega)
  generalize hG : w.heap.size = G at *
  have HG : Hid (w.heap.size = G) := hG
  go_enter Tryz.func54, Tryz.ntmps54
  go_wp2
  go_loopw [4] (fun iv wr => ∃ (k : Nat) (xs : List Value) (fps : List (List Nat)), k ≤ n ∧ iv = .int .i64 k ∧ Hid (Made w wr G n 57 3 (fun w => OFn w d) es k xs fps)) (fun iv _ => n - (intOf iv).toNat)
  case atStart => exact ⟨0, M.toList, [], Nat.zero_le _, rfl, HO⟩
  case round =>
    obtain ⟨k, xs, fps, hk, rfl, HM⟩ := hrel
    by_cases hlt : k < n
    · obtain ⟨x, hxk⟩ : ∃ x, es[k]? = some x := ⟨es[k]'(by rw [HN.out]; exact hlt), List.getElem?_eq_getElem _⟩
      obtain ⟨g, off, rfl, hg, hgl, hat⟩ := HX.out (by intro h; rw [h] at hxk; simp at hxk)
      obtain ⟨cs, hcl6, hcs, hex⟩ := hat k x hxk
      have hbw : Below w.heap.size w wr := by rw [HG.out]; exact HM.out.below
      have hex' : ∀ w', SameOn All wr w' → HFn w' All d cs x := fun w' hw => hex.mono (SameOn.trans (SameOn.of_below hbw) hw) (fun _ h => h)
      obtain ⟨z0, z1, z2, rfl⟩ := len3 hcl6
      have a0 := hcs 0 (by omega)
      have a1 := hcs 1 (by omega)
      have a2 := hcs 2 (by omega)
      rw [← hbw.cell (p := ⟨g, _, none⟩) (by show g < w.heap.size; rw [HG.out]; exact hgl)] at a0 a1 a2
      simp at a0 a1 a2
      have hwx : wtFn d x ≤ 1048576 := by
        have h1 := HWT.out
        have h2 := sum_take_succ (wtFn d) es k x hxk
        have h3 := sum_take_le (wtFn d) es (k + 1)
        unfold wtS at h1
        omega
      clear hbw hcs hat hex hcl6
      go_wp2_with (go_at_call 91; go_must (refine (hE _ _ x ⟨_, rfl, hex' _ (by exact ⟨Nat.le_refl _, fun _ _ _ => rfl⟩)⟩ hwx).mono ?_; rintro e w1 ⟨u, fp, rfl, ⟨cs', rfl, hx1⟩, hnd, hrg, hb1⟩; obtain ⟨st, sk, p1, n1, q1, hsh⟩ := hx1.shape; subst hsh; have HB1 : Hid (Below wr.heap.size wr w1) := hb1; have HX1 : Hid (OFn w1 d [.string st, .int .i64 sk, .slice p1 n1 q1] x fp) := hx1; have HND : Hid fp.Nodup := hnd; have HRG : Hid (∀ a ∈ fp, wr.heap.size ≤ a ∧ a < w1.heap.size) := hrg; have o1 := HM.out.own.kept (grownBy_belowR (r := none) hb1) (Or.inr (by simp [Value.ownBlock])); have HO1 : Hid (w1.ownsRow G 57 3 (.slice (some ⟨G, 0, none⟩) n n) n xs) := o1; have f0 := o1.frozenAt (k * 3); obtain ⟨y0, g0⟩ := own_someR o1 (k * 3) (by omega); have f1 := o1.frozenAt (k * 3 + 1); obtain ⟨y1, g1⟩ := own_someR o1 (k * 3 + 1) (by omega); have f2 := o1.frozenAt (k * 3 + 2); obtain ⟨y2, g2⟩ := own_someR o1 (k * 3 + 2) (by omega); clear o1 hb1 hx1 hnd hrg))
      have sd := stored3 HO1.out (k * 3) (.string st) (.int .i64 sk) (.slice p1 n1 q1)
      have hlen : xs.length = n * 3 := HO1.out.1
      exact ⟨⟨k + 1, _, _, by omega, by go_num, Made.step (O := fun w => OFn w d) (c := 3) (fun w w' cs x f h hk => OFn.keep h hk) HM.out hxk HB1.out HX1.out HND.out HRG.out rfl sd.1 sd.2 (fun m hm => set3_other hm) (fun j hj => set3_self (by omega) j hj)⟩, by simp [intOf]; omega⟩
    · obtain rfl : k = n := by omega
      obtain ⟨fp, r1, r2, r3⟩ := HM.out.done HN.out (by unfold maxLen; omega)
      have R1 : Hid (ORows wr 57 3 (OFn wr d) (.slice (some ⟨G, 0, none⟩) k k) es fp) := r1
      have R2 : Hid (fp.Nodup ∧ ∀ a ∈ fp, G ≤ a ∧ a < wr.heap.size) := ⟨r2, r3⟩
      clear r1 r2 r3
      go_wp2
      go_ret
      exact ⟨_, fp, rfl, R1.out, R2.out.1, R2.out.2, HM.out.below⟩

set_option maxHeartbeats 4000000 in
theorem toRef_ofO {d : Nat} :
    ToO 90 (fun w v e => ∃ cs, v = .agg cs.toArray ∧ HRf cs e) (fun w v e fp => ∃ cs, v = .agg cs.toArray ∧ ORf w d cs e fp) (wtRf) := by
  intro w v e i1 hwt
  obtain ⟨cs, rfl, rfl, s0, s1⟩ := i1
  go_enter Tryz.func90, Tryz.ntmps90
  go_wp2
  exact bodyPost_ret (v := .agg #[.string e.name, .int .i64 e.arity]) (by simp [results, Tryz.results90, go_sem]) rfl ⟨_, [], rfl, ⟨_, rfl, ⟨rfl, s0, s1⟩, rfl⟩, by simp, fun a ha => by simp at ha, (((Below.refl _ _).alloc (Nat.le_refl _) _).alloc (by simp only [alloc_hs]; omega) _).alloc (by simp only [alloc_hs]; omega) _⟩

set_option maxHeartbeats 4000000 in
theorem toFun_ofO {d : Nat} (h0 : ToO 128 (fun w v es => Rows w All 2 (HCl w All (HEx w All d)) v es) (fun w v es fp => ORows w 78 2 (OCls w d) v es fp) (wtS (wtCl (wtEx d)))) :
    ToO 91 (fun w v e => ∃ cs, v = .agg cs.toArray ∧ HFn w All d cs e) (fun w v e fp => ∃ cs, v = .agg cs.toArray ∧ OFn w d cs e fp) (wtFn d) := by
  intro w v e i1 hwt
  obtain ⟨cs, rfl, v0, rfl, s0, s1, f0⟩ := i1
  have hw0 : wtS (wtCl (wtEx d)) e.clauses ≤ 1048576 := by unfold wtFn at hwt; omega
  have E0 : ∀ w', SameOn All w w' → Rows w' All 2 (HCl w' All (HEx w' All d)) v0 e.clauses := fun w' hw => f0.mono hw (fun _ h => h) (fun _ _ _ h => h.mono hw (fun _ h => h) (fun _ _ => HEx.mono hw (fun _ h => h)))
  obtain ⟨p0, c0, rfl, _⟩ := id f0
  clear f0
  go_enter Tryz.func91, Tryz.ntmps91
  go_wp2_with fail
  have hal : Below w.heap.size w (((w.alloc (.cells #[.string e.name, .int .i64 e.arity, .slice p0 e.clauses.length c0] 135)).alloc (.cells #[.string ⟨#[]⟩, .int .i64 0, .slice none 0 0] 57)).alloc (.cells #[.string e.name, .int .i64 e.arity, .slice none 0 0] 57)) := (((Below.refl _ _).alloc (Nat.le_refl _) _).alloc (by simp only [alloc_hs]; omega) _).alloc (by simp only [alloc_hs]; omega) _
  refine (h0 _ _ e.clauses (E0 _ (SameOn.of_below hal)) hw0).mono ?_
  rintro ex w1 ⟨u, fp, rfl, r0, hnd, hrg, hb⟩
  have bR := (Blk.new (w := (w.alloc (.cells #[.string e.name, .int .i64 e.arity, .slice p0 e.clauses.length c0] 135))) (cs := #[.string ⟨#[]⟩, .int .i64 0, .slice none 0 0]) (t := 57)).alloc (o := .cells #[.string e.name, .int .i64 e.arity, .slice none 0 0] 57)
  have bO := (Blk.new (w := ((w.alloc (.cells #[.string e.name, .int .i64 e.arity, .slice p0 e.clauses.length c0] 135)).alloc (.cells #[.string ⟨#[]⟩, .int .i64 0, .slice none 0 0] 57))) (cs := #[.string e.name, .int .i64 e.arity, .slice none 0 0]) (t := 57))
  simp only [alloc_hs] at bR bO hrg
  replace bR := bR.below hb (by simp only [alloc_hs]; omega)
  replace bO := bO.below hb (by simp only [alloc_hs]; omega)
  have HB1 : Hid (Below w.heap.size w w1) := hal.trans (hb.mono hal.size)
  have HND : Hid (fp.Nodup) := hnd
  have HRG : Hid (∀ a ∈ fp, w.heap.size + 1 + 1 + 1 ≤ a ∧ a < w1.heap.size) := hrg
  have T0 : Hid (ORows w1 78 2 (OCls w1 d) u e.clauses fp) := r0
  clear hal hb hnd hrg
  obtain ⟨p1, c1, hu, _⟩ := r0.shape
  subst hu
  clear r0
  have o0 := bO.cell 0 _ rfl
  have q0 := bR.cell 0 _ rfl
  have k0 := bR.frozen 0
  have o1 := bO.cell 1 _ rfl
  have q1 := bR.cell 1 _ rfl
  have k1 := bR.frozen 1
  have o2 := bO.cell 2 _ rfl
  have q2 := bR.cell 2 _ rfl
  have k2 := bR.frozen 2
  have g2 := bO.frozen 2
  clear bR bO
  go_wp2_with fail
  have sf : SameOn (fun g => w.heap.size + 1 + 1 + 1 ≤ g) w1 ((((w1.setCell ⟨w.heap.size + 1 + 1, 2, none⟩ (.slice p1 e.clauses.length c1)).setCell ⟨w.heap.size + 1, 0, none⟩ (.string e.name)).setCell ⟨w.heap.size + 1, 1, none⟩ (.int .i64 e.arity)).setCell ⟨w.heap.size + 1, 2, none⟩ (.slice p1 e.clauses.length c1)) := SameOn.setCell (SameOn.setCell (SameOn.setCell (SameOn.setCell (SameOn.of_below (Below.refl _ _)) (by show ¬ (_ ≤ w.heap.size + 1 + 1); omega) _) (by show ¬ (_ ≤ w.heap.size + 1); omega) _) (by show ¬ (_ ≤ w.heap.size + 1); omega) _) (by show ¬ (_ ≤ w.heap.size + 1); omega) _
  have bf : Below w.heap.size w ((((w1.setCell ⟨w.heap.size + 1 + 1, 2, none⟩ (.slice p1 e.clauses.length c1)).setCell ⟨w.heap.size + 1, 0, none⟩ (.string e.name)).setCell ⟨w.heap.size + 1, 1, none⟩ (.int .i64 e.arity)).setCell ⟨w.heap.size + 1, 2, none⟩ (.slice p1 e.clauses.length c1)) := Below.setCell (Below.setCell (Below.setCell (Below.setCell (HB1.out) (by show _ ≤ w.heap.size + 1 + 1; omega) _) (by show _ ≤ w.heap.size + 1; omega) _) (by show _ ≤ w.heap.size + 1; omega) _) (by show _ ≤ w.heap.size + 1; omega) _
  have kf : KeepOn fp w1 ((((w1.setCell ⟨w.heap.size + 1 + 1, 2, none⟩ (.slice p1 e.clauses.length c1)).setCell ⟨w.heap.size + 1, 0, none⟩ (.string e.name)).setCell ⟨w.heap.size + 1, 1, none⟩ (.int .i64 e.arity)).setCell ⟨w.heap.size + 1, 2, none⟩ (.slice p1 e.clauses.length c1)) := fun a ha => sf.2 a (HRG.out a ha).1 (HRG.out a ha).2
  exact bodyPost_ret (v := .agg #[.string e.name, .int .i64 e.arity, .slice p1 e.clauses.length c1]) (by simp [results, Tryz.results91, go_sem, q0, q1, q2]) rfl
    ⟨_, fp, rfl, ⟨_, rfl, _, rfl, s0, s1, T0.out.keep kf (fun cs x f _ hs h => OCls.keep h (kf.sub hs))⟩, HND.out, fun a ha => ⟨by have := (HRG.out a ha).1; omega, Nat.lt_of_lt_of_le (HRG.out a ha).2 sf.1⟩, bf⟩

set_option maxHeartbeats 4000000 in
theorem toModule_ofO {d : Nat} (h0 : ToO 53 (fun w v es => Rows w All 2 (HRf) v es) (fun w v es fp => ORows w 73 2 (ORf w d) v es fp) (wtS (wtRf))) (h1 : ToO 54 (fun w v es => Rows w All 3 (HFn w All d) v es) (fun w v es fp => ORows w 57 3 (OFn w d) v es fp) (wtS (wtFn d))) :
    ToO 29 (fun w v e => ∃ cs, v = .agg cs.toArray ∧ HMd w All d cs e) (fun w v e fp => ∃ cs, v = .agg cs.toArray ∧ OMd w d cs e fp) (wtMd d) := by
  intro w v e i1 hwt
  obtain ⟨cs, rfl, v0, v1, rfl, s0, f0, f1⟩ := i1
  have hw0 : wtS (wtRf) e.exports ≤ 1048576 := by unfold wtMd at hwt; omega
  have E0 : ∀ w', SameOn All w w' → Rows w' All 2 (HRf) v0 e.exports := fun w' hw => f0.mono hw (fun _ h => h) (fun _ _ _ h => h)
  have hw1 : wtS (wtFn d) e.funs ≤ 1048576 := by unfold wtMd at hwt; omega
  have E1 : ∀ w', SameOn All w w' → Rows w' All 3 (HFn w' All d) v1 e.funs := fun w' hw => f1.mono hw (fun _ h => h) (fun _ _ _ h => h.mono hw (fun _ h => h))
  obtain ⟨p0, c0, rfl, _⟩ := id f0
  obtain ⟨p1, c1, rfl, _⟩ := id f1
  clear f0 f1
  go_enter Tryz.func29, Tryz.ntmps29
  go_wp2_with fail
  have hal : Below w.heap.size w (((w.alloc (.cells #[.string e.name, .slice p0 e.exports.length c0, .slice p1 e.funs.length c1] 48)).alloc (.cells #[.string ⟨#[]⟩, .slice none 0 0, .slice none 0 0] 54)).alloc (.cells #[.string e.name, .slice none 0 0, .slice none 0 0] 54)) := (((Below.refl _ _).alloc (Nat.le_refl _) _).alloc (by simp only [alloc_hs]; omega) _).alloc (by simp only [alloc_hs]; omega) _
  refine (h0 _ _ e.exports (E0 _ (SameOn.of_below hal)) hw0).mono ?_
  rintro ex w1 ⟨u, fA, rfl, r0, ndA, rgA, hb⟩
  have bA := ((Blk.new (w := w) (cs := #[.string e.name, .slice p0 e.exports.length c0, .slice p1 e.funs.length c1]) (t := 48)).alloc (o := .cells #[.string ⟨#[]⟩, .slice none 0 0, .slice none 0 0] 54)).alloc (o := .cells #[.string e.name, .slice none 0 0, .slice none 0 0] 54)
  have bR := (Blk.new (w := (w.alloc (.cells #[.string e.name, .slice p0 e.exports.length c0, .slice p1 e.funs.length c1] 48))) (cs := #[.string ⟨#[]⟩, .slice none 0 0, .slice none 0 0]) (t := 54)).alloc (o := .cells #[.string e.name, .slice none 0 0, .slice none 0 0] 54)
  have bO := (Blk.new (w := ((w.alloc (.cells #[.string e.name, .slice p0 e.exports.length c0, .slice p1 e.funs.length c1] 48)).alloc (.cells #[.string ⟨#[]⟩, .slice none 0 0, .slice none 0 0] 54))) (cs := #[.string e.name, .slice none 0 0, .slice none 0 0]) (t := 54))
  simp only [alloc_hs] at bA bR bO rgA
  replace bA := bA.below hb (by simp only [alloc_hs]; omega)
  replace bR := bR.below hb (by simp only [alloc_hs]; omega)
  replace bO := bO.below hb (by simp only [alloc_hs]; omega)
  have B1 : Below w.heap.size w w1 := hal.trans (hb.mono hal.size)
  have z1 : w.heap.size + 3 ≤ w1.heap.size := by have := hb.size; simp only [alloc_hs] at this; omega
  have Z1 : Hid (w.heap.size + 3 ≤ w1.heap.size) := z1
  have T0 : Hid (ORows w1 73 2 (ORf w1 d) u e.exports fA) := r0
  have NA : Hid (fA.Nodup) := ndA
  have GA : Hid (∀ a ∈ fA, w.heap.size + 1 + 1 + 1 ≤ a ∧ a < w1.heap.size) := rgA
  clear hal hb z1 ndA rgA
  obtain ⟨p0', c0', hu, _⟩ := r0.shape
  subst hu
  clear r0
  have a2 := bA.cell 2 _ rfl
  have o1 := bO.cell 1 _ rfl
  have g1 := bO.frozen 1
  have HA : Hid (Blk w1 w.heap.size #[.string e.name, .slice p0 e.exports.length c0, .slice p1 e.funs.length c1] 48) := bA
  have HR : Hid (Blk w1 (w.heap.size + 1) #[.string ⟨#[]⟩, .slice none 0 0, .slice none 0 0] 54) := bR
  have HO : Hid (Blk w1 (w.heap.size + 1 + 1) #[.string e.name, .slice none 0 0, .slice none 0 0] 54) := bO
  have HB1 : Hid (Below w.heap.size w w1) := B1
  clear bA bR bO B1
  go_wp2_with fail
  have hp : Below w.heap.size w (w1.setCell ⟨w.heap.size + 1 + 1, 1, none⟩ (.slice p0' e.exports.length c0')) := HB1.out.setCell (by show _ ≤ w.heap.size + 1 + 1; omega) _
  refine (h1 _ _ e.funs (E1 _ (SameOn.of_below hp)) hw1).mono ?_
  rintro ex w2 ⟨u, fB, rfl, r1, ndB, rgB, hb⟩
  have bA := ((HA.out.other (p := ⟨w.heap.size + 1 + 1, 1, none⟩) (v := (.slice p0' e.exports.length c0')) (by show w.heap.size ≠ w.heap.size + 1 + 1; omega)).below hb (by have := Z1.out; simp only [setCell_hs]; omega))
  have bR := ((HR.out.other (p := ⟨w.heap.size + 1 + 1, 1, none⟩) (v := (.slice p0' e.exports.length c0')) (by show w.heap.size + 1 ≠ w.heap.size + 1 + 1; omega)).below hb (by have := Z1.out; simp only [setCell_hs]; omega))
  have bO := ((HO.out.same (j := 1) (v := (.slice p0' e.exports.length c0')) (cs' := #[.string e.name, .slice p0' e.exports.length c0', .slice none 0 0]) rfl).below hb (by have := Z1.out; simp only [setCell_hs]; omega))
  have B2 : Below w.heap.size w w2 := hp.trans (hb.mono hp.size)
  simp only [setCell_hs] at rgB
  have k01 : KeepOn fA w1 w2 := fun a ha => by
    have h := GA.out a ha
    exact (hb.block a (by simp only [setCell_hs]; exact h.2)).trans (Below.heap_setCell _ _ _ _ (by show a ≠ w.heap.size + 1 + 1; omega))
  have T0 : Hid (ORows w2 73 2 (ORf w2 d) (.slice p0' e.exports.length c0') e.exports fA) := by have h := T0.out; exact h.keep k01 (fun cs x f _ hs h => h)
  have T1 : Hid (ORows w2 57 3 (OFn w2 d) u e.funs fB) := r1
  have sz2 : w1.heap.size ≤ w2.heap.size := by have := hb.size; simp only [setCell_hs] at this; exact this
  have HND : Hid ((fA ++ fB).Nodup) := by
    show List.Nodup _
    rw [List.nodup_append]
    exact ⟨NA.out, ndB, fun a ha b hb => by have := GA.out a ha; have := rgB b hb; omega⟩
  have HRG : Hid (∀ a ∈ fA ++ fB, w.heap.size + 1 + 1 + 1 ≤ a ∧ a < w2.heap.size) := fun a ha => by
    rcases List.mem_append.1 ha with ha | ha
    · have := GA.out a ha; omega
    · have := rgB a ha; have := Z1.out; omega
  have HB2 : Hid (Below w.heap.size w w2) := B2
  obtain ⟨p1', c1', hu, _⟩ := r1.shape
  subst hu
  clear hp hb r1 HA HR HO HB1 k01 ndB rgB NA GA sz2 B2
  have o0 := bO.cell 0 _ rfl
  have q0 := bR.cell 0 _ rfl
  have k0 := bR.frozen 0
  have o1 := bO.cell 1 _ rfl
  have q1 := bR.cell 1 _ rfl
  have k1 := bR.frozen 1
  have o2 := bO.cell 2 _ rfl
  have q2 := bR.cell 2 _ rfl
  have k2 := bR.frozen 2
  have g2 := bO.frozen 2
  clear bA bR bO
  go_wp2_with fail
  have sf : SameOn (fun g => w.heap.size + 1 + 1 + 1 ≤ g) w2 ((((w2.setCell ⟨w.heap.size + 1 + 1, 2, none⟩ (.slice p1' e.funs.length c1')).setCell ⟨w.heap.size + 1, 0, none⟩ (.string e.name)).setCell ⟨w.heap.size + 1, 1, none⟩ (.slice p0' e.exports.length c0')).setCell ⟨w.heap.size + 1, 2, none⟩ (.slice p1' e.funs.length c1')) := SameOn.setCell (SameOn.setCell (SameOn.setCell (SameOn.setCell (SameOn.of_below (Below.refl _ _)) (by show ¬ (_ ≤ w.heap.size + 1 + 1); omega) _) (by show ¬ (_ ≤ w.heap.size + 1); omega) _) (by show ¬ (_ ≤ w.heap.size + 1); omega) _) (by show ¬ (_ ≤ w.heap.size + 1); omega) _
  have bf : Below w.heap.size w ((((w2.setCell ⟨w.heap.size + 1 + 1, 2, none⟩ (.slice p1' e.funs.length c1')).setCell ⟨w.heap.size + 1, 0, none⟩ (.string e.name)).setCell ⟨w.heap.size + 1, 1, none⟩ (.slice p0' e.exports.length c0')).setCell ⟨w.heap.size + 1, 2, none⟩ (.slice p1' e.funs.length c1')) := Below.setCell (Below.setCell (Below.setCell (Below.setCell (HB2.out) (by show _ ≤ w.heap.size + 1 + 1; omega) _) (by show _ ≤ w.heap.size + 1; omega) _) (by show _ ≤ w.heap.size + 1; omega) _) (by show _ ≤ w.heap.size + 1; omega) _
  have kf : KeepOn (fA ++ fB) w2 ((((w2.setCell ⟨w.heap.size + 1 + 1, 2, none⟩ (.slice p1' e.funs.length c1')).setCell ⟨w.heap.size + 1, 0, none⟩ (.string e.name)).setCell ⟨w.heap.size + 1, 1, none⟩ (.slice p0' e.exports.length c0')).setCell ⟨w.heap.size + 1, 2, none⟩ (.slice p1' e.funs.length c1')) := fun a ha => sf.2 a (HRG.out a ha).1 (HRG.out a ha).2
  have kA := kf.sub (fp' := fA) (fun a ha => by simp [ha])
  have kB := kf.sub (fp' := fB) (fun a ha => by simp [ha])
  have U0 := T0.out.keep kA (fun cs x f _ hs h => h)
  have U1 := T1.out.keep kB (fun cs x f _ hs h => h.keep (kB.sub hs))
  exact bodyPost_ret (v := .agg #[.string e.name, .slice p0' e.exports.length c0', .slice p1' e.funs.length c1']) (by simp [results, Tryz.results29, go_sem, q0, q1, q2]) rfl
    ⟨_, fA ++ fB, rfl, ⟨_, rfl, _, _, fA, fB, rfl, rfl, s0, U0, U1⟩, HND.out, fun a ha => ⟨by have := (HRG.out a ha).1; omega, Nat.lt_of_lt_of_le (HRG.out a ha).2 sf.1⟩, bf⟩

theorem toModule_own (d : Nat) : ToO 29 (fun w v e => ∃ cs, v = .agg cs.toArray ∧ HMd w All d cs e) (fun w v e fp => ∃ cs, v = .agg cs.toArray ∧ OMd w d cs e fp) (wtMd d) :=
  toModule_ofO (toRefS_ofO (toRef_ofO (d := d))) (toFunS_ofO (toFun_ofO (toClauseS_own d)))
end Go.Proofs.YtihffcphbcepoaaGreatDoor
/-
  The laws' toModuleS: a row of modules, copied into memory that it owns.
-/
namespace Go.Proofs.YtihffcphbcepoaaGreatDoor
open Go.ChangeShapes Go.WideShapes Go.ChangeAt Go.RowKit
set_option linter.unusedVariables false

set_option maxHeartbeats 4000000 in
theorem toModuleS_ofO {d : Nat} (hE : ToO 29 (fun w v e => ∃ cs, v = .agg cs.toArray ∧ HMd w All d cs e) (fun w v e fp => ∃ cs, v = .agg cs.toArray ∧ OMd w d cs e fp) (wtMd d)) :
    ToO 8 (fun w v es => Rows w All 3 (HMd w All d) v es) (fun w v es fp => ORows w 54 3 (OMd w d) v es fp) (wtS (wtMd d)) := by
  intro w v es h hwt
  obtain ⟨p, cap, rfl, hcl, hcm, hx⟩ := h
  generalize hn : es.length = n at *
  have HN : Hid (es.length = n) := hn
  have HX : Hid _ := hx
  have hnb : n ≤ 1048576 := by unfold wtS at hwt; omega
  have HWT : Hid (wtS (wtMd d) es ≤ 1048576) := hwt
  clear hx hn hwt
  obtain ⟨M, hM, hmk⟩ := make_row (t := 26) (e := 54) (c := 3) Tryz.underlying26 (by kernel_rfl) w n hnb
  have HO : Hid (Made w (w.alloc (.cells M 54)) w.heap.size n 54 3 (fun w => OMd w d) es 0 M.toList []) := Made.start hM (by unfold maxLen; omega)
  generalize hG : w.heap.size = G at *
  have HG : Hid (w.heap.size = G) := hG
  go_enter Tryz.func8, Tryz.ntmps8
  go_wp2
  go_loopw [4] (fun iv wr => ∃ (k : Nat) (xs : List Value) (fps : List (List Nat)), k ≤ n ∧ iv = .int .i64 k ∧ Hid (Made w wr G n 54 3 (fun w => OMd w d) es k xs fps)) (fun iv _ => n - (intOf iv).toNat)
  case atStart => exact ⟨0, M.toList, [], Nat.zero_le _, rfl, HO⟩
  case round =>
    obtain ⟨k, xs, fps, hk, rfl, HM⟩ := hrel
    by_cases hlt : k < n
    · obtain ⟨x, hxk⟩ : ∃ x, es[k]? = some x := ⟨es[k]'(by rw [HN.out]; exact hlt), List.getElem?_eq_getElem _⟩
      obtain ⟨g, off, rfl, hg, hgl, hat⟩ := HX.out (by intro h; rw [h] at hxk; simp at hxk)
      obtain ⟨cs, hcl6, hcs, hex⟩ := hat k x hxk
      have hbw : Below w.heap.size w wr := by rw [HG.out]; exact HM.out.below
      have hex' : ∀ w', SameOn All wr w' → HMd w' All d cs x := fun w' hw => hex.mono (SameOn.trans (SameOn.of_below hbw) hw) (fun _ h => h)
      obtain ⟨z0, z1, z2, rfl⟩ := len3 hcl6
      have a0 := hcs 0 (by omega)
      have a1 := hcs 1 (by omega)
      have a2 := hcs 2 (by omega)
      rw [← hbw.cell (p := ⟨g, _, none⟩) (by show g < w.heap.size; rw [HG.out]; exact hgl)] at a0 a1 a2
      simp at a0 a1 a2
      have hwx : wtMd d x ≤ 1048576 := by
        have h1 := HWT.out
        have h2 := sum_take_succ (wtMd d) es k x hxk
        have h3 := sum_take_le (wtMd d) es (k + 1)
        unfold wtS at h1
        omega
      clear hbw hcs hat hex hcl6
      go_wp2_with (go_at_call 29; go_must (refine (hE _ _ x ⟨_, rfl, hex' _ (by exact ⟨Nat.le_refl _, fun _ _ _ => rfl⟩)⟩ hwx).mono ?_; rintro e w1 ⟨u, fp, rfl, ⟨cs', rfl, hx1⟩, hnd, hrg, hb1⟩; obtain ⟨st, p1, n1, q1, p2, n2, q2, hsh⟩ := hx1.shape; subst hsh; have HB1 : Hid (Below wr.heap.size wr w1) := hb1; have HX1 : Hid (OMd w1 d [.string st, .slice p1 n1 q1, .slice p2 n2 q2] x fp) := hx1; have HND : Hid fp.Nodup := hnd; have HRG : Hid (∀ a ∈ fp, wr.heap.size ≤ a ∧ a < w1.heap.size) := hrg; have o1 := HM.out.own.kept (grownBy_belowR (r := none) hb1) (Or.inr (by simp [Value.ownBlock])); have HO1 : Hid (w1.ownsRow G 54 3 (.slice (some ⟨G, 0, none⟩) n n) n xs) := o1; have f0 := o1.frozenAt (k * 3); obtain ⟨y0, g0⟩ := own_someR o1 (k * 3) (by omega); have f1 := o1.frozenAt (k * 3 + 1); obtain ⟨y1, g1⟩ := own_someR o1 (k * 3 + 1) (by omega); have f2 := o1.frozenAt (k * 3 + 2); obtain ⟨y2, g2⟩ := own_someR o1 (k * 3 + 2) (by omega); clear o1 hb1 hx1 hnd hrg))
      have sd := stored3 HO1.out (k * 3) (.string st) (.slice p1 n1 q1) (.slice p2 n2 q2)
      have hlen : xs.length = n * 3 := HO1.out.1
      exact ⟨⟨k + 1, _, _, by omega, by go_num, Made.step (O := fun w => OMd w d) (c := 3) (fun w w' cs x f h hk => h.keep hk) HM.out hxk HB1.out HX1.out HND.out HRG.out rfl sd.1 sd.2 (fun m hm => set3_other hm) (fun j hj => set3_self (by omega) j hj)⟩, by simp [intOf]; omega⟩
    · obtain rfl : k = n := by omega
      obtain ⟨fp, r1, r2, r3⟩ := HM.out.done HN.out (by unfold maxLen; omega)
      have R1 : Hid (ORows wr 54 3 (OMd wr d) (.slice (some ⟨G, 0, none⟩) k k) es fp) := r1
      have R2 : Hid (fp.Nodup ∧ ∀ a ∈ fp, G ≤ a ∧ a < wr.heap.size) := ⟨r2, r3⟩
      clear r1 r2 r3
      go_wp2
      go_ret
      exact ⟨_, fp, rfl, R1.out, R2.out.1, R2.out.2, HM.out.below⟩

theorem toModuleS_own (d : Nat) : ToO 8 (fun w v es => Rows w All 3 (HMd w All d) v es) (fun w v es fp => ORows w 54 3 (OMd w d) v es fp) (wtS (wtMd d)) := toModuleS_ofO (toModule_own d)
/-- A row of modules that owns its memory is a row of modules. -/
theorem oms_tree {w : World} {d : Nat} {v : Value} {es : List Md} {fp : List Nat} (h : ORows w 54 3 (OMd w d) v es fp) : Rows w All 3 (HMd w All d) v es :=
  h.rows (fun _ _ => trivial) (fun cs x f _ hs h => h.tree (fun _ _ => trivial))
theorem oms_keep {w w' : World} {d : Nat} {v : Value} {es : List Md} {fp : List Nat} (h : ORows w 54 3 (OMd w d) v es fp) (hk : KeepOn fp w w') : ORows w' 54 3 (OMd w' d) v es fp :=
  h.keep hk (fun cs x f _ hs h => h.keep (hk.sub hs))
theorem oms_lt {w : World} {d : Nat} {v : Value} {es : List Md} {fp : List Nat} (h : ORows w 54 3 (OMd w d) v es fp) : ∀ a ∈ fp, a < w.heap.size :=
  h.lt (fun cs x f h => h.lt)
end Go.Proofs.YtihffcphbcepoaaGreatDoor
