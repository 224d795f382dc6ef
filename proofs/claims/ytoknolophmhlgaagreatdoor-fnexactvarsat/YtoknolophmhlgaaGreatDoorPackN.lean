/-
  Texts of the proof, packed: NameList, AtImplC, AtSpecC.
-/
import Derived.Test.YtoknolophmhlgaaGreatDoorPackM
import Derived.Test.YtoknolophmhlgaaGreatDoorPackK
import Derived.Test.YtoknolophmhlgaaGreatDoorPackL
/-
  The program's list of the names that were put into a set, by contract.
-/
namespace Go.Proofs.YtoknolophmhlgaaGreatDoor
open Go.ChangeShapes Go.WideShapes Go.ChangeAt Go.RowKit Go.Maps Go.WideMaps Go.Sort
set_option linter.unusedVariables false
set_option maxRecDepth 100000

theorem MapAt.made (w : World) : MapAt (w.alloc (.map #[] 0)) w.heap.size [] := by
  unfold MapAt
  exact World.ownsMap_made w _ _ _
theorem list_any (w : World) (mb : Nat) (K : List (List UInt8)) (l : List ByteArray) (hm : MapAt w mb K) (hK : K.length ≤ 4194304) (hn : NdK l) (hl : ∀ x, x ∈ l.map keyS ↔ x ∈ K) :
    Calls Tryz.prog 42 #[.map (some mb)] w fun e w' => ∃ u, e = .returned u ∧ OwnS w' w.heap.size u (sortS l) ∧ Below w.heap.size w w' := by
  refine (list_in w mb K.length (setD K) hm hK (Nat.le_trans (setD_size K) hK)).mono ?_
  rintro e w' ⟨u, rfl, ho, hb⟩
  obtain ⟨h1, h2⟩ := keysL_strs K l hn hl
  unfold keysL at h1 h2
  rw [h1, h2] at ho
  exact ⟨u, rfl, ⟨ho, hb.size⟩, hb⟩
end Go.Proofs.YtoknolophmhlgaaGreatDoor
/-
  The program's VarsAt, by contract.
-/
namespace Go.Proofs.YtoknolophmhlgaaGreatDoor
open Go.ChangeShapes Go.WideShapes Go.ChangeAt Go.RowKit Go.Maps Go.WideMaps Go.Sort
set_option linter.unusedVariables false
set_option maxRecDepth 100000

theorem rows_apart {α : Type} {w : World} {S : Nat → Prop} {c mb : Nat} (hc0 : 0 < c) {R R' : List Value → α → Prop} {v : Value} {xs : List α} (h : Rows w S c R v xs) (hm : ∀ o, w.cell? ⟨mb, o, none⟩ = none) (hR : ∀ cs x, R cs x → R' cs x) : Rows w (fun g => g ≠ mb) c R' v xs := by
  obtain ⟨p, cap, hv, h1, h2, h3⟩ := h
  refine ⟨p, cap, hv, h1, h2, fun hne => ?_⟩
  obtain ⟨g, off, hp, hg, hlt, hx⟩ := h3 hne
  refine ⟨g, off, hp, ?_, hlt, fun i x hi => ?_⟩
  · rintro rfl
    obtain ⟨y, hy⟩ : ∃ y, xs[0]? = some y := by
      cases xs with
      | nil => exact absurd rfl hne
      | cons y ys => exact ⟨y, rfl⟩
    obtain ⟨cs, hl, hc, -⟩ := hx 0 y hy
    have := hc 0 hc0
    rw [hm, List.getElem?_eq_getElem (by omega)] at this
    cases this
  · obtain ⟨cs, hl, hc, hr⟩ := hx i x hi
    exact ⟨cs, hl, hc, hR cs x hr⟩
theorem HEx.apart {w : World} {S : Nat → Prop} {mb : Nat} (hm : ∀ o, w.cell? ⟨mb, o, none⟩ = none) : ∀ {d : Nat} {cs : List Value} {x : Ex}, HEx w S d cs x → HEx w (fun g => g ≠ mb) d cs x
  | 0, _, _, h => h.elim
  | d + 1, cs, x, h => by
    obtain ⟨kv, cv, rfl, h1, h2, h3, h4, hk, hc⟩ := h
    refine ⟨kv, cv, rfl, h1, h2, h3, h4, rows_apart (by decide) hk hm (fun _ _ h => h.apart hm), rows_apart (by decide) hc hm (fun _ _ h => ?_)⟩
    obtain ⟨p, b, rfl, g1, g2⟩ := h
    exact ⟨p, b, rfl, rows_apart (by decide) g1 hm (fun _ _ h => h.apart hm), rows_apart (by decide) g2 hm (fun _ _ h => h.apart hm)⟩
theorem MapAt.nocell {w : World} {mb : Nat} {K : List (List UInt8)} (h : MapAt w mb K) (o : Nat) : w.cell? ⟨mb, o, none⟩ = none := by
  obtain ⟨es, clock, h1, -⟩ := h
  unfold World.cell?
  simp [h1]

theorem ownG_low {α : Type} {e : TypeId} {c : Nat} {R : List Value → α → Prop} {w : World} {B : Nat} {v : Value} {l : List α} (h : OwnG e c R w B v l) : Rows w (fun g => B ≤ g) c R v l := by
  obtain ⟨⟨cells, g1, g2⟩, -⟩ := h
  obtain ⟨p, cap, rfl, h1, h2, h3⟩ := CellsR.rows g1 g2 rfl
  refine ⟨p, cap, rfl, h1, h2, fun hne => ?_⟩
  obtain ⟨g, off, rfl, -, hlt, hx⟩ := h3 hne
  refine ⟨g, off, rfl, ?_, hlt, hx⟩
  rcases g1.2 with ⟨hv, -⟩ | ⟨g', cap', cur, hv, hB, -⟩
  · cases hv
  · simp only [Value.slice.injEq, Option.some.injEq, Addr.mk.injEq] at hv
    rw [hv.1.1]; exact hB

/-- All variables of a clause, as they stand. -/
def clauseL (d : Nat) (c : Cl) : List (List UInt8) := (c.1 ++ c.2).flatMap (varL d)
theorem clauseL_ex (d : Nat) (c : Cl) : varL (d + 1) (.mk 10 0 ByteArray.empty ByteArray.empty [] [c]) = clauseL d c := by
  show (if (10 : Int) = 2 then [keyS ByteArray.empty] else []) ++ (([] : List Ex).flatMap (varL d) ++ [c].flatMap fun c => c.1.flatMap (varL d) ++ c.2.flatMap (varL d)) = _
  simp [clauseL]
theorem clauseL_len (d : Nat) (c : Cl) (h : 1 + wtCl (wtEx d) c ≤ 1048576) (k : Nat) : (((c.1 ++ c.2).take k).flatMap (varL d)).length ≤ 1048576 := by
  have h1 := flat_len (varL d) (wtEx d) ((c.1 ++ c.2).take k) (fun y _ => varL_len d y)
  have h2 : wtS (wtEx d) ((c.1 ++ c.2).take k) ≤ wtS (wtEx d) (c.1 ++ c.2) := by
    have := sum_take_le (wtEx d) (c.1 ++ c.2) k
    unfold wtS
    rw [List.length_take]
    omega
  have h3 : wtS (wtEx d) (c.1 ++ c.2) = wtCl (wtEx d) c := by
    show _ = wtS (wtEx d) c.1 + wtS (wtEx d) c.2
    simp [wtS]; omega
  omega
theorem clauseL_all (d : Nat) (c : Cl) (z : List UInt8) : z ∈ (clauseVars d c).map keyS ↔ z ∈ clauseL d c := by
  rw [← clauseL_ex, clauseVars_ex]
  refine ⟨fun hz => ?_, allV_all _ _ z⟩
  obtain ⟨s, hs, rfl⟩ := List.mem_map.1 hz
  exact allV_sub _ _ s hs
theorem clauseVars_nd (d : Nat) (c : Cl) : NdK (clauseVars d c) := by rw [clauseVars_ex]; exact allV_nd _ _

/-- A row of expressions whose cells lie in the heap, seen by a set that lies elsewhere. -/
theorem rows_other {w w' : World} {d mb : Nat} {v : Value} {es : List Ex} (h : Rows w (fun g => g < w.heap.size) 6 (HEx w (fun g => g < w.heap.size) d) v es) (hb : Below w.heap.size w w') (hm : w.heap.size ≤ mb) : Rows w' (fun g => g ≠ mb) 6 (HEx w' (fun g => g ≠ mb) d) v es :=
  h.mono (SameOn.of_below hb) (fun g (hg : g < w.heap.size) => by show g ≠ mb; omega) (fun _ _ _ h => h.mono (SameOn.of_below hb) (fun g (hg : g < w.heap.size) => by show g ≠ mb; omega))
set_option maxHeartbeats 16000000 in
/-- varsOf: the set of all variables of some expressions. -/
theorem varsOf_any (d : Nat) (w : World) (p : Option Addr) (n cap : Nat) (es : List Ex) (hn : es.length = n) (h : Rows w (fun g => g < w.heap.size) 6 (HEx w (fun g => g < w.heap.size) d) (.slice p n cap) es) (hl : ∀ k, ((es.take k).flatMap (varL d)).length ≤ 1048576) :
    Calls Tryz.prog 40 #[.slice p n cap] w fun e w' => e = .returned (.map (some w.heap.size)) ∧ MapAt w' w.heap.size (es.flatMap (varL d)) ∧ Below w.heap.size w w' := by
  have hm := @mkMap
  obtain ⟨W1, hW1⟩ : ∃ W1, W1 = w.alloc (.map #[] 0) := ⟨_, rfl⟩
  have B1 : Hid (Below w.heap.size w W1) := by show Below _ _ _; rw [hW1]; exact (Below.refl _ _).alloc (Nat.le_refl _) _
  have M1 : Hid (MapAt W1 w.heap.size []) := by show MapAt _ _ _; rw [hW1]; exact MapAt.made w
  have S1 : w.heap.size < W1.heap.size := M1.out.lt
  have HW1 : Hid (W1 = w.alloc (.map #[] 0)) := hW1
  have HR1 : Hid (Rows W1 (fun g => g ≠ w.heap.size) 6 (HEx W1 (fun g => g ≠ w.heap.size) d) (.slice p n cap) es) := rows_other h B1.out (Nat.le_refl _)
  have HNL : Hid (∀ k, ((es.take k).flatMap (varL d)).length ≤ 1048576) := hl
  have HNE : Hid (es.length = n) := hn
  obtain ⟨p', cap', hpu, hcl5, hcm5, hx5⟩ := HR1.out
  simp only [Value.slice.injEq] at hpu
  obtain ⟨rfl, -, rfl⟩ := hpu
  have hnb : n ≤ 9223372036854775807 := by unfold maxLen at hcm5; omega
  have HX5 : Hid (es ≠ [] → ∃ g off, p = some ⟨g, off, none⟩ ∧ g ≠ w.heap.size ∧ g < W1.heap.size ∧ ∀ i x, es[i]? = some x → ∃ cs, cs.length = 6 ∧ (∀ j, j < 6 → W1.cell? ⟨g, off + i * 6 + j, none⟩ = cs[j]?) ∧ HEx W1 (fun g => g ≠ w.heap.size) d cs x) := hx5
  clear hW1 h hl hn hx5 hcl5 hcm5 HR1
  go_enter Tryz.func40, Tryz.ntmps40
  go_wp2_with (rw [← HW1.out])
  go_loopw [9] (fun iv wr => ∃ k : Nat, k ≤ n ∧ iv = .int .i64 k ∧ Hid (MapAt wr w.heap.size ((es.take k).flatMap (varL d))) ∧ Hid (Off [w.heap.size] W1 wr)) (fun iv _ => n - (intOf iv).toNat)
  case atStart => exact ⟨0, Nat.zero_le _, rfl, by show MapAt _ _ _; simpa using M1.out, Off.refl _ _⟩
  case round =>
    clear hm HW1
    obtain ⟨k, hk, rfl, hmk, hof⟩ := hrel
    by_cases hlt : k < n
    · obtain ⟨x, hxk⟩ : ∃ x, es[k]? = some x := ⟨es[k]'(by rw [HNE.out]; exact hlt), List.getElem?_eq_getElem _⟩
      obtain ⟨g, off, rfl, hgm, hgl, hat⟩ := HX5.out (by intro h; rw [h] at hxk; simp at hxk)
      obtain ⟨xcs, hxl, hxcs, hxe⟩ := hat k x hxk
      have hgk : wr.heap[g]? = W1.heap[g]? := hof.out.block g hgl (by simpa using hgm)
      have HEX : Hid (HEx wr (fun g => g ≠ w.heap.size) d xcs x) := hxe.offN hof.out
      obtain ⟨sk, sn, st, se, p3, n3, q3, p4, n4, q4, rfl⟩ := HEx.shapeN hxe
      have c0 := hxcs 0 (by omega)
      have c1 := hxcs 1 (by omega)
      have c2 := hxcs 2 (by omega)
      have c3 := hxcs 3 (by omega)
      have c4 := hxcs 4 (by omega)
      have c5 := hxcs 5 (by omega)
      clear hxcs hat
      rw [← World.cell?_of_block (w := W1) (w' := wr) (a := ⟨g, _, none⟩) hgk] at c0 c1 c2 c3 c4 c5
      simp at c0 c1 c2 c3 c4 c5
      have hki : (k : Int) < (n : Int) := by omega
      have hk0 : (0 : Int) ≤ (k : Int) := by omega
      have HKS : Hid ((es.take (k + 1)).flatMap (varL d) = (es.take k).flatMap (varL d) ++ varL d x) := by
        show _ = _
        rw [List.take_add_one, hxk]
        simp
      have HKL : Hid (((es.take k).flatMap (varL d)).length + (varL d x).length ≤ 2097152) := by
        show _ ≤ _
        have h1 := HNL.out (k + 1)
        rw [HKS.out, List.length_append] at h1
        omega
      have K6 : Hid (Below wr.heap.size wr (wr.alloc (.cells #[.int .i64 sk, .int .i64 sn, .string st, .string se, .slice p3 n3 q3, .slice p4 n4 q4] 73))) := (Below.refl _ _).alloc (Nat.le_refl _) _
      clear hxl hxe hgk
      go_wp2_with fail
      refine (eachVar_any _ w.heap.size d _ x ((es.take k).flatMap (varL d)) (HEX.out.offN (Off.of_below K6.out)) (hmk.out.keep (K6.out.block _ hmk.out.lt)) HKL.out).mono ?_
      rintro e w7 ⟨rfl, hm7, ho7⟩
      have M7 : Hid (MapAt w7 w.heap.size ((es.take (k + 1)).flatMap (varL d))) := by show MapAt _ _ _; rw [HKS.out]; exact hm7
      have O7 : Hid (Off [w.heap.size] W1 w7) := hof.out.trans ((Off.of_below K6.out).trans ho7)
      clear hm7 ho7 c0 c1 c2 c3 c4 c5 K6
      go_wp2_with fail
      exact ⟨⟨k + 1, by omega, by go_num, M7.out, O7.out⟩, by simp [intOf]; omega⟩
    · have hek : es.take k = es := List.take_of_length_le (by rw [HNE.out]; omega)
      rw [hek] at hmk
      have B8 : Hid (Below w.heap.size w wr) := B1.out.trans (hof.out.below (by simp) B1.out.size)
      clear hek
      go_wp2_with fail
      go_ret
      exact ⟨rfl, hmk.out, B8.out⟩
set_option maxHeartbeats 16000000 in
/-- clauseVars: all variables of a clause, sorted. -/
theorem clauseVars_any (d : Nat) (w : World) (p1 p2 : Option Addr) (c1 c2 n1 n2 : Nat) (c : Cl) (hn1 : c.1.length = n1) (hn2 : c.2.length = n2) (hp : Rows w All 6 (HEx w All d) (.slice p1 n1 c1) c.1) (hb : Rows w All 6 (HEx w All d) (.slice p2 n2 c2) c.2) (hw : 1 + wtCl (wtEx d) c ≤ 1048576) :
    Calls Tryz.prog 22 #[.agg #[.slice p1 n1 c1, .slice p2 n2 c2]] w fun e w' => ∃ u, e = .returned u ∧ OwnS w' w.heap.size u (sortS (clauseVars d c)) ∧ Below w.heap.size w w' := by
  have HLL : Hid (c.1.length + c.2.length ≤ 1048576) := by
    have h1 : wtCl (wtEx d) c = wtS (wtEx d) c.1 + wtS (wtEx d) c.2 := rfl
    show _ ≤ _
    unfold wtS at h1
    omega
  have HWC : Hid (1 + wtCl (wtEx d) c ≤ 1048576) := hw
  obtain ⟨W1, hW1⟩ : ∃ W1, W1 = w.alloc (.cells #[.slice p1 n1 c1, .slice p2 n2 c2] 45) := ⟨_, rfl⟩
  have b1 : Below w.heap.size w W1 := by rw [hW1]; exact (Below.refl _ _).alloc (Nat.le_refl _) _
  have HC1 : Hid (Blk W1 w.heap.size #[.slice p1 n1 c1, .slice p2 n2 c2] 45) := by show Blk _ _ _ _; rw [hW1]; exact Blk.new
  obtain ⟨W2, hW2⟩ : ∃ W2, W2 = W1.alloc (.cells #[.slice p1 n1 c1, .slice p2 n2 c2] 43) := ⟨_, rfl⟩
  have b2 : Below W1.heap.size W1 W2 := by rw [hW2]; exact (Below.refl _ _).alloc (Nat.le_refl _) _
  have B2 : Hid (Below w.heap.size w W2) := b1.trans (b2.mono b1.size)
  have BK2 : Blk W2 W1.heap.size #[.slice p1 n1 c1, .slice p2 n2 c2] 43 := by rw [hW2]; exact Blk.new
  have HW1 : Hid (W1 = w.alloc (.cells #[.slice p1 n1 c1, .slice p2 n2 c2] 45)) := hW1
  have HW2 : Hid (W2 = W1.alloc (.cells #[.slice p1 n1 c1, .slice p2 n2 c2] 43)) := hW2
  have RP : Rows W2 All 6 (HEx w (fun g => g < w.heap.size) d) (.slice p1 n1 c1) c.1 := hp.mono (SameOn.of_below B2.out) (fun _ h => h) (fun _ _ _ h => h.tight)
  have RB : Rows W2 All 6 (HEx w (fun g => g < w.heap.size) d) (.slice p2 n2 c2) c.2 := hb.mono (SameOn.of_below B2.out) (fun _ h => h) (fun _ _ _ h => h.tight)
  have CC : Hid (Calls Tryz.prog 41 #[.slice (some ⟨W1.heap.size, 0, none⟩) 2 2] W2 fun e w' => ∃ u, e = .returned u ∧ OwnG 73 6 (HEx w (fun g => g < w.heap.size) d) w' W2.heap.size u (c.1 ++ c.2) ∧ Below W2.heap.size W2 w') := by
    subst hn1; subst hn2
    exact concatEx_any (HEx w (fun g => g < w.heap.size) d) exc_oneCell W2 W1.heap.size p1 p2 c1 c2 c.1 c.2 BK2 RP RB HLL.out
  have a0 : W1.cell? ⟨w.heap.size, 0, none⟩ = some (.slice p1 n1 c1) := HC1.out.cell 0 _ rfl
  have a1 : W1.cell? ⟨w.heap.size, 1, none⟩ = some (.slice p2 n2 c2) := HC1.out.cell 1 _ rfl
  clear hp hb hw hW1 hW2 b1 b2 BK2 RP RB hn1 hn2
  go_enter Tryz.func22, Tryz.ntmps22
  go_wp2_with (first | rw [← HW1.out] | rw [← HW2.out])
  refine CC.out.mono ?_
  rintro e w5 ⟨u, rfl, ho, hb⟩
  obtain ⟨pu, cu, hu, -⟩ := ho.slice
  obtain ⟨ne, hne⟩ : ∃ ne, (c.1 ++ c.2).length = ne := ⟨_, rfl⟩
  rw [hne] at hu
  subst hu
  have B5 : Hid (Below w.heap.size w w5) := B2.out.trans (hb.mono B2.out.size)
  have HR5 : Rows w5 (fun g => g < w5.heap.size) 6 (HEx w5 (fun g => g < w5.heap.size) d) (.slice pu ne cu) (c.1 ++ c.2) :=
    (ownG_low ho).tight (fun _ _ h => h.mono (SameOn.of_below B5.out) (fun g (hg : g < w.heap.size) => Nat.lt_of_lt_of_le hg B5.out.size))
  have CV : Hid (Calls Tryz.prog 40 #[.slice pu ne cu] w5 fun e w' => e = .returned (.map (some w5.heap.size)) ∧ MapAt w' w5.heap.size ((c.1 ++ c.2).flatMap (varL d)) ∧ Below w5.heap.size w5 w') := varsOf_any d w5 pu _ cu _ hne HR5 (clauseL_len d c HWC.out)
  clear ho hb HR5 a0 a1 hne
  go_wp2_with fail
  refine CV.out.mono ?_
  rintro e w7 ⟨rfl, hm7, hb7⟩
  have B7 : Hid (Below w.heap.size w w7) := B5.out.trans (hb7.mono B5.out.size)
  have M7 : Hid (MapAt w7 w5.heap.size ((c.1 ++ c.2).flatMap (varL d))) := hm7
  have HLE : Hid (((c.1 ++ c.2).flatMap (varL d)).length ≤ 4194304) := by
    have h := clauseL_len d c HWC.out (c.1 ++ c.2).length
    rw [List.take_of_length_le (Nat.le_refl _)] at h
    show _ ≤ _
    omega
  have CL : Hid (Calls Tryz.prog 42 #[.map (some w5.heap.size)] w7 fun e w' => ∃ u, e = .returned u ∧ OwnS w' w7.heap.size u (sortS (clauseVars d c)) ∧ Below w7.heap.size w7 w') := list_any w7 w5.heap.size _ (clauseVars d c) M7.out HLE.out (clauseVars_nd d c) (fun x => clauseL_all d c x)
  clear hm7 hb7 CV
  go_wp2_with fail
  refine CL.out.mono ?_
  rintro e w9 ⟨u, rfl, ho, hb⟩
  have HO : Hid (OwnS w9 w.heap.size u (sortS (clauseVars d c))) := ho.base B7.out.size
  have B9 : Hid (Below w.heap.size w w9) := B7.out.trans (hb.mono B7.out.size)
  clear ho hb
  go_wp2_with fail
  go_ret
  exact ⟨u, rfl, HO.out, B9.out⟩
set_option maxHeartbeats 16000000 in
theorem implVarsAt_any (d : Nat) (w : World) (v : Value) (ms : List Md) (q : Pl) (hT : Tabs w) (h : Rows w All 3 (HMd w All d) v ms) (hw : wtS (wtMd d) ms ≤ 1048576) :
    Calls Tryz.prog 9 #[v, .agg #[.string q.mod, .string q.name, .int .i64 q.arity, .int .i64 q.clause]] w fun e w' => ∃ u, e = .returned u ∧ OwnS w' w.heap.size u (varsAt d ms q) ∧ Below w.heap.size w w' := by
  have HTAB : Hid (Tabs w) := hT
  have HR : Hid (∀ w', Below w.heap.size w w' → Rows w' All 3 (HMd w' All d) v ms) := fun w' hw => h.mono (SameOn.of_below hw) (fun _ h => h) (fun _ _ _ h => h.mono (SameOn.of_below hw) (fun _ h => h))
  obtain ⟨W1, hW1⟩ : ∃ W1, W1 = w.alloc (.cells #[.string q.mod, .string q.name, .int .i64 q.arity, .int .i64 q.clause] 31) := ⟨_, rfl⟩
  have bA : Hid (Blk W1 w.heap.size #[.string q.mod, .string q.name, .int .i64 q.arity, .int .i64 q.clause] 31) := by show Blk _ _ _ _; rw [hW1]; exact Blk.new
  have B1 : Hid (Below w.heap.size w W1) := by show Below _ _ _; rw [hW1]; exact (Below.refl _ _).alloc (Nat.le_refl _) _
  have HW1 : Hid (W1 = w.alloc (.cells #[.string q.mod, .string q.name, .int .i64 q.arity, .int .i64 q.clause] 31)) := hW1
  have CP : Hid (Calls Tryz.prog 20 #[v] W1 fun e w'' => e = .returned (.bool (pgOk d ms)) ∧ Below W1.heap.size W1 w'') := implProgramOk_any d W1 v ms (HTAB.out.below B1.out) (HR.out _ B1.out)
  have HV : Hid (varsAt d ms q = if pgOk d ms then (match clauseOf ms q with
    | none => []
    | some c => sortS (clauseVars d c)) else []) := rfl
  have HWT : Hid (∀ c, clauseOf ms q = some c → 1 + wtCl (wtEx d) c ≤ 1048576) := fun c hc => Nat.le_trans (clauseOf_wt1 hc) hw
  have HPG : Hid (pgOk d ms = true → OneName ms) := pgOk_one
  obtain ⟨p, cap, rfl, -⟩ := h
  have CC : Hid (∀ w', Below w.heap.size w w' → OneName ms → Calls Tryz.prog 21 #[.slice p ms.length cap, .agg #[.string q.mod, .string q.name, .int .i64 q.arity, .int .i64 q.clause]] w' fun e w'' => ClQ d ms q (.slice p ms.length cap) w'' e ∧ Below w'.heap.size w' w'') := fun w' hb hu => clauseAt_any d w' _ ms q (HR.out _ hb) hu
  clear hW1 hw hT
  generalize ms.length = n at *
  generalize hX : varsAt d ms q = X at *
  clear hX
  generalize hP : pgOk d ms = P at *
  clear hP
  go_enter Tryz.func9, Tryz.ntmps9
  go_wp2_with (rw [← HW1.out])
  refine CP.out.mono ?_
  rintro e w2 ⟨rfl, hb⟩
  have B2 : Hid (Below w.heap.size w w2) := B1.out.trans (hb.mono B1.out.size)
  have bA2 : Hid (Blk w2 w.heap.size #[.string q.mod, .string q.name, .int .i64 q.arity, .int .i64 q.clause] 31) := bA.out.next hb
  clear hb B1 CP HW1 bA
  cases P with
  | false =>
    have HX : Hid (X = []) := by
      show X = []
      rw [HV.out]; rfl
    go_wp2_with fail
    go_ret
    exact ⟨_, rfl, by rw [HX.out]; exact OwnS.fresh.base B2.out.size, B2.out.trans (((Below.refl _ _).alloc (Nat.le_refl _) _).mono B2.out.size)⟩
  | true =>
    have y0 := bA2.out.cell 0 _ rfl
    have y1 := bA2.out.cell 1 _ rfl
    have y2 := bA2.out.cell 2 _ rfl
    have y3 := bA2.out.cell 3 _ rfl
    go_wp2_with fail
    refine (CC.out _ B2.out (HPG.out (by first | rfl | trivial))).mono ?_
    rintro e w3 ⟨hq, hb⟩
    have B3 : Hid (Below w.heap.size w w3) := B2.out.trans (hb.mono B2.out.size)
    clear hb y0 y1 y2 y3 B2 bA2 CC
    rcases hq with ⟨rfl, hno⟩ | ⟨gc, o, c, rfl, hc, hP⟩
    · have HX : Hid (X = []) := by
        show X = []
        rw [HV.out, hno]; rfl
      clear hno
      go_wp2_with fail
      go_ret
      exact ⟨_, rfl, by rw [HX.out]; exact OwnS.fresh.base B3.out.size, B3.out.trans (((Below.refl _ _).alloc (Nat.le_refl _) _).mono B3.out.size)⟩
    · have HX : Hid (X = sortS (clauseVars d c)) := by
        show X = _
        rw [HV.out, hc]; rfl
      have hwc := HWT.out c hc
      obtain ⟨_, _, _, _, _, _, -, _, _, _, -, -, hgc, -, -, cs, hcl, hcs, pv, bv, rfl, hp, hb⟩ := hP
      obtain ⟨p1, c1, rfl, -⟩ := id hp
      obtain ⟨p2, c2, rfl, -⟩ := id hb
      have CV : Hid (Calls Tryz.prog 22 #[.agg #[.slice p1 c.1.length c1, .slice p2 c.2.length c2]] w3 fun e w' => ∃ u, e = .returned u ∧ OwnS w' w3.heap.size u (sortS (clauseVars d c)) ∧ Below w3.heap.size w3 w') := clauseVars_any d w3 p1 p2 c1 c2 _ _ c rfl rfl hp hb hwc
      have a0 := hcs 0 (by omega)
      have a1 := hcs 1 (by omega)
      have A0 : w3.cell? ⟨gc, o, none⟩ = some (.slice p1 c.1.length c1) := a0
      have A1 : w3.cell? ⟨gc, o + 1, none⟩ = some (.slice p2 c.2.length c2) := a1
      clear hcs hcl hc HWT a0 a1 hp hb hwc
      go_wp2_with fail
      refine CV.out.mono ?_
      rintro e w9 ⟨u, rfl, ho, hb⟩
      have HO : Hid (OwnS w9 w.heap.size u (sortS (clauseVars d c))) := ho.base B3.out.size
      have B9 : Hid (Below w.heap.size w w9) := B3.out.trans (hb.mono B3.out.size)
      clear ho hb
      go_wp2_with fail
      go_ret
      exact ⟨u, rfl, by rw [HX.out]; exact HO.out, B9.out⟩
end Go.Proofs.YtoknolophmhlgaaGreatDoor
/-
  The specification's VarsAt, by contract.
-/
namespace Go.Proofs.YtoknolophmhlgaaGreatDoor
open Go.ChangeShapes Go.WideShapes Go.ChangeAt Go.RowKit
set_option linter.unusedVariables false
set_option maxRecDepth 100000

set_option maxHeartbeats 16000000 in
theorem specVarsAt_any (d : Nat) (w : World) (v : Value) (ms : List Md) (q : Pl) (h : Rows w All 3 (HMd w All d) v ms) (hw : wtS (wtMd d) ms ≤ 1048576) :
    Calls Tryz.prog 6 #[v, .agg #[.string q.mod, .string q.name, .int .i64 q.arity, .int .i64 q.clause]] w fun e w' => ∃ u, e = .returned u ∧ OwnS w' w.heap.size u (varsAt d ms q) ∧ Below w.heap.size w w' := by
  have HR : Hid (∀ w', Below w.heap.size w w' → Rows w' All 3 (HMd w' All d) v ms) := fun w' hw => h.mono (SameOn.of_below hw) (fun _ h => h) (fun _ _ _ h => h.mono (SameOn.of_below hw) (fun _ h => h))
  obtain ⟨W1, hW1⟩ : ∃ W1, W1 = w.alloc (.cells #[.string q.mod, .string q.name, .int .i64 q.arity, .int .i64 q.clause] 31) := ⟨_, rfl⟩
  have bA : Hid (Blk W1 w.heap.size #[.string q.mod, .string q.name, .int .i64 q.arity, .int .i64 q.clause] 31) := by show Blk _ _ _ _; rw [hW1]; exact Blk.new
  have B1 : Hid (Below w.heap.size w W1) := by show Below _ _ _; rw [hW1]; exact (Below.refl _ _).alloc (Nat.le_refl _) _
  have HW1 : Hid (W1 = w.alloc (.cells #[.string q.mod, .string q.name, .int .i64 q.arity, .int .i64 q.clause] 31)) := hW1
  have CF : Hid (Calls Tryz.prog 16 #[v, .agg #[.string q.mod, .string q.name, .int .i64 q.arity, .int .i64 q.clause]] W1 fun e w' => ClE ms q w' d e ∧ Below W1.heap.size W1 w') := l07Clause_any d W1 v ms q (HR.out _ B1.out)
  have CP : Hid (∀ w', Below w.heap.size w w' → Calls Tryz.prog 17 #[v] w' fun e w'' => e = .returned (.bool (pgOk d ms)) ∧ Below w'.heap.size w' w'') := fun w' hb => specProgramOk_any d w' v ms (HR.out _ hb)
  have HV : Hid (varsAt d ms q = if pgOk d ms then (match clauseOf ms q with
    | none => []
    | some c => sortS (clauseVars d c)) else []) := rfl
  have HWT : Hid (∀ c, clauseOf ms q = some c → 1 + wtCl (wtEx d) c ≤ 1048576) := fun c hc => Nat.le_trans (clauseOf_wt1 hc) hw
  have y0 := bA.out.cell 0 _ rfl
  have y1 := bA.out.cell 1 _ rfl
  have y2 := bA.out.cell 2 _ rfl
  have y3 := bA.out.cell 3 _ rfl
  clear hW1 hw
  obtain ⟨p, cap, rfl, -⟩ := h
  generalize ms.length = n at *
  generalize hX : varsAt d ms q = X at *
  clear hX
  generalize hP : pgOk d ms = P at *
  clear hP
  go_enter Tryz.func6, Tryz.ntmps6
  go_wp2_with fail
  rw [← HW1.out]
  refine CF.out.mono ?_
  rintro e w2 ⟨⟨pv, bv, ok, rfl, hr⟩, hb⟩
  have HCR : Hid (ClR ms q w2 d [pv, bv] ok) := hr
  have B2 : Hid (Below w.heap.size w w2) := B1.out.trans (hb.mono B1.out.size)
  have HSH : Hid (∃ p1 n1 c1 p2 n2 c2, pv = .slice p1 n1 c1 ∧ bv = .slice p2 n2 c2) := by
    rcases hr with ⟨_, _, he⟩ | ⟨_, c, _, hc⟩
    · simp at he
      exact ⟨_, _, _, _, _, _, he.1, he.2⟩
    · obtain ⟨p', b', he, ⟨p1, c1, h1, -⟩, ⟨p2, c2, h2, -⟩⟩ := hc
      simp at he
      exact ⟨_, _, _, _, _, _, he.1.trans h1, he.2.trans h2⟩
  obtain ⟨p1, n1, c1, p2, n2, c2, rfl, rfl⟩ := HSH.out
  obtain ⟨W3, hW3⟩ : ∃ W3, W3 = w2.alloc (.cells #[.slice p1 n1 c1, .slice p2 n2 c2] 45) := ⟨_, rfl⟩
  have B3 : Hid (Below w.heap.size w W3) := by show Below _ _ _; rw [hW3]; exact B2.out.alloc (Nat.le_trans B1.out.size hb.size) _
  have bC : Hid (Blk W3 w2.heap.size #[.slice p1 n1 c1, .slice p2 n2 c2] 45) := by show Blk _ _ _ _; rw [hW3]; exact Blk.new
  have S3 : Hid (SameOn All w2 W3) := by show SameOn _ _ _; rw [hW3]; exact SameOn.of_below ((Below.refl _ _).alloc (Nat.le_refl _) _)
  have HW3 : Hid (W3 = w2.alloc (.cells #[.slice p1 n1 c1, .slice p2 n2 c2] 45)) := hW3
  clear hr hb y0 y1 y2 y3 bA CF HW1 B1 HSH hW3
  rcases HCR.out with ⟨rfl, hno, -⟩ | ⟨rfl, c, hc, hcl⟩
  · have HX : Hid (X = []) := by
      show X = []
      rw [HV.out, hno]; split <;> rfl
    have O0 : Hid (OwnS (W3.alloc (.cells #[] 9)) w.heap.size (.slice (some ⟨W3.heap.size, 0, none⟩) 0 0) []) := OwnS.fresh.base B3.out.size
    have B4 : Hid (Below w.heap.size w (W3.alloc (.cells #[] 9))) := B3.out.alloc B3.out.size _
    clear hno HCR
    go_wp2_with (rw [← HW3.out])
    go_ret
    exact ⟨_, rfl, by rw [HX.out]; exact O0.out, B4.out⟩
  · have HC : Hid (clauseOf ms q = some c) := hc
    have HCL : Hid (HCl w2 All (HEx w2 All d) [.slice p1 n1 c1, .slice p2 n2 c2] c) := hcl
    clear hc hcl HCR
    cases P with
    | false =>
      have HX : Hid (X = []) := by
        show X = []
        rw [HV.out]; rfl
      go_wp2_with fail
      rw [← HW3.out]
      refine (CP.out _ B3.out).mono ?_
      rintro e w4 ⟨rfl, hb4⟩
      have B4 : Hid (Below w.heap.size w w4) := B3.out.trans (hb4.mono B3.out.size)
      have O0 : Hid (OwnS (w4.alloc (.cells #[] 9)) w.heap.size (.slice (some ⟨w4.heap.size, 0, none⟩) 0 0) []) := OwnS.fresh.base B4.out.size
      have B5 : Hid (Below w.heap.size w (w4.alloc (.cells #[] 9))) := B4.out.alloc B4.out.size _
      clear hb4
      go_wp2_with fail
      go_ret
      exact ⟨_, rfl, by rw [HX.out]; exact O0.out, B5.out⟩
    | true =>
      have HX : Hid (X = sortS (clauseVars d c)) := by
        show X = _
        rw [HV.out, HC.out]; rfl
      go_wp2_with fail
      rw [← HW3.out]
      refine (CP.out _ B3.out).mono ?_
      rintro e w4 ⟨rfl, hb4⟩
      have B4 : Hid (Below w.heap.size w w4) := B3.out.trans (hb4.mono B3.out.size)
      have bC4 := bC.out.next hb4
      have HC4 : Hid (HCl w4 All (HEx w4 All d) [.slice p1 n1 c1, .slice p2 n2 c2] c) := HCL.out.mono (S3.out.trans (SameOn.of_below hb4)) (fun _ h => h) (fun _ _ h => h.mono (S3.out.trans (SameOn.of_below hb4)) (fun _ h => h))
      have z0 := bC4.cell 0 _ rfl
      have z1 := bC4.cell 1 _ rfl
      clear hb4 bC4
      go_wp2_with fail
      refine (l07Vars_any d w4 _ c HC4.out (HWT.out c HC.out)).mono ?_
      rintro e w5 ⟨u, rfl, ho, hb5⟩
      have HO : Hid (OwnS w5 w.heap.size u (sortS (clauseVars d c))) := ho.base B4.out.size
      have B5 : Hid (Below w.heap.size w w5) := B4.out.trans (hb5.mono B4.out.size)
      clear ho hb5 z0 z1
      go_wp2_with fail
      go_ret
      exact ⟨u, rfl, by rw [HX.out]; exact HO.out, B5.out⟩
end Go.Proofs.YtoknolophmhlgaaGreatDoor
