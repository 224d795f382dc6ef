/-
  Texts of the proof, packed: CheckSpecD, NameSpecC, NameMath2, NameMath4, NameSpecH, NameSpecI, NameSpecE, NameSpecF, NameSpecJ, NameMath5, NameMath6, LooseMath, CheckSpecE, CheckSpecF, EachGen, EachCall, CheckImplC.
-/
import Derived.Test.YtigfmdfgioccjaaGreatDoorPackB
import Derived.Deep.RegionLaw
import Derived.Deep.RegionHeldLaw
import Derived.Deep.AppendLies
import Derived.Deep.QuietTactic
import Derived.BigQuiet
import Derived.Test.YtigfmdfgioccjaaGreatDoorPackA
/-
  The specification's l05Exp, by contract: what is wrong with an expression and all within.
-/
namespace Go.Proofs.YtigfmdfgioccjaaGreatDoor
open Go.ChangeShapes Go.WideShapes Go.ChangeAt Go.RowKit
set_option linter.unusedVariables false

theorem wtS_within (d : Nat) (x : Ex) : ((withinX x).map fun y => 1 + wtEx d y).sum ≤ wtEx (d + 1) x := by
  have h2 : ∀ l : List Ex, (l.map fun y => 1 + wtEx d y).sum = wtS (wtEx d) l := fun l => by
    unfold wtS
    induction l with
    | nil => rfl
    | cons y l ih => simp only [List.map_cons, List.sum_cons, List.length_cons, ih]; omega
  have h3 : ∀ cl : List Cl, wtS (wtEx d) (bodiesOf cl) ≤ wtS (wtCl (wtEx d)) cl := fun cl => by
    induction cl with
    | nil => simp [bodiesOf, wtS]
    | cons c cl ih =>
      have e : bodiesOf (c :: cl) = c.2 ++ bodiesOf cl := by simp [bodiesOf]
      rw [e]
      simp only [wtS, List.length_append, List.map_append, List.sum_append, List.length_cons, List.map_cons, List.sum_cons, wtCl] at ih ⊢
      omega
  rw [h2]
  have e : withinX x = x.kids ++ bodiesOf x.clauses := rfl
  rw [e]
  have h4 := h3 x.clauses
  have h5 : wtEx (d + 1) x = x.text.size + x.mod.size + wtS (wtEx d) x.kids + wtS (wtCl (wtEx d)) x.clauses := rfl
  have h6 : wtS (wtEx d) (x.kids ++ bodiesOf x.clauses) = wtS (wtEx d) x.kids + wtS (wtEx d) (bodiesOf x.clauses) := by
    unfold wtS; rw [List.length_append, List.map_append, List.sum_append]; omega
  omega
theorem callL_len (ms : List Md) (m : Md) (x : Ex) : (callL ms m x).length ≤ 1 := by
  unfold callL
  split
  · split <;> simp
  · simp
theorem flat_lenG {α β : Type} (f : α → List β) (g : α → Nat) : ∀ l : List α, (∀ y ∈ l, (f y).length ≤ g y) → (l.flatMap f).length ≤ (l.map g).sum
  | [], _ => by simp
  | y :: l, h => by
    rw [List.flatMap_cons, List.length_append, List.map_cons, List.sum_cons]
    have h1 := h y (by simp)
    have h2 := flat_lenG f g l (fun z hz => h z (by simp [hz]))
    omega
theorem codesX_len (ms : List Md) (m : Md) : ∀ (d : Nat) (x : Ex), (codesX ms m d x).length ≤ 1 + wtEx d x
  | 0, _ => by simp [codesX]
  | d + 1, x => by
    have h1 := wtS_within d x
    have h2 := callL_len ms m x
    have h3 := flat_lenG (codesX ms m d) (fun y => 1 + wtEx d y) (withinX x) (fun y _ => codesX_len ms m d y)
    simp only [codesX, List.length_append]
    omega
theorem callL_mem (ms : List Md) (m : Md) (x : Ex) : ∀ c ∈ callL ms m x, c = cCall ∨ c = cFar := by
  unfold callL
  intro c hc
  split at hc
  · split at hc
    · simp at hc
    · rename_i h
      simp at hc
      subst hc
      unfold callC at h ⊢
      split
      · split
        · rename_i h1 h2; exact absurd (by simp [h1, h2]) h
        · exact Or.inl rfl
      · split
        · rename_i h1 h2; exact absurd (by simp [h1, h2]) h
        · exact Or.inr rfl
  · simp at hc
theorem codesX_mem (ms : List Md) (m : Md) : ∀ (d : Nat) (x : Ex), ∀ c ∈ codesX ms m d x, c = cCall ∨ c = cFar
  | 0, _ => fun c hc => by simp [codesX] at hc
  | d + 1, x => fun c hc => by
    simp only [codesX, List.mem_append, List.mem_flatMap] at hc
    rcases hc with hc | ⟨y, _, hc⟩
    · exact callL_mem ms m x c hc
    · exact codesX_mem ms m d y c hc
theorem okS_code {c : ByteArray} (h : c = cCall ∨ c = cFar) : okS c := by
  rcases h with rfl | rfl <;> (unfold okS; decide)

def LxC (dm d : Nat) : Prop := ∀ (w : World) (v : Value) (ms : List Md) (mc : List Value) (m : Md) (cs : List Value) (x : Ex), Rows w All 3 (HMd w All dm) v ms → HMd w All dm mc m → HEx w All d cs x → wtEx d x ≤ 1048576 →
    Calls Tryz.prog 33 #[v, .agg mc.toArray, .agg cs.toArray] w fun e w' => ∃ u, e = .returned u ∧ OwnS w' w.heap.size u (codesX ms m d x) ∧ Below w.heap.size w w'

set_option maxHeartbeats 8000000 in
set_option maxRecDepth 100000 in
theorem l05Exp_of {dm d : Nat} (hE : LxC dm d) : LxC dm (d + 1) := by
  intro w v ms mc m cs x h hm hx hw
  have HMS : Hid (∀ w', Below w.heap.size w w' → Rows w' All 3 (HMd w' All dm) v ms) := fun w' hw => h.mono (SameOn.of_below hw) (fun _ h => h) (fun _ _ _ h => h.mono (SameOn.of_below hw) (fun _ h => h))
  have HMM : Hid (∀ w', Below w.heap.size w w' → HMd w' All dm mc m) := fun w' hw => hm.mono (SameOn.of_below hw) (fun _ h => h)
  have HXX : Hid (∀ w', Below w.heap.size w w' → HEx w' (fun g => g < w.heap.size) (d + 1) cs x) := fun w' hw => hx.tight.mono (SameOn.of_below hw) (fun _ h => h)
  obtain ⟨sv, pe, ne, ce, pf, nf, cf, rfl⟩ := hm.shape
  obtain ⟨kx, nx, tx, mx, ks, cl⟩ := x
  obtain ⟨kv, cv, rfl, -, -, -, -, ⟨p1, q1, rfl, -⟩, ⟨p2, q2, rfl, -⟩⟩ := hx
  simp only [Ex.kind, Ex.n, Ex.text, Ex.mod, Ex.kids, Ex.clauses] at *
  obtain ⟨p, cap, rfl, -⟩ := h
  generalize ms.length = n at *
  have HWT : Hid (wtEx (d + 1) (.mk kx nx tx mx ks cl) ≤ 1048576) := hw
  have HSUM : Hid (((withinX (.mk kx nx tx mx ks cl)).map fun y => 1 + wtEx d y).sum ≤ 1048576) := Nat.le_trans (wtS_within d _) hw
  have HCD : Hid (codesX ms m (d + 1) (.mk kx nx tx mx ks cl) = callL ms m (.mk kx nx tx mx ks cl) ++ (withinX (.mk kx nx tx mx ks cl)).flatMap (codesX ms m d)) := rfl
  have HCL : Hid (callL ms m (.mk kx nx tx mx ks cl) = if kx = 8 then (if (callC ms m (.mk kx nx tx mx ks cl)).toList = [] then [] else [callC ms m (.mk kx nx tx mx ks cl)]) else []) := rfl
  have LCL := callL_len ms m (.mk kx nx tx mx ks cl)
  have OCL : Hid (∀ c ∈ callL ms m (.mk kx nx tx mx ks cl), c = cCall ∨ c = cFar) := callL_mem ms m _
  obtain ⟨i0, hi, hz0, hz1, hz2⟩ := info_parts info_str
  generalize hX : Ex.mk kx nx tx mx ks cl = X at *
  generalize ks.length = nk at *
  generalize cl.length = nc at *
  obtain ⟨W2, hW2⟩ : ∃ W2, W2 = (w.alloc (.cells #[.string sv, .slice pe ne ce, .slice pf nf cf] 42)).alloc (.cells #[.int .i64 kx, .int .i64 nx, .string tx, .string mx, .slice p1 nk q1, .slice p2 nc q2] 73) := ⟨_, rfl⟩
  have bM : Hid (Blk W2 w.heap.size #[.string sv, .slice pe ne ce, .slice pf nf cf] 42) := by show Blk _ _ _ _; rw [hW2]; exact Blk.new.alloc
  have bE : Hid (Blk W2 (w.heap.size + 1) #[.int .i64 kx, .int .i64 nx, .string tx, .string mx, .slice p1 nk q1, .slice p2 nc q2] 73) := by
    show Blk _ _ _ _
    rw [hW2]
    have := Blk.new (w := w.alloc (.cells #[.string sv, .slice pe ne ce, .slice pf nf cf] 42)) (cs := #[.int .i64 kx, .int .i64 nx, .string tx, .string mx, .slice p1 nk q1, .slice p2 nc q2]) (t := 73)
    simp only [alloc_hs] at this
    exact this
  have B2 : Hid (Below w.heap.size w W2) := by show Below _ _ _; rw [hW2]; exact ((Below.refl _ _).alloc (Nat.le_refl _) _).alloc (by simp only [alloc_hs]; omega) _
  have S2 : Hid (W2.heap.size = w.heap.size + 1 + 1) := by show _ = _; rw [hW2]; simp only [alloc_hs]
  have HW2 : Hid (W2 = (w.alloc (.cells #[.string sv, .slice pe ne ce, .slice pf nf cf] 42)).alloc (.cells #[.int .i64 kx, .int .i64 nx, .string tx, .string mx, .slice p1 nk q1, .slice p2 nc q2] 73)) := hW2
  have O3 : Hid (OwnS (W2.alloc (.cells #[] 9)) (w.heap.size + 1 + 1) (.slice (some ⟨w.heap.size + 1 + 1, 0, none⟩) 0 0) []) := by
    have := OwnS.fresh (w := W2)
    rw [S2.out] at this
    exact this
  have B3 : Hid (Below (w.heap.size + 1 + 1) W2 (W2.alloc (.cells #[] 9))) := (Below.refl _ _).alloc (by rw [S2.out]; exact Nat.le_refl _) _
  have HWI : Hid (∀ w', Below w.heap.size w w' → Calls Tryz.prog 57 #[.agg #[.int .i64 kx, .int .i64 nx, .string tx, .string mx, .slice p1 nk q1, .slice p2 nc q2]] w' fun e w'' => ∃ u cells, e = .returned u ∧ w''.ownsRow (w'.heap.size + 1) 73 6 u (withinX X).length cells ∧ CellsR 6 (HEx w' (fun g => g < w.heap.size) d) cells (withinX X) ∧ Below w'.heap.size w' w'') := fun w' hw' => within_any d w' (fun g => g < w.heap.size) (fun g hg => Nat.lt_of_lt_of_le hg hw'.size) _ X (HXX.out w' hw') HWT.out
  have HCA : Hid (∀ w', Below w.heap.size w w' → Calls Tryz.prog 56 #[.slice p n cap, .agg #[.string sv, .slice pe ne ce, .slice pf nf cf], .agg #[.int .i64 kx, .int .i64 nx, .string tx, .string mx, .slice p1 nk q1, .slice p2 nc q2]] w' fun e w'' => e = .returned (.string (callC ms m X)) ∧ Below w'.heap.size w' w'') := fun w' hw' => l05Call_any dm (d + 1) w' _ ms _ m _ X (HMS.out w' hw') (HMM.out w' hw') ((HXX.out w' hw').mono ⟨Nat.le_refl _, fun _ _ _ => rfl⟩ (fun _ _ => trivial))
  clear hm hw hX hW2
  by_cases hk8 : kx = 8
  · subst hk8
    have hkb : ((8 : Int) == 8) = true := by simp
    have HL1 : Hid (callL ms m X = if (callC ms m X).toList = [] then [] else [callC ms m X]) := HCL.out.trans (if_pos rfl)
    have HCM : Hid (callC ms m X ∈ callL ms m X ∨ (callC ms m X).toList = []) := by
      by_cases h : (callC ms m X).toList = []
      · exact Or.inr h
      · left; rw [HL1.out, if_neg h]; simp
    generalize callC ms m X = cc at *
    by_cases hcc : cc.toList = []
    · have hcb : (cc.toList == ([] : List UInt8)) = true := by simp [hcc]
      have HL0 : Hid (callL ms m X = []) := HL1.out.trans (if_pos hcc)
      go_enter Tryz.func33, Tryz.ntmps33
      go_wp2_with fail
      rw [← HW2.out]
      refine (HCA.out _ (B2.out.trans (B3.out.mono (by omega)))).mono ?_
      rintro e w4 ⟨rfl, hb4⟩
      have HOq : Hid (OwnS w4 (w.heap.size + 1 + 1) (.slice (some ⟨w.heap.size + 1 + 1, 0, none⟩) 0 0) (callL ms m X)) := by show OwnS _ _ _ _; rw [HL0.out]; exact O3.out.next hb4
      have HBq : Hid (Below (w.heap.size + 1 + 1) W2 w4) := B3.out.trans (hb4.mono (by rw [alloc_hs, S2.out]; omega))
      have bE4 := bE.out.below HBq.out (by omega)
      have e0 := bE4.cell 0 _ rfl
      have e1 := bE4.cell 1 _ rfl
      have e2 := bE4.cell 2 _ rfl
      have e3 := bE4.cell 3 _ rfl
      have e4 := bE4.cell 4 _ rfl
      have e5 := bE4.cell 5 _ rfl
      clear hb4 bE4
      go_wp2_with fail
      clear e0 e1 e2 e3 e4 e5
      refine (HWI.out _ (B2.out.trans (HBq.out.mono (by omega)))).mono ?_
      rintro e w5 ⟨u5, cells5, rfl, o5, c5, hb⟩
      have HOr : Hid (OwnS w5 (w.heap.size + 1 + 1) (.slice (some ⟨w.heap.size + 1 + 1, 0, none⟩) 0 0) (callL ms m X)) := HOq.out.next hb
      have HBr : Hid (Below (w.heap.size + 1 + 1) W2 w5) := HBq.out.trans (hb.mono (by have := HBq.out.size; rw [S2.out] at this; exact this))
      have HI5 : Hid (w5.ownsRow 0 73 6 u5 (withinX X).length cells5) := owns_base o5
      have HC5 : Hid (CellsR 6 (HEx w5 (fun g => g < w.heap.size) d) cells5 (withinX X)) := c5.mono (fun cs y _ h => h.mono (SameOn.of_below hb) (fun _ h => h))
      obtain ⟨p5, q5, rfl, hcm5⟩ := owns_slice o5
      have hn5 : (withinX X).length ≤ 9223372036854775807 := by unfold maxLen at hcm5; omega
      generalize hnn : (withinX X).length = nn at *
      have HNN : Hid ((withinX X).length = nn) := hnn
      have s5 : w.heap.size + 1 + 1 ≤ w5.heap.size := by have := HBr.out.size; rw [S2.out] at this; exact this
      clear hb hnn HOq HBq o5 c5
      go_wp2_with fail
      go_loopw [7, 10] (fun ov iv wr => ∃ k : Nat, k ≤ nn ∧ iv = .int .i64 k ∧ Hid (OwnS wr (w.heap.size + 1 + 1) ov (callL ms m X ++ ((withinX X).take k).flatMap (codesX ms m d))) ∧ Hid (wr.ownsRow 0 73 6 (.slice p5 nn q5) nn cells5) ∧ Hid (Below (w.heap.size + 1 + 1) w5 wr)) (fun _ iv _ => nn - (intOf iv).toNat)
      case atStart => exact ⟨0, Nat.zero_le _, rfl, by show OwnS _ _ _ _; simpa using HOr.out, HI5, Below.refl _ _⟩
      case round =>
        obtain ⟨k, hk, rfl, ho, hin, hb⟩ := hrel
        have HB0 : Hid (Below w.heap.size w wr) := (B2.out.trans (HBr.out.mono (by omega))).trans (hb.out.mono (by omega))
        have bMr : Hid (Blk wr w.heap.size #[.string sv, .slice pe ne ce, .slice pf nf cf] 42) := (bM.out.below HBr.out (by omega)).below hb.out (by omega)
        by_cases hlt : k < nn
        · obtain ⟨y, hyk⟩ : ∃ y, (withinX X)[k]? = some y := ⟨(withinX X)[k]'(by rw [HNN.out]; exact hlt), List.getElem?_eq_getElem _⟩
          obtain ⟨cs, hcsl, hcs, hy⟩ := HC5.out.2 k y hyk
          have HY : Hid (∀ w', Below wr.heap.size wr w' → HEx w' All d cs y) := fun w' hw => (hy.mono (SameOn.of_low (hb.out.mono (by omega))) (fun _ h => h)).mono (SameOn.of_below hw) (fun _ _ => trivial)
          obtain ⟨z0, z1, z2, z3, z4, z5, rfl⟩ := len6 hcsl
          have ad : ∃ g5, p5 = some ⟨g5, 0, none⟩ := owns_some hin.out (by omega)
          obtain ⟨g5, rfl⟩ := ad
          have a0 := (hin.out.cellAt (k * 6 + 0) (by omega)).trans (hcs 0 (by omega))
          have a1 := (hin.out.cellAt (k * 6 + 1) (by omega)).trans (hcs 1 (by omega))
          have a2 := (hin.out.cellAt (k * 6 + 2) (by omega)).trans (hcs 2 (by omega))
          have a3 := (hin.out.cellAt (k * 6 + 3) (by omega)).trans (hcs 3 (by omega))
          have a4 := (hin.out.cellAt (k * 6 + 4) (by omega)).trans (hcs 4 (by omega))
          have a5 := (hin.out.cellAt (k * 6 + 5) (by omega)).trans (hcs 5 (by omega))
          simp at a0 a1 a2 a3 a4 a5
          have m0 := bMr.out.cell 0 _ rfl
          have m1 := bMr.out.cell 1 _ rfl
          have m2 := bMr.out.cell 2 _ rfl
          have hki : (k : Int) < (nn : Int) := by omega
          have hk0 : (0 : Int) ≤ (k : Int) := by omega
          have hsw : w.heap.size + 1 + 1 ≤ wr.heap.size := by have := hb.out.size; omega
          have HJ : Hid (callL ms m X ++ ((withinX X).take (k + 1)).flatMap (codesX ms m d) = (callL ms m X ++ ((withinX X).take k).flatMap (codesX ms m d)) ++ codesX ms m d y) := by
            show _ = _
            rw [List.take_add_one, hyk]; simp
          have HLK : Hid ((callL ms m X ++ ((withinX X).take k).flatMap (codesX ms m d)).length + (codesX ms m d y).length ≤ 1048577) := by
            have h1 := HSUM.out
            have h2 := sum_take_succ (fun y => 1 + wtEx d y) (withinX X) k y hyk
            have h3 := sum_take_le (fun y => 1 + wtEx d y) (withinX X) (k + 1)
            have h4 := flat_lenG (codesX ms m d) (fun y => 1 + wtEx d y) ((withinX X).take k) (fun z _ => codesX_len ms m d z)
            have h5 := codesX_len ms m d y
            show _ ≤ _
            rw [List.length_append]
            omega
          have HWY : Hid (wtEx d y ≤ 1048576) := by
            have h1 := HSUM.out
            have h2 := sum_take_succ (fun y => 1 + wtEx d y) (withinX X) k y hyk
            have h3 := sum_take_le (fun y => 1 + wtEx d y) (withinX X) (k + 1)
            show _ ≤ _
            omega
          have CX : Hid (∀ w', Below wr.heap.size wr w' → Calls Tryz.prog 33 #[.slice p n cap, .agg #[.string sv, .slice pe ne ce, .slice pf nf cf], .agg #[z0, z1, z2, z3, z4, z5]] w' fun e w'' => ∃ u, e = .returned u ∧ OwnS w'' w'.heap.size u (codesX ms m d y) ∧ Below w'.heap.size w' w'') := fun w' hw' => by
            have hb9 : Below w.heap.size w w' := HB0.out.trans (hw'.mono HB0.out.size)
            exact hE w' _ ms _ m _ y (HMS.out w' hb9) (HMM.out w' hb9) (HY.out w' hw') HWY.out
          generalize hJ0 : callL ms m X ++ ((withinX X).take k).flatMap (codesX ms m d) = J at *
          generalize hY0 : codesX ms m d y = Y at *
          have OY : Hid (∀ c ∈ Y, okS c) := fun c hc => okS_code (codesX_mem ms m d y c (by rw [hY0]; exact hc))
          clear hcs hcsl hy hJ0 hY0
          go_wp2_with fail
          go_region_law
            (first
              | (refine step_append_rows (R := HStr) (S := All) (by rfl) _ _ _ (by rfl) (w.heap.size + 1 + 1) 9 i0 (.string ⟨#[]⟩) 1 16 Tryz.underlying48 hi hz0 hz1 hz2 rfl (by decide) u7 J.length (strs J) (by rfl) (owns_next ho.out.1 K6.out) u6 Y (by rfl) R6.out str_oneCell (by have := HLK.out; unfold maxLen; omega) (by have := HLK.out; omega) (Nat.le_trans hsw K6.out.size) ?_; intro v9 w9 news9 hc9 ho9 hg9)
              | (go_simp; go_at_call 33; refine (CX.out _ (by exact (Below.refl _ _).drew)).mono ?_; rintro e w6 ⟨u6, rfl, o6, hb6⟩; have K6 : Hid (Below wr.heap.size wr w6) := ⟨hb6.os, hb6.tape, hb6.output, hb6.size, hb6.block⟩; have R6 : Hid (Rows w6 All 1 HStr u6 Y) := o6.strR OY.out; clear hb6 o6; dsimp only))
          all_goals
            have HO9 : Hid (OwnS w9 (w.heap.size + 1 + 1) v9 (callL ms m X ++ ((withinX X).take (k + 1)).flatMap (codesX ms m d))) := by
              show OwnS _ _ _ _
              rw [HJ.out]
              exact OwnS.of ho9 (by simp) (by rw [cellsR_str hc9]) (Nat.le_trans (Nat.le_trans hsw K6.out.size) hg9.size)
            have HI9 : Hid (w9.ownsRow 0 73 6 (.slice (some ⟨g5, 0, none⟩) nn q5) nn cells5) := owns_apart (owns_next ho.out.1 K6.out) (owns_next hin.out K6.out) (by decide) hg9
            have HB9 : Hid (Below (w.heap.size + 1 + 1) w5 w9) := (hb.out.trans (K6.out.mono hsw)).trans (owns_below (owns_next ho.out.1 K6.out) hg9 (Nat.le_trans hsw K6.out.size))
            clear hc9 ho9 hg9
            go_wp2_with fail
            exact ⟨⟨k + 1, by omega, by go_num, HO9, HI9, HB9⟩, by simp [intOf]; omega⟩
        · have HR : Hid (OwnS wr w.heap.size u7 (codesX ms m (d + 1) X)) := by
            have h1 := ho.out
            rw [List.take_of_length_le (by rw [HNN.out]; omega)] at h1
            show OwnS _ _ _ _
            rw [HCD.out]
            exact h1.base (by omega)
          go_wp2_with fail
          go_ret
          exact ⟨_, rfl, HR.out, HB0.out⟩
    · have hcb : (cc.toList == ([] : List UInt8)) = false := by simp [hcc]
      have HL0 : Hid (callL ms m X = [cc]) := HL1.out.trans (if_neg hcc)
      go_enter Tryz.func33, Tryz.ntmps33
      go_wp2_with fail
      rw [← HW2.out]
      refine (HCA.out _ (B2.out.trans (B3.out.mono (by omega)))).mono ?_
      rintro e w4 ⟨rfl, hb4⟩
      have HO4 : Hid (OwnS (w4.alloc (.cells #[.string cc] 9)) (w.heap.size + 1 + 1) (.slice (some ⟨w.heap.size + 1 + 1, 0, none⟩) 0 0) []) := (O3.out.next hb4).next ((Below.refl _ _).alloc (Nat.le_refl _) _)
      have HB4 : Hid (Below (w.heap.size + 1 + 1) W2 w4) := B3.out.trans (hb4.mono (by rw [alloc_hs, S2.out]; omega))
      have s4 : w.heap.size + 1 + 1 ≤ w4.heap.size := by have := HB4.out.size; rw [S2.out] at this; exact this
      have HB4' : Hid (Below (w.heap.size + 1 + 1) W2 (w4.alloc (.cells #[.string cc] 9))) := HB4.out.alloc s4 _
      have F7 : Hid (∀ w7, (w4.alloc (.cells #[.string cc] 9)).grownBy w7 (Value.ownBlock (.slice (some ⟨w.heap.size + 1 + 1, 0, none⟩) 0 0)) → w7.cell? ⟨w.heap.size + 1, 0, none⟩ = some (.int .i64 8) ∧ w7.cell? ⟨w.heap.size + 1, 1, none⟩ = some (.int .i64 nx) ∧ w7.cell? ⟨w.heap.size + 1, 2, none⟩ = some (.string tx) ∧ w7.cell? ⟨w.heap.size + 1, 3, none⟩ = some (.string mx) ∧ w7.cell? ⟨w.heap.size + 1, 4, none⟩ = some (.slice p1 nk q1) ∧ w7.cell? ⟨w.heap.size + 1, 5, none⟩ = some (.slice p2 nc q2)) := fun w7 hg7 => by
        have bE4 := bE.out.below (HB4'.out.trans (owns_below HO4.out.1 hg7 (by rw [alloc_hs]; omega))) (by omega)
        exact ⟨bE4.cell 0 _ rfl, bE4.cell 1 _ rfl, bE4.cell 2 _ rfl, bE4.cell 3 _ rfl, bE4.cell 4 _ rfl, bE4.cell 5 _ rfl⟩
      clear hb4
      go_wp2_with (at_builtin; refine wpList_append_own _ rfl _ _ 48 rfl (w.heap.size + 1 + 1) 9 i0 (.string ⟨#[]⟩) 1 16 Tryz.underlying48 hi hz0 hz1 hz2 rfl (by decide) (.slice (some ⟨w.heap.size + 1 + 1, 0, none⟩) 0 0) 0 [] rfl HO4.out.1 ⟨w4.heap.size, 0, none⟩ 1 1 (strs [cc]) rfl (by simp [strs]) (one_str w4 cc _ rfl) (strs_oneCell _) (by unfold maxLen; omega) (by omega) (by rw [alloc_hs]; omega) ?_; intro v7 w7 ho7 hg7 _; obtain ⟨e0, e1, e2, e3, e4, e5⟩ := F7.out w7 hg7)
      have HOq : Hid (OwnS w7 (w.heap.size + 1 + 1) v7 (callL ms m X)) := by
        show OwnS _ _ _ _
        rw [HL0.out]
        exact OwnS.of (l := []) (m := [cc]) ho7 (by simp) (by simp [strs]) (Nat.le_trans (by rw [alloc_hs]; omega) hg7.size)
      have HBq : Hid (Below (w.heap.size + 1 + 1) W2 w7) := HB4'.out.trans (owns_below HO4.out.1 hg7 (by rw [alloc_hs]; omega))
      clear ho7 hg7 e0 e1 e2 e3 e4 e5
      refine (HWI.out _ (B2.out.trans (HBq.out.mono (by omega)))).mono ?_
      rintro e w5 ⟨u5, cells5, rfl, o5, c5, hb⟩
      have HOr : Hid (OwnS w5 (w.heap.size + 1 + 1) v7 (callL ms m X)) := HOq.out.next hb
      have HBr : Hid (Below (w.heap.size + 1 + 1) W2 w5) := HBq.out.trans (hb.mono (by have := HBq.out.size; rw [S2.out] at this; exact this))
      have HI5 : Hid (w5.ownsRow 0 73 6 u5 (withinX X).length cells5) := owns_base o5
      have HC5 : Hid (CellsR 6 (HEx w5 (fun g => g < w.heap.size) d) cells5 (withinX X)) := c5.mono (fun cs y _ h => h.mono (SameOn.of_below hb) (fun _ h => h))
      obtain ⟨p5, q5, rfl, hcm5⟩ := owns_slice o5
      have hn5 : (withinX X).length ≤ 9223372036854775807 := by unfold maxLen at hcm5; omega
      generalize hnn : (withinX X).length = nn at *
      have HNN : Hid ((withinX X).length = nn) := hnn
      have s5 : w.heap.size + 1 + 1 ≤ w5.heap.size := by have := HBr.out.size; rw [S2.out] at this; exact this
      clear hb hnn HOq HBq o5 c5
      go_wp2_with fail
      go_loopw [7, 10] (fun ov iv wr => ∃ k : Nat, k ≤ nn ∧ iv = .int .i64 k ∧ Hid (OwnS wr (w.heap.size + 1 + 1) ov (callL ms m X ++ ((withinX X).take k).flatMap (codesX ms m d))) ∧ Hid (wr.ownsRow 0 73 6 (.slice p5 nn q5) nn cells5) ∧ Hid (Below (w.heap.size + 1 + 1) w5 wr)) (fun _ iv _ => nn - (intOf iv).toNat)
      case atStart => exact ⟨0, Nat.zero_le _, rfl, by show OwnS _ _ _ _; simpa using HOr.out, HI5, Below.refl _ _⟩
      case round =>
        obtain ⟨k, hk, rfl, ho, hin, hb⟩ := hrel
        have HB0 : Hid (Below w.heap.size w wr) := (B2.out.trans (HBr.out.mono (by omega))).trans (hb.out.mono (by omega))
        have bMr : Hid (Blk wr w.heap.size #[.string sv, .slice pe ne ce, .slice pf nf cf] 42) := (bM.out.below HBr.out (by omega)).below hb.out (by omega)
        by_cases hlt : k < nn
        · obtain ⟨y, hyk⟩ : ∃ y, (withinX X)[k]? = some y := ⟨(withinX X)[k]'(by rw [HNN.out]; exact hlt), List.getElem?_eq_getElem _⟩
          obtain ⟨cs, hcsl, hcs, hy⟩ := HC5.out.2 k y hyk
          have HY : Hid (∀ w', Below wr.heap.size wr w' → HEx w' All d cs y) := fun w' hw => (hy.mono (SameOn.of_low (hb.out.mono (by omega))) (fun _ h => h)).mono (SameOn.of_below hw) (fun _ _ => trivial)
          obtain ⟨z0, z1, z2, z3, z4, z5, rfl⟩ := len6 hcsl
          have ad : ∃ g5, p5 = some ⟨g5, 0, none⟩ := owns_some hin.out (by omega)
          obtain ⟨g5, rfl⟩ := ad
          have a0 := (hin.out.cellAt (k * 6 + 0) (by omega)).trans (hcs 0 (by omega))
          have a1 := (hin.out.cellAt (k * 6 + 1) (by omega)).trans (hcs 1 (by omega))
          have a2 := (hin.out.cellAt (k * 6 + 2) (by omega)).trans (hcs 2 (by omega))
          have a3 := (hin.out.cellAt (k * 6 + 3) (by omega)).trans (hcs 3 (by omega))
          have a4 := (hin.out.cellAt (k * 6 + 4) (by omega)).trans (hcs 4 (by omega))
          have a5 := (hin.out.cellAt (k * 6 + 5) (by omega)).trans (hcs 5 (by omega))
          simp at a0 a1 a2 a3 a4 a5
          have m0 := bMr.out.cell 0 _ rfl
          have m1 := bMr.out.cell 1 _ rfl
          have m2 := bMr.out.cell 2 _ rfl
          have hki : (k : Int) < (nn : Int) := by omega
          have hk0 : (0 : Int) ≤ (k : Int) := by omega
          have hsw : w.heap.size + 1 + 1 ≤ wr.heap.size := by have := hb.out.size; omega
          have HJ : Hid (callL ms m X ++ ((withinX X).take (k + 1)).flatMap (codesX ms m d) = (callL ms m X ++ ((withinX X).take k).flatMap (codesX ms m d)) ++ codesX ms m d y) := by
            show _ = _
            rw [List.take_add_one, hyk]; simp
          have HLK : Hid ((callL ms m X ++ ((withinX X).take k).flatMap (codesX ms m d)).length + (codesX ms m d y).length ≤ 1048577) := by
            have h1 := HSUM.out
            have h2 := sum_take_succ (fun y => 1 + wtEx d y) (withinX X) k y hyk
            have h3 := sum_take_le (fun y => 1 + wtEx d y) (withinX X) (k + 1)
            have h4 := flat_lenG (codesX ms m d) (fun y => 1 + wtEx d y) ((withinX X).take k) (fun z _ => codesX_len ms m d z)
            have h5 := codesX_len ms m d y
            show _ ≤ _
            rw [List.length_append]
            omega
          have HWY : Hid (wtEx d y ≤ 1048576) := by
            have h1 := HSUM.out
            have h2 := sum_take_succ (fun y => 1 + wtEx d y) (withinX X) k y hyk
            have h3 := sum_take_le (fun y => 1 + wtEx d y) (withinX X) (k + 1)
            show _ ≤ _
            omega
          have CX : Hid (∀ w', Below wr.heap.size wr w' → Calls Tryz.prog 33 #[.slice p n cap, .agg #[.string sv, .slice pe ne ce, .slice pf nf cf], .agg #[z0, z1, z2, z3, z4, z5]] w' fun e w'' => ∃ u, e = .returned u ∧ OwnS w'' w'.heap.size u (codesX ms m d y) ∧ Below w'.heap.size w' w'') := fun w' hw' => by
            have hb9 : Below w.heap.size w w' := HB0.out.trans (hw'.mono HB0.out.size)
            exact hE w' _ ms _ m _ y (HMS.out w' hb9) (HMM.out w' hb9) (HY.out w' hw') HWY.out
          generalize hJ0 : callL ms m X ++ ((withinX X).take k).flatMap (codesX ms m d) = J at *
          generalize hY0 : codesX ms m d y = Y at *
          have OY : Hid (∀ c ∈ Y, okS c) := fun c hc => okS_code (codesX_mem ms m d y c (by rw [hY0]; exact hc))
          clear hcs hcsl hy hJ0 hY0
          go_wp2_with fail
          go_region_law
            (first
              | (refine step_append_rows (R := HStr) (S := All) (by rfl) _ _ _ (by rfl) (w.heap.size + 1 + 1) 9 i0 (.string ⟨#[]⟩) 1 16 Tryz.underlying48 hi hz0 hz1 hz2 rfl (by decide) u7 J.length (strs J) (by rfl) (owns_next ho.out.1 K6.out) u6 Y (by rfl) R6.out str_oneCell (by have := HLK.out; unfold maxLen; omega) (by have := HLK.out; omega) (Nat.le_trans hsw K6.out.size) ?_; intro v9 w9 news9 hc9 ho9 hg9)
              | (go_simp; go_at_call 33; refine (CX.out _ (by exact (Below.refl _ _).drew)).mono ?_; rintro e w6 ⟨u6, rfl, o6, hb6⟩; have K6 : Hid (Below wr.heap.size wr w6) := ⟨hb6.os, hb6.tape, hb6.output, hb6.size, hb6.block⟩; have R6 : Hid (Rows w6 All 1 HStr u6 Y) := o6.strR OY.out; clear hb6 o6; dsimp only))
          all_goals
            have HO9 : Hid (OwnS w9 (w.heap.size + 1 + 1) v9 (callL ms m X ++ ((withinX X).take (k + 1)).flatMap (codesX ms m d))) := by
              show OwnS _ _ _ _
              rw [HJ.out]
              exact OwnS.of ho9 (by simp) (by rw [cellsR_str hc9]) (Nat.le_trans (Nat.le_trans hsw K6.out.size) hg9.size)
            have HI9 : Hid (w9.ownsRow 0 73 6 (.slice (some ⟨g5, 0, none⟩) nn q5) nn cells5) := owns_apart (owns_next ho.out.1 K6.out) (owns_next hin.out K6.out) (by decide) hg9
            have HB9 : Hid (Below (w.heap.size + 1 + 1) w5 w9) := (hb.out.trans (K6.out.mono hsw)).trans (owns_below (owns_next ho.out.1 K6.out) hg9 (Nat.le_trans hsw K6.out.size))
            clear hc9 ho9 hg9
            go_wp2_with fail
            exact ⟨⟨k + 1, by omega, by go_num, HO9, HI9, HB9⟩, by simp [intOf]; omega⟩
        · have HR : Hid (OwnS wr w.heap.size u7 (codesX ms m (d + 1) X)) := by
            have h1 := ho.out
            rw [List.take_of_length_le (by rw [HNN.out]; omega)] at h1
            show OwnS _ _ _ _
            rw [HCD.out]
            exact h1.base (by omega)
          go_wp2_with fail
          go_ret
          exact ⟨_, rfl, HR.out, HB0.out⟩
  · have hkb : (kx == 8) = false := by simpa using hk8
    have HL0 : Hid (callL ms m X = []) := HCL.out.trans (if_neg hk8)
    have HOq : Hid (OwnS (W2.alloc (.cells #[] 9)) (w.heap.size + 1 + 1) (.slice (some ⟨w.heap.size + 1 + 1, 0, none⟩) 0 0) (callL ms m X)) := by show OwnS _ _ _ _; rw [HL0.out]; exact O3.out
    have HBq := B3
    go_enter Tryz.func33, Tryz.ntmps33
    go_wp2_with fail
    rw [← HW2.out]
    refine (HWI.out _ (B2.out.trans (HBq.out.mono (by omega)))).mono ?_
    rintro e w5 ⟨u5, cells5, rfl, o5, c5, hb⟩
    have HOr : Hid (OwnS w5 (w.heap.size + 1 + 1) (.slice (some ⟨w.heap.size + 1 + 1, 0, none⟩) 0 0) (callL ms m X)) := HOq.out.next hb
    have HBr : Hid (Below (w.heap.size + 1 + 1) W2 w5) := HBq.out.trans (hb.mono (by have := HBq.out.size; rw [S2.out] at this; exact this))
    have HI5 : Hid (w5.ownsRow 0 73 6 u5 (withinX X).length cells5) := owns_base o5
    have HC5 : Hid (CellsR 6 (HEx w5 (fun g => g < w.heap.size) d) cells5 (withinX X)) := c5.mono (fun cs y _ h => h.mono (SameOn.of_below hb) (fun _ h => h))
    obtain ⟨p5, q5, rfl, hcm5⟩ := owns_slice o5
    have hn5 : (withinX X).length ≤ 9223372036854775807 := by unfold maxLen at hcm5; omega
    generalize hnn : (withinX X).length = nn at *
    have HNN : Hid ((withinX X).length = nn) := hnn
    have s5 : w.heap.size + 1 + 1 ≤ w5.heap.size := by have := HBr.out.size; rw [S2.out] at this; exact this
    clear hb hnn HOq HBq o5 c5
    go_wp2_with fail
    go_loopw [7, 10] (fun ov iv wr => ∃ k : Nat, k ≤ nn ∧ iv = .int .i64 k ∧ Hid (OwnS wr (w.heap.size + 1 + 1) ov (callL ms m X ++ ((withinX X).take k).flatMap (codesX ms m d))) ∧ Hid (wr.ownsRow 0 73 6 (.slice p5 nn q5) nn cells5) ∧ Hid (Below (w.heap.size + 1 + 1) w5 wr)) (fun _ iv _ => nn - (intOf iv).toNat)
    case atStart => exact ⟨0, Nat.zero_le _, rfl, by show OwnS _ _ _ _; simpa using HOr.out, HI5, Below.refl _ _⟩
    case round =>
      obtain ⟨k, hk, rfl, ho, hin, hb⟩ := hrel
      have HB0 : Hid (Below w.heap.size w wr) := (B2.out.trans (HBr.out.mono (by omega))).trans (hb.out.mono (by omega))
      have bMr : Hid (Blk wr w.heap.size #[.string sv, .slice pe ne ce, .slice pf nf cf] 42) := (bM.out.below HBr.out (by omega)).below hb.out (by omega)
      by_cases hlt : k < nn
      · obtain ⟨y, hyk⟩ : ∃ y, (withinX X)[k]? = some y := ⟨(withinX X)[k]'(by rw [HNN.out]; exact hlt), List.getElem?_eq_getElem _⟩
        obtain ⟨cs, hcsl, hcs, hy⟩ := HC5.out.2 k y hyk
        have HY : Hid (∀ w', Below wr.heap.size wr w' → HEx w' All d cs y) := fun w' hw => (hy.mono (SameOn.of_low (hb.out.mono (by omega))) (fun _ h => h)).mono (SameOn.of_below hw) (fun _ _ => trivial)
        obtain ⟨z0, z1, z2, z3, z4, z5, rfl⟩ := len6 hcsl
        have ad : ∃ g5, p5 = some ⟨g5, 0, none⟩ := owns_some hin.out (by omega)
        obtain ⟨g5, rfl⟩ := ad
        have a0 := (hin.out.cellAt (k * 6 + 0) (by omega)).trans (hcs 0 (by omega))
        have a1 := (hin.out.cellAt (k * 6 + 1) (by omega)).trans (hcs 1 (by omega))
        have a2 := (hin.out.cellAt (k * 6 + 2) (by omega)).trans (hcs 2 (by omega))
        have a3 := (hin.out.cellAt (k * 6 + 3) (by omega)).trans (hcs 3 (by omega))
        have a4 := (hin.out.cellAt (k * 6 + 4) (by omega)).trans (hcs 4 (by omega))
        have a5 := (hin.out.cellAt (k * 6 + 5) (by omega)).trans (hcs 5 (by omega))
        simp at a0 a1 a2 a3 a4 a5
        have m0 := bMr.out.cell 0 _ rfl
        have m1 := bMr.out.cell 1 _ rfl
        have m2 := bMr.out.cell 2 _ rfl
        have hki : (k : Int) < (nn : Int) := by omega
        have hk0 : (0 : Int) ≤ (k : Int) := by omega
        have hsw : w.heap.size + 1 + 1 ≤ wr.heap.size := by have := hb.out.size; omega
        have HJ : Hid (callL ms m X ++ ((withinX X).take (k + 1)).flatMap (codesX ms m d) = (callL ms m X ++ ((withinX X).take k).flatMap (codesX ms m d)) ++ codesX ms m d y) := by
          show _ = _
          rw [List.take_add_one, hyk]; simp
        have HLK : Hid ((callL ms m X ++ ((withinX X).take k).flatMap (codesX ms m d)).length + (codesX ms m d y).length ≤ 1048577) := by
          have h1 := HSUM.out
          have h2 := sum_take_succ (fun y => 1 + wtEx d y) (withinX X) k y hyk
          have h3 := sum_take_le (fun y => 1 + wtEx d y) (withinX X) (k + 1)
          have h4 := flat_lenG (codesX ms m d) (fun y => 1 + wtEx d y) ((withinX X).take k) (fun z _ => codesX_len ms m d z)
          have h5 := codesX_len ms m d y
          show _ ≤ _
          rw [List.length_append]
          omega
        have HWY : Hid (wtEx d y ≤ 1048576) := by
          have h1 := HSUM.out
          have h2 := sum_take_succ (fun y => 1 + wtEx d y) (withinX X) k y hyk
          have h3 := sum_take_le (fun y => 1 + wtEx d y) (withinX X) (k + 1)
          show _ ≤ _
          omega
        have CX : Hid (∀ w', Below wr.heap.size wr w' → Calls Tryz.prog 33 #[.slice p n cap, .agg #[.string sv, .slice pe ne ce, .slice pf nf cf], .agg #[z0, z1, z2, z3, z4, z5]] w' fun e w'' => ∃ u, e = .returned u ∧ OwnS w'' w'.heap.size u (codesX ms m d y) ∧ Below w'.heap.size w' w'') := fun w' hw' => by
          have hb9 : Below w.heap.size w w' := HB0.out.trans (hw'.mono HB0.out.size)
          exact hE w' _ ms _ m _ y (HMS.out w' hb9) (HMM.out w' hb9) (HY.out w' hw') HWY.out
        generalize hJ0 : callL ms m X ++ ((withinX X).take k).flatMap (codesX ms m d) = J at *
        generalize hY0 : codesX ms m d y = Y at *
        have OY : Hid (∀ c ∈ Y, okS c) := fun c hc => okS_code (codesX_mem ms m d y c (by rw [hY0]; exact hc))
        clear hcs hcsl hy hJ0 hY0
        go_wp2_with fail
        go_region_law
          (first
            | (refine step_append_rows (R := HStr) (S := All) (by rfl) _ _ _ (by rfl) (w.heap.size + 1 + 1) 9 i0 (.string ⟨#[]⟩) 1 16 Tryz.underlying48 hi hz0 hz1 hz2 rfl (by decide) u7 J.length (strs J) (by rfl) (owns_next ho.out.1 K6.out) u6 Y (by rfl) R6.out str_oneCell (by have := HLK.out; unfold maxLen; omega) (by have := HLK.out; omega) (Nat.le_trans hsw K6.out.size) ?_; intro v9 w9 news9 hc9 ho9 hg9)
            | (go_simp; go_at_call 33; refine (CX.out _ (by exact (Below.refl _ _).drew)).mono ?_; rintro e w6 ⟨u6, rfl, o6, hb6⟩; have K6 : Hid (Below wr.heap.size wr w6) := ⟨hb6.os, hb6.tape, hb6.output, hb6.size, hb6.block⟩; have R6 : Hid (Rows w6 All 1 HStr u6 Y) := o6.strR OY.out; clear hb6 o6; dsimp only))
        all_goals
          have HO9 : Hid (OwnS w9 (w.heap.size + 1 + 1) v9 (callL ms m X ++ ((withinX X).take (k + 1)).flatMap (codesX ms m d))) := by
            show OwnS _ _ _ _
            rw [HJ.out]
            exact OwnS.of ho9 (by simp) (by rw [cellsR_str hc9]) (Nat.le_trans (Nat.le_trans hsw K6.out.size) hg9.size)
          have HI9 : Hid (w9.ownsRow 0 73 6 (.slice (some ⟨g5, 0, none⟩) nn q5) nn cells5) := owns_apart (owns_next ho.out.1 K6.out) (owns_next hin.out K6.out) (by decide) hg9
          have HB9 : Hid (Below (w.heap.size + 1 + 1) w5 w9) := (hb.out.trans (K6.out.mono hsw)).trans (owns_below (owns_next ho.out.1 K6.out) hg9 (Nat.le_trans hsw K6.out.size))
          clear hc9 ho9 hg9
          go_wp2_with fail
          exact ⟨⟨k + 1, by omega, by go_num, HO9, HI9, HB9⟩, by simp [intOf]; omega⟩
      · have HR : Hid (OwnS wr w.heap.size u7 (codesX ms m (d + 1) X)) := by
          have h1 := ho.out
          rw [List.take_of_length_le (by rw [HNN.out]; omega)] at h1
          show OwnS _ _ _ _
          rw [HCD.out]
          exact h1.base (by omega)
        go_wp2_with fail
        go_ret
        exact ⟨_, rfl, HR.out, HB0.out⟩

theorem l05Exp_all (dm : Nat) : ∀ d, LxC dm d
  | 0 => fun w v ms mc m cs x _ _ h _ => h.elim
  | d + 1 => l05Exp_of (l05Exp_all dm d)
end Go.Proofs.YtigfmdfgioccjaaGreatDoor
/-
  The specification's chapter 4, by contract: Bound.
-/
namespace Go.Proofs.YtigfmdfgioccjaaGreatDoor
open Go.ChangeShapes Go.WideShapes Go.ChangeAt Go.RowKit
set_option linter.unusedVariables false

theorem bndV_two (d : Nat) (n : Int) (t m : ByteArray) (a b : Ex) (cs : List Cl) : bndV (d + 1) (.mk 9 n t m [a, b] cs) = onceS (bndV d b) (patV d a) := rfl
theorem bndV_else (d : Nat) (k n : Int) (t m : ByteArray) (ks : List Ex) (cs : List Cl) (h : ¬ (k = 9 ∧ ks.length = 2)) : bndV (d + 1) (.mk k n t m ks cs) = foldV (bndV d) [] ks := by
  unfold bndV
  split
  · simp at h
  · rfl
theorem bndV_len : ∀ (d : Nat) (x : Ex), (bndV d x).length ≤ 1 + wtEx d x
  | 0, _ => by simp [bndV]
  | d + 1, .mk k n t m ks cs => by
    have hw : wtEx (d + 1) (.mk k n t m ks cs) = t.size + m.size + wtS (wtEx d) ks + wtS (wtCl (wtEx d)) cs := rfl
    by_cases h : k = 9 ∧ ks.length = 2
    · obtain ⟨rfl, h2⟩ := h
      match ks, h2 with
      | [a, b], _ =>
        have h3 := onceS_length (bndV d b) (patV d a)
        have h4 := bndV_len d b
        have h5 := patV_len d a
        have h6 : wtS (wtEx d) [a, b] = 2 + (wtEx d a + wtEx d b) := by simp [wtS]
        rw [bndV_two, hw]; omega
    · have h1 := foldV_len (bndV d) (wtEx d) ks [] (fun y _ => bndV_len d y)
      rw [bndV_else d k n t m ks cs h, hw]
      simp only [List.length_nil] at h1
      omega
theorem bndV_ok : ∀ (d : Nat) (x : Ex), exS d x → ∀ s ∈ bndV d x, okS s
  | 0, _, h, _, _ => h.elim
  | d + 1, .mk k n t m ks cs, hx, s, hs => by
    by_cases h : k = 9 ∧ ks.length = 2
    · obtain ⟨rfl, h2⟩ := h
      match ks, h2 with
      | [a, b], _ =>
        rw [bndV_two] at hs
        rcases onceS_mem _ _ s hs with h1 | h1
        · exact bndV_ok d b (hx.2.1 b (by simp)) s h1
        · exact patV_ok d a (hx.2.1 a (by simp)) s h1
    · rw [bndV_else d k n t m ks cs h] at hs
      rcases foldV_mem _ _ _ s hs with h1 | ⟨y, hy, h1⟩
      · simp at h1
      · exact bndV_ok d y (hx.2.1 y hy) s h1

set_option maxHeartbeats 8000000 in
set_option maxRecDepth 100000 in
theorem bound_of {d : Nat} (hE : NmC 80 d (bndV d)) : NmC 80 (d + 1) (bndV (d + 1)) := by
  intro w cs x h hwt
  have hok := h.txts
  obtain ⟨kv, cv, rfl, -, -, hts, hms, f0, -⟩ := h
  obtain ⟨kx, nx, tx, mx, ks, cl⟩ := x
  simp only [Ex.kind, Ex.n, Ex.text, Ex.mod, Ex.kids] at *
  have hw : wtEx (d + 1) (.mk kx nx tx mx ks cl) = tx.size + mx.size + wtS (wtEx d) ks + wtS (wtCl (wtEx d)) cl := rfl
  have wks : wtS (wtEx d) ks ≤ 1048576 := by omega
  obtain ⟨p, cap, rfl, hcl, hcm, hx⟩ := f0
  have hnb : ks.length ≤ 9223372036854775807 := by unfold maxLen at hcm; omega
  obtain ⟨i, hi, hz0, hz1, hz2⟩ := info_parts info_str
  have LQ : Hid (∀ k, (foldV (bndV d) [] (ks.take k)).length ≤ 1048577) := fun k => by
    have h1 := foldV_len (bndV d) (wtEx d) (ks.take k) [] (fun y _ => bndV_len d y)
    have h2 : wtS (wtEx d) (ks.take k) ≤ wtS (wtEx d) ks := by
      have h3 := sum_take_le (wtEx d) ks k
      have h4 : (ks.take k).length ≤ ks.length := by rw [List.length_take]; omega
      unfold wtS; omega
    simp only [List.length_nil] at h1
    omega
  have OQ : Hid (∀ k, ∀ s ∈ foldV (bndV d) [] (ks.take k), okS s) := fun k s hs => by
    rcases foldV_mem _ _ _ s hs with h | ⟨y, hy, h⟩
    · simp at h
    · exact bndV_ok d y (hok.2.1 y (List.mem_of_mem_take hy)) s h
  have BX : Hid (∀ k x, ks[k]? = some x → wtEx d x ≤ 1048576 ∧ exS d x ∧ (bndV d x).length ≤ 1048577) := fun k x hk => by
    have h1 := sum_take_succ (wtEx d) ks k x hk
    have h2 := sum_take_le (wtEx d) ks (k + 1)
    have h3 := bndV_len d x
    have h4 : wtEx d x ≤ 1048576 := by unfold wtS at wks; omega
    exact ⟨h4, hok.2.1 x (List.mem_of_getElem? hk), by omega⟩
  by_cases h92 : kx = 9 ∧ ks.length = 2
  · obtain ⟨rfl, hn2⟩ := h92
    obtain ⟨ya, yb, rfl⟩ : ∃ a b, ks = [a, b] := by
      match ks, hn2 with
      | [a, b], _ => exact ⟨a, b, rfl⟩
    rw [bndV_two]
    obtain ⟨wa, sa, -⟩ := BX.out 0 ya rfl
    obtain ⟨wb, sb, lb⟩ := BX.out 1 yb rfl
    have la : (patV d ya).length ≤ 1048577 := by have := patV_len d ya; omega
    obtain ⟨g, off, rfl, -, hgl, hat⟩ := hx (by simp)
    obtain ⟨cs, hcsl, hcs, ra⟩ := hat 0 ya rfl
    obtain ⟨cs', hcsl', hcs', rb⟩ := hat 1 yb rfl
    simp only [List.length_cons, List.length_nil] at *
    obtain ⟨W1, hW1⟩ : ∃ W1, W1 = w.alloc (.cells #[.int .i64 9, .int .i64 nx, .string tx, .string mx, .slice (some ⟨g, off, none⟩) 2 cap, cv] 73) := ⟨_, rfl⟩
    have bA : Hid (Blk W1 w.heap.size #[.int .i64 9, .int .i64 nx, .string tx, .string mx, .slice (some ⟨g, off, none⟩) 2 cap, cv] 73) := by show Blk _ _ _ _; rw [hW1]; exact Blk.new
    have B1 : Hid (Below w.heap.size w W1) := by show Below _ _ _; rw [hW1]; exact (Below.refl _ _).alloc (Nat.le_refl _) _
    have HW1 : Hid (W1 = w.alloc (.cells #[.int .i64 9, .int .i64 nx, .string tx, .string mx, .slice (some ⟨g, off, none⟩) 2 cap, cv] 73)) := hW1
    have EA : ∀ w', Below w.heap.size w w' → HEx w' All d cs ya := fun w' hw => ra.mono (SameOn.of_below hw) (fun _ h => h)
    have EB : ∀ w', Below w.heap.size w w' → HEx w' All d cs' yb := fun w' hw => rb.mono (SameOn.of_below hw) (fun _ h => h)
    obtain ⟨c0, c1, c2, c3, c4, c5, rfl⟩ := len6 hcsl
    obtain ⟨e0, e1, e2, e3, e4, e5, rfl⟩ := len6 hcsl'
    have ca0 := hcs 0 (by omega)
    have cb0 := hcs' 0 (by omega)
    have ca1 := hcs 1 (by omega)
    have cb1 := hcs' 1 (by omega)
    have ca2 := hcs 2 (by omega)
    have cb2 := hcs' 2 (by omega)
    have ca3 := hcs 3 (by omega)
    have cb3 := hcs' 3 (by omega)
    have ca4 := hcs 4 (by omega)
    have cb4 := hcs' 4 (by omega)
    have ca5 := hcs 5 (by omega)
    have cb5 := hcs' 5 (by omega)
    rw [← B1.out.cell (p := ⟨g, _, none⟩) hgl] at ca0 cb0 ca1 cb1 ca2 cb2 ca3 cb3 ca4 cb4 ca5 cb5
    simp at ca0 cb0 ca1 cb1 ca2 cb2 ca3 cb3 ca4 cb4 ca5 cb5
    have x4 := bA.out.cell 4 _ rfl
    clear hx hat hcs hcs' hcsl hcsl' ra rb LQ OQ BX hok hw hwt hW1
    go_enter Tryz.func80, Tryz.ntmps80
    go_wp2_with fail
    rw [← HW1.out]
    go_region_held3 (fun w' => w'.cell? ⟨w.heap.size, 4, none⟩ = some (.slice (some ⟨g, off, none⟩) 2 cap) ∧ w'.cell? ⟨g, off, none⟩ = some c0 ∧ w'.cell? ⟨g, off + 1, none⟩ = some c1 ∧ w'.cell? ⟨g, off + 2, none⟩ = some c2 ∧ w'.cell? ⟨g, off + 3, none⟩ = some c3 ∧ w'.cell? ⟨g, off + 4, none⟩ = some c4 ∧ w'.cell? ⟨g, off + 5, none⟩ = some c5 ∧ w'.cell? ⟨g, off + 6, none⟩ = some e0 ∧ w'.cell? ⟨g, off + 6 + 1, none⟩ = some e1 ∧ w'.cell? ⟨g, off + 6 + 2, none⟩ = some e2 ∧ w'.cell? ⟨g, off + 6 + 3, none⟩ = some e3 ∧ w'.cell? ⟨g, off + 6 + 4, none⟩ = some e4 ∧ w'.cell? ⟨g, off + 6 + 5, none⟩ = some e5)
      (first | go_keep | (go_split_ands; refine ⟨?_, ?_, ?_, ?_, ?_, ?_, ?_, ?_, ?_, ?_, ?_, ?_, ?_⟩ <;> exact cell_next hb (by assumption)))
      (first
        | (go_at_call 80; refine (hE _ _ yb (EB _ (by exact B1.out.drew)) wb).mono ?_; rintro e w4 ⟨u4, rfl, ho4, hb⟩; have K4 : Hid (Below W1.heap.size W1 w4) := ⟨hb.os, hb.tape, hb.output, hb.size, hb.block⟩; have G4 : Hid (OwnS w4 W1.heap.size u4 (bndV d yb)) := ho4; clear ho4)
        | (go_at_call 52; refine (patVars_all d _ _ ya (EA _ (by exact B1.out.trans (K4.out.mono B1.out.size))) wa).mono ?_; rintro e w5 ⟨u5, rfl, ho5, hb⟩; have K5 : Hid (Below w4.heap.size w4 w5) := hb; have G5 : Hid (StrR w5 u5 (patV d ya)) := ho5.strR (patV_ok d ya sa); have G4b : Hid (StrV w5 u4 (bndV d yb)) := (G4.out.next hb).strV (bndV_ok d yb sb); clear ho5)
        | (go_at_call 32; refine (once_any _ _ _ _ _ G4b.out G5.out (by omega)).mono ?_; rintro e w6 ⟨u6, rfl, ho6, hb⟩; have K6 : Hid (Below w5.heap.size w5 w6) := hb; have G6 : Hid (OwnS w6 w5.heap.size u6 (onceS (bndV d yb) (patV d ya))) := ho6; clear ho6))
    go_split_ands
    have BZ : Hid (Below w.heap.size w w5) := (B1.out.trans (K4.out.mono B1.out.size)).trans (K5.out.mono (B1.out.trans (K4.out.mono B1.out.size)).size)
    have BY : Hid (Below w.heap.size w w6) := BZ.out.trans (K6.out.mono BZ.out.size)
    go_wp2_with fail
    go_ret
    exact ⟨u6, rfl, G6.out.base BZ.out.size, BY.out⟩
  · rw [bndV_else d kx nx tx mx ks cl h92]
    generalize hn : ks.length = n at *
    have HN : Hid (ks.length = n) := hn
    have HX : Hid (ks ≠ [] → ∃ g off, p = some ⟨g, off, none⟩ ∧ All g ∧ g < w.heap.size ∧ ∀ i x, ks[i]? = some x → ∃ cs, cs.length = 6 ∧ (∀ j, j < 6 → w.cell? ⟨g, off + i * 6 + j, none⟩ = cs[j]?) ∧ HEx w All d cs x) := hx
    obtain ⟨W1, hW1⟩ : ∃ W1, W1 = w.alloc (.cells #[.int .i64 kx, .int .i64 nx, .string tx, .string mx, .slice p n cap, cv] 73) := ⟨_, rfl⟩
    have bA : Hid (Blk W1 w.heap.size #[.int .i64 kx, .int .i64 nx, .string tx, .string mx, .slice p n cap, cv] 73) := by show Blk _ _ _ _; rw [hW1]; exact Blk.new
    have B1 : Hid (Below w.heap.size w W1) := by show Below _ _ _; rw [hW1]; exact (Below.refl _ _).alloc (Nat.le_refl _) _
    have hs1 : W1.heap.size = w.heap.size + 1 := by rw [hW1]; simp
    have HW1 : Hid (W1 = w.alloc (.cells #[.int .i64 kx, .int .i64 nx, .string tx, .string mx, .slice p n cap, cv] 73)) := hW1
    have O9 : Hid (OwnS (W1.alloc (.cells #[] 9)) w.heap.size (.slice (some ⟨w.heap.size + 1, 0, none⟩) 0 0) []) := by
      have := (OwnS.fresh (w := W1)).base B1.out.size
      rwa [hs1] at this
    have BBB : Hid (Below w.heap.size w (W1.alloc (.cells #[] 9))) := B1.out.alloc B1.out.size _
    have bB : Hid (Blk (W1.alloc (.cells #[] 9)) w.heap.size #[.int .i64 kx, .int .i64 nx, .string tx, .string mx, .slice p n cap, cv] 73) := bA.out.alloc
    clear hx hn hok hw hwt hW1
    by_cases k9 : kx = 9
    · subst k9
      have hn2 : ¬ n = 2 := fun h => h92 ⟨rfl, h⟩
      have hn2b : ((n : Int) == 2) = false := by simp; omega
      clear h92
      go_enter Tryz.func80, Tryz.ntmps80
      go_wp2_with fail
      rw [← HW1.out]
      go_loopw [3, 4] (fun ov iv wr => ∃ k : Nat, k ≤ n ∧ iv = .int .i64 k ∧ Hid (OwnS wr w.heap.size ov (foldV (bndV d) [] (ks.take k))) ∧ Hid (Blk wr w.heap.size #[.int .i64 9, .int .i64 nx, .string tx, .string mx, .slice p n cap, cv] 73) ∧ Below w.heap.size w wr) (fun _ iv _ => n - (intOf iv).toNat)
      case atStart => exact ⟨0, Nat.zero_le _, rfl, O9.out, bB.out, BBB.out⟩
      case round =>
        obtain ⟨k, hk, rfl, ho, hbk, hb⟩ := hrel
        have HB : Hid (Below w.heap.size w wr) := hb
        have xa4 := hbk.out.cell 4 _ rfl
        by_cases hlt : k < n
        · obtain ⟨x, hxk⟩ : ∃ x, ks[k]? = some x := ⟨ks[k]'(by rw [HN.out]; exact hlt), List.getElem?_eq_getElem _⟩
          obtain ⟨g, off, rfl, -, hgl, hat⟩ := HX.out (by intro h; rw [h] at hxk; simp at hxk)
          obtain ⟨cs, hcsl, hcs, r1⟩ := hat k x hxk
          have E1 : ∀ w', Below w.heap.size w w' → HEx w' All d cs x := fun w' hw => r1.mono (SameOn.of_below hw) (fun _ h => h)
          obtain ⟨c0, c1, c2, c3, c4, c5, rfl⟩ := len6 hcsl
          have a0 := hcs 0 (by omega)
          have a1 := hcs 1 (by omega)
          have a2 := hcs 2 (by omega)
          have a3 := hcs 3 (by omega)
          have a4 := hcs 4 (by omega)
          have a5 := hcs 5 (by omega)
          rw [← hb.cell (p := ⟨g, _, none⟩) hgl] at a0 a1 a2 a3 a4 a5
          simp at a0 a1 a2 a3 a4 a5
          have hki : (k : Int) < (n : Int) := by omega
          have hk0 : (0 : Int) ≤ (k : Int) := by omega
          obtain ⟨wx, sx, lx⟩ := BX.out k x hxk
          have HJ : Hid (foldV (bndV d) [] (ks.take (k + 1)) = onceS (foldV (bndV d) [] (ks.take k)) (bndV d x)) := foldV_snoc _ _ ks k x hxk
          have lq := LQ.out k
          have oq := OQ.out k
          generalize hJ0 : foldV (bndV d) [] (ks.take k) = J at *
          clear hb hcs hat hcsl r1 hJ0
          go_wp2_with fail
          refine (hE _ _ x (E1 _ HB.out) wx).mono ?_
          rintro e w4 ⟨u4, rfl, ho4, hb4⟩
          have HB4 : Hid (Below w.heap.size w w4) := HB.out.trans (hb4.mono HB.out.size)
          have SV : Hid (StrV w4 u3 J) := (ho.out.next hb4).strV oq
          have SR : Hid (StrR w4 u4 (bndV d x)) := ho4.strR (bndV_ok d x sx)
          have bk4 : Hid (Blk w4 w.heap.size #[.int .i64 9, .int .i64 nx, .string tx, .string mx, .slice (some ⟨g, off, none⟩) n cap, cv] 73) := hbk.out.next hb4
          clear hb4 ho4 xa4 a0 a1 a2 a3 a4 a5
          go_wp2_with fail
          refine (once_any _ _ _ J (bndV d x) SV.out SR.out (by omega)).mono ?_
          rintro e w5 ⟨u5, rfl, ho5, hb5⟩
          have HB5 : Hid (Below w.heap.size w w5) := HB4.out.trans (hb5.mono HB4.out.size)
          have HO5 : Hid (OwnS w5 w.heap.size u5 (onceS J (bndV d x))) := ho5.base HB4.out.size
          have bk5 : Hid (Blk w5 w.heap.size #[.int .i64 9, .int .i64 nx, .string tx, .string mx, .slice (some ⟨g, off, none⟩) n cap, cv] 73) := bk4.out.next hb5
          clear hb5 ho5
          go_wp2_with fail
          exact ⟨⟨k + 1, by omega, by go_num, by show OwnS _ _ _ _; rw [HJ.out]; exact HO5.out, bk5.out, HB5.out⟩, by simp [intOf]; omega⟩
        · have HS : Hid (OwnS wr w.heap.size u3 (foldV (bndV d) [] ks)) := by
            have := ho.out
            rwa [List.take_of_length_le (by rw [HN.out]; omega)] at this
          clear hb
          go_wp2_with fail
          go_ret
          exact ⟨u3, rfl, HS.out, HB.out⟩
    · have k9b : (kx == 9) = false := by simpa using k9
      clear h92
      go_enter Tryz.func80, Tryz.ntmps80
      go_wp2_with fail
      rw [← HW1.out]
      go_loopw [3, 4] (fun ov iv wr => ∃ k : Nat, k ≤ n ∧ iv = .int .i64 k ∧ Hid (OwnS wr w.heap.size ov (foldV (bndV d) [] (ks.take k))) ∧ Hid (Blk wr w.heap.size #[.int .i64 kx, .int .i64 nx, .string tx, .string mx, .slice p n cap, cv] 73) ∧ Below w.heap.size w wr) (fun _ iv _ => n - (intOf iv).toNat)
      case atStart => exact ⟨0, Nat.zero_le _, rfl, O9.out, bB.out, BBB.out⟩
      case round =>
        obtain ⟨k, hk, rfl, ho, hbk, hb⟩ := hrel
        have HB : Hid (Below w.heap.size w wr) := hb
        have xa4 := hbk.out.cell 4 _ rfl
        by_cases hlt : k < n
        · obtain ⟨x, hxk⟩ : ∃ x, ks[k]? = some x := ⟨ks[k]'(by rw [HN.out]; exact hlt), List.getElem?_eq_getElem _⟩
          obtain ⟨g, off, rfl, -, hgl, hat⟩ := HX.out (by intro h; rw [h] at hxk; simp at hxk)
          obtain ⟨cs, hcsl, hcs, r1⟩ := hat k x hxk
          have E1 : ∀ w', Below w.heap.size w w' → HEx w' All d cs x := fun w' hw => r1.mono (SameOn.of_below hw) (fun _ h => h)
          obtain ⟨c0, c1, c2, c3, c4, c5, rfl⟩ := len6 hcsl
          have a0 := hcs 0 (by omega)
          have a1 := hcs 1 (by omega)
          have a2 := hcs 2 (by omega)
          have a3 := hcs 3 (by omega)
          have a4 := hcs 4 (by omega)
          have a5 := hcs 5 (by omega)
          rw [← hb.cell (p := ⟨g, _, none⟩) hgl] at a0 a1 a2 a3 a4 a5
          simp at a0 a1 a2 a3 a4 a5
          have hki : (k : Int) < (n : Int) := by omega
          have hk0 : (0 : Int) ≤ (k : Int) := by omega
          obtain ⟨wx, sx, lx⟩ := BX.out k x hxk
          have HJ : Hid (foldV (bndV d) [] (ks.take (k + 1)) = onceS (foldV (bndV d) [] (ks.take k)) (bndV d x)) := foldV_snoc _ _ ks k x hxk
          have lq := LQ.out k
          have oq := OQ.out k
          generalize hJ0 : foldV (bndV d) [] (ks.take k) = J at *
          clear hb hcs hat hcsl r1 hJ0
          go_wp2_with fail
          refine (hE _ _ x (E1 _ HB.out) wx).mono ?_
          rintro e w4 ⟨u4, rfl, ho4, hb4⟩
          have HB4 : Hid (Below w.heap.size w w4) := HB.out.trans (hb4.mono HB.out.size)
          have SV : Hid (StrV w4 u3 J) := (ho.out.next hb4).strV oq
          have SR : Hid (StrR w4 u4 (bndV d x)) := ho4.strR (bndV_ok d x sx)
          have bk4 : Hid (Blk w4 w.heap.size #[.int .i64 kx, .int .i64 nx, .string tx, .string mx, .slice (some ⟨g, off, none⟩) n cap, cv] 73) := hbk.out.next hb4
          clear hb4 ho4 xa4 a0 a1 a2 a3 a4 a5
          go_wp2_with fail
          refine (once_any _ _ _ J (bndV d x) SV.out SR.out (by omega)).mono ?_
          rintro e w5 ⟨u5, rfl, ho5, hb5⟩
          have HB5 : Hid (Below w.heap.size w w5) := HB4.out.trans (hb5.mono HB4.out.size)
          have HO5 : Hid (OwnS w5 w.heap.size u5 (onceS J (bndV d x))) := ho5.base HB4.out.size
          have bk5 : Hid (Blk w5 w.heap.size #[.int .i64 kx, .int .i64 nx, .string tx, .string mx, .slice (some ⟨g, off, none⟩) n cap, cv] 73) := bk4.out.next hb5
          clear hb5 ho5
          go_wp2_with fail
          exact ⟨⟨k + 1, by omega, by go_num, by show OwnS _ _ _ _; rw [HJ.out]; exact HO5.out, bk5.out, HB5.out⟩, by simp [intOf]; omega⟩
        · have HS : Hid (OwnS wr w.heap.size u3 (foldV (bndV d) [] ks)) := by
            have := ho.out
            rwa [List.take_of_length_le (by rw [HN.out]; omega)] at this
          clear hb
          go_wp2_with fail
          go_ret
          exact ⟨u3, rfl, HS.out, HB.out⟩
theorem bound_all : ∀ d, NmC 80 d (bndV d)
  | 0 => fun w cs x h _ => h.elim
  | d + 1 => bound_of (bound_all d)
end Go.Proofs.YtigfmdfgioccjaaGreatDoor
/-
  Chapter 4, plain mathematics: all variables of an expression, each once; how many they can be.
-/
namespace Go.Proofs.YtigfmdfgioccjaaGreatDoor
open Go.ChangeShapes Go.WideShapes Go.ChangeAt Go.RowKit
set_option linter.unusedVariables false

abbrev keyS (s : ByteArray) : List UInt8 := s.toList
def NdK (l : List ByteArray) : Prop := (l.map keyS).Nodup
def SubK (l : List ByteArray) (m : List (List UInt8)) : Prop := ∀ s ∈ l, keyS s ∈ m

theorem nodup_len {α : Type} [BEq α] [LawfulBEq α] : ∀ (l m : List α), l.Nodup → (∀ x ∈ l, x ∈ m) → l.length ≤ m.length
  | [], m, _, _ => Nat.zero_le _
  | x :: xs, m, hn, hs => by
    have hx : x ∈ m := hs x (by simp)
    rw [List.nodup_cons] at hn
    have h1 := nodup_len xs (m.erase x) hn.2 (fun y hy => (List.mem_erase_of_ne (by intro e; subst e; exact hn.1 hy)).2 (hs y (by simp [hy])))
    have h2 := List.length_erase_of_mem hx
    have h3 : 0 < m.length := List.length_pos_of_mem hx
    simp only [List.length_cons]; omega
theorem NdK.len {l : List ByteArray} {m : List (List UInt8)} (h : NdK l) (hs : SubK l m) : l.length ≤ m.length := by
  have := nodup_len (l.map keyS) m h (fun x hx => by
    obtain ⟨s, hs', rfl⟩ := List.mem_map.1 hx
    exact hs s hs')
  simpa using this

theorem hasS_mem (l : List ByteArray) (s : ByteArray) : hasS l s = true ↔ keyS s ∈ l.map keyS := by
  unfold hasS
  rw [List.any_eq_true, List.mem_map]
  constructor
  · rintro ⟨x, hx, e⟩; exact ⟨x, hx, beq_iff_eq.1 e⟩
  · rintro ⟨x, hx, e⟩; exact ⟨x, hx, beq_iff_eq.2 e⟩
theorem onceS_nd : ∀ (ys l : List ByteArray), NdK l → NdK (onceS l ys)
  | [], l, h => h
  | y :: ys, l, h => by
    refine onceS_nd ys _ ?_
    split
    · exact h
    · rename_i hy
      unfold NdK at *
      rw [List.map_append, List.nodup_append]
      refine ⟨h, by simp, fun a ha b hb => ?_⟩
      simp at hb; subst hb
      intro e; subst e
      exact hy ((hasS_mem l y).2 ha)
theorem onceS_left : ∀ (ys l : List ByteArray) (k : List UInt8), k ∈ l.map keyS → k ∈ (onceS l ys).map keyS
  | [], l, k, h => h
  | y :: ys, l, k, h => by
    refine onceS_left ys _ k ?_
    split
    · exact h
    · rw [List.map_append]; exact List.mem_append_left _ h
theorem onceS_right : ∀ (ys l : List ByteArray) (k : List UInt8), k ∈ ys.map keyS → k ∈ (onceS l ys).map keyS
  | [], l, k, h => by simp at h
  | y :: ys, l, k, h => by
    simp only [List.map_cons, List.mem_cons] at h
    rcases h with rfl | h
    · refine onceS_left ys _ _ ?_
      split
      · rename_i hy; exact (hasS_mem l y).1 hy
      · simp
    · exact onceS_right ys _ k h
theorem foldV_nd {α : Type} (f : α → List ByteArray) : ∀ (ks : List α) (l : List ByteArray), NdK l → NdK (foldV f l ks)
  | [], l, h => h
  | y :: ys, l, h => foldV_nd f ys _ (onceS_nd _ _ h)
theorem foldV_left {α : Type} (f : α → List ByteArray) : ∀ (ks : List α) (l : List ByteArray) (k : List UInt8), k ∈ l.map keyS → k ∈ (foldV f l ks).map keyS
  | [], l, k, h => h
  | y :: ys, l, k, h => foldV_left f ys _ k (onceS_left _ _ k h)
theorem foldV_right {α : Type} (f : α → List ByteArray) : ∀ (ks : List α) (l : List ByteArray) (y : α), y ∈ ks → ∀ k, k ∈ (f y).map keyS → k ∈ (foldV f l ks).map keyS
  | [], l, y, hy, k, h => by simp at hy
  | z :: ys, l, y, hy, k, h => by
    rcases List.mem_cons.1 hy with rfl | hy
    · exact foldV_left f ys _ k (onceS_right _ _ k h)
    · exact foldV_right f ys _ y hy k h

/-- The texts of all variables, as they stand. -/
def varL : Nat → Ex → List (List UInt8)
  | 0, _ => []
  | d + 1, .mk k n t m ks cs => (if k = 2 then [keyS t] else []) ++ (ks.flatMap (varL d) ++ cs.flatMap fun c => c.1.flatMap (varL d) ++ c.2.flatMap (varL d))
theorem flat_len {α : Type} (f : α → List (List UInt8)) (wt : α → Nat) : ∀ (ks : List α), (∀ y ∈ ks, (f y).length ≤ 1 + wt y) → (ks.flatMap f).length ≤ wtS wt ks
  | [], _ => by simp [wtS]
  | y :: ys, h => by
    have h1 := flat_len f wt ys (fun z hz => h z (by simp [hz]))
    have h2 := h y (by simp)
    have h4 : wtS wt (y :: ys) = 1 + wt y + wtS wt ys := by simp [wtS]; omega
    rw [List.flatMap_cons, List.length_append, h4]; omega
theorem varL_len : ∀ (d : Nat) (x : Ex), (varL d x).length ≤ 1 + wtEx d x
  | 0, _ => by simp [varL]
  | d + 1, .mk k n t m ks cs => by
    have h1 := flat_len (varL d) (wtEx d) ks (fun y _ => varL_len d y)
    have h2 : (if k = 2 then [keyS t] else ([] : List (List UInt8))).length ≤ 1 := by split <;> simp
    have h3 := flat_len (fun c : Cl => c.1.flatMap (varL d) ++ c.2.flatMap (varL d)) (wtCl (wtEx d)) cs (fun c _ => by
      have g1 := flat_len (varL d) (wtEx d) c.1 (fun y _ => varL_len d y)
      have g2 := flat_len (varL d) (wtEx d) c.2 (fun y _ => varL_len d y)
      rw [List.length_append]
      have : wtCl (wtEx d) c = wtS (wtEx d) c.1 + wtS (wtEx d) c.2 := rfl
      omega)
    have hw : wtEx (d + 1) (.mk k n t m ks cs) = t.size + m.size + wtS (wtEx d) ks + wtS (wtCl (wtEx d)) cs := rfl
    have hv : varL (d + 1) (.mk k n t m ks cs) = (if k = 2 then [keyS t] else []) ++ (ks.flatMap (varL d) ++ cs.flatMap fun c => c.1.flatMap (varL d) ++ c.2.flatMap (varL d)) := rfl
    have h5 : (cs.flatMap fun c => c.1.flatMap (varL d) ++ c.2.flatMap (varL d)).length ≤ wtS (wtCl (wtEx d)) cs := h3
    rw [hv, hw, List.length_append, List.length_append]
    exact Nat.le_trans (Nat.add_le_add h2 (Nat.add_le_add h1 h5)) (by omega)

theorem patV_nd (d : Nat) (x : Ex) : NdK (patV d x) := by
  cases d with
  | zero => simp [patV, NdK]
  | succ d =>
    obtain ⟨k, n, t, m, ks, cs⟩ := x
    refine foldV_nd _ _ _ ?_
    split <;> simp [NdK]
theorem patV_sub : ∀ (d : Nat) (x : Ex), SubK (patV d x) (varL d x)
  | 0, _ => fun s hs => by simp [patV] at hs
  | d + 1, .mk k n t m ks cs => fun s hs => by
    have hv : varL (d + 1) (.mk k n t m ks cs) = (if k = 2 then [keyS t] else []) ++ (ks.flatMap (varL d) ++ cs.flatMap fun c => c.1.flatMap (varL d) ++ c.2.flatMap (varL d)) := rfl
    rw [hv]
    rcases foldV_mem (patV d) ks _ s hs with h | ⟨y, hy, h⟩
    · split at h
      · rename_i hk
        simp at h; subst h; simp [hk]
      · simp at h
    · exact List.mem_append_right _ (List.mem_append_left _ (List.mem_flatMap.2 ⟨y, hy, patV_sub d y s h⟩))

/-- All variables, each once. -/
def allC (f : Ex → List ByteArray) (acc : List ByteArray) (c : Cl) : List ByteArray := foldV f (foldV f acc c.1) c.2
def allV : Nat → Ex → List ByteArray
  | 0, _ => []
  | d + 1, .mk k n t m ks cs => cs.foldl (allC (allV d)) (foldV (allV d) (patV (d + 1) (.mk k n t m ks cs)) ks)
theorem foldC_nd (f : Ex → List ByteArray) : ∀ (cs : List Cl) (l : List ByteArray), NdK l → NdK (cs.foldl (allC f) l)
  | [], l, h => h
  | c :: cs, l, h => foldC_nd f cs _ (foldV_nd _ _ _ (foldV_nd _ _ _ h))
theorem foldC_left (f : Ex → List ByteArray) : ∀ (cs : List Cl) (l : List ByteArray) (k : List UInt8), k ∈ l.map keyS → k ∈ (cs.foldl (allC f) l).map keyS
  | [], l, k, h => h
  | c :: cs, l, k, h => foldC_left f cs _ k (foldV_left _ _ _ k (foldV_left _ _ _ k h))
theorem foldC_right (f : Ex → List ByteArray) : ∀ (cs : List Cl) (l : List ByteArray) (c : Cl), c ∈ cs → ∀ y, (y ∈ c.1 ∨ y ∈ c.2) → ∀ k, k ∈ (f y).map keyS → k ∈ (cs.foldl (allC f) l).map keyS
  | [], l, c, hc, y, hy, k, h => by simp at hc
  | b :: cs, l, c, hc, y, hy, k, h => by
    rcases List.mem_cons.1 hc with rfl | hc
    · refine foldC_left f cs _ k ?_
      rcases hy with hy | hy
      · exact foldV_left _ _ _ k (foldV_right _ _ _ y hy k h)
      · exact foldV_right _ _ _ y hy k h
    · exact foldC_right f cs _ c hc y hy k h
theorem foldC_mem (f : Ex → List ByteArray) : ∀ (cs : List Cl) (l : List ByteArray), ∀ s ∈ cs.foldl (allC f) l, s ∈ l ∨ ∃ c ∈ cs, ∃ y, (y ∈ c.1 ∨ y ∈ c.2) ∧ s ∈ f y
  | [], l, s, h => .inl h
  | c :: cs, l, s, h => by
    rcases foldC_mem f cs (allC f l c) s h with h | ⟨b, hb, y, hy, hs⟩
    · rcases foldV_mem f c.2 _ s h with h | ⟨y, hy, hs⟩
      · rcases foldV_mem f c.1 _ s h with h | ⟨y, hy, hs⟩
        · exact .inl h
        · exact .inr ⟨c, by simp, y, .inl hy, hs⟩
      · exact .inr ⟨c, by simp, y, .inr hy, hs⟩
    · exact .inr ⟨b, by simp [hb], y, hy, hs⟩
theorem allV_nd (d : Nat) (x : Ex) : NdK (allV d x) := by
  cases d with
  | zero => simp [allV, NdK]
  | succ d =>
    obtain ⟨k, n, t, m, ks, cs⟩ := x
    exact foldC_nd _ _ _ (foldV_nd _ _ _ (patV_nd _ _))
theorem varL_kid {d : Nat} {k n : Int} {t m : ByteArray} {ks : List Ex} {cs : List Cl} {y : Ex} (hy : y ∈ ks) {z : List UInt8} (h : z ∈ varL d y) : z ∈ varL (d + 1) (.mk k n t m ks cs) := by
  show z ∈ (if k = 2 then [keyS t] else []) ++ (ks.flatMap (varL d) ++ cs.flatMap fun c => c.1.flatMap (varL d) ++ c.2.flatMap (varL d))
  exact List.mem_append_right _ (List.mem_append_left _ (List.mem_flatMap.2 ⟨y, hy, h⟩))
theorem varL_cl {d : Nat} {k n : Int} {t m : ByteArray} {ks : List Ex} {cs : List Cl} {c : Cl} (hc : c ∈ cs) {y : Ex} (hy : y ∈ c.1 ∨ y ∈ c.2) {z : List UInt8} (h : z ∈ varL d y) : z ∈ varL (d + 1) (.mk k n t m ks cs) := by
  show z ∈ (if k = 2 then [keyS t] else []) ++ (ks.flatMap (varL d) ++ cs.flatMap fun c => c.1.flatMap (varL d) ++ c.2.flatMap (varL d))
  refine List.mem_append_right _ (List.mem_append_right _ (List.mem_flatMap.2 ⟨c, hc, ?_⟩))
  rcases hy with hy | hy
  · exact List.mem_append_left _ (List.mem_flatMap.2 ⟨y, hy, h⟩)
  · exact List.mem_append_right _ (List.mem_flatMap.2 ⟨y, hy, h⟩)
/-- What has been gathered on the way. -/
structure Got (d : Nat) (x : Ex) (l : List ByteArray) : Prop where
  nd : NdK l
  sub : SubK l (varL d x)
  ok : ∀ s ∈ l, okS s
theorem Got.len {d : Nat} {x : Ex} {l : List ByteArray} (h : Got d x l) (hw : wtEx d x ≤ 1048576) : l.length ≤ 1048577 := by
  have h1 := h.nd.len h.sub
  have h2 := varL_len d x
  omega
theorem allV_sub : ∀ (d : Nat) (x : Ex), SubK (allV d x) (varL d x)
  | 0, _ => fun s hs => by simp [allV] at hs
  | d + 1, .mk k n t m ks cs => fun s hs => by
    rcases foldC_mem (allV d) cs _ s hs with h | ⟨c, hc, y, hy, h⟩
    · rcases foldV_mem (allV d) ks _ s h with h | ⟨y, hy, h⟩
      · exact patV_sub (d + 1) _ s h
      · exact varL_kid hy (allV_sub d y s h)
    · exact varL_cl hc hy (allV_sub d y s h)
theorem allV_ok : ∀ (d : Nat) (x : Ex), exS d x → ∀ s ∈ allV d x, okS s
  | 0, _, h, _, _ => h.elim
  | d + 1, .mk k n t m ks cs, h, s, hs => by
    rcases foldC_mem (allV d) cs _ s hs with h1 | ⟨c, hc, y, hy, h1⟩
    · rcases foldV_mem (allV d) ks _ s h1 with h1 | ⟨y, hy, h1⟩
      · exact patV_ok (d + 1) _ h s h1
      · exact allV_ok d y (h.2.1 y hy) s h1
    · rcases hy with hy | hy
      · exact allV_ok d y ((h.2.2 c hc).1 y hy) s h1
      · exact allV_ok d y ((h.2.2 c hc).2 y hy) s h1
theorem allV_got {d : Nat} {x : Ex} (h : exS d x) : Got d x (allV d x) := ⟨allV_nd d x, allV_sub d x, allV_ok d x h⟩
/-- No variable is left out. -/
theorem allV_all : ∀ (d : Nat) (x : Ex) (z : List UInt8), z ∈ varL d x → z ∈ (allV d x).map keyS
  | 0, _, z, h => by simp [varL] at h
  | d + 1, .mk k n t m ks cs, z, h => by
    have hv : varL (d + 1) (.mk k n t m ks cs) = (if k = 2 then [keyS t] else []) ++ (ks.flatMap (varL d) ++ cs.flatMap fun c => c.1.flatMap (varL d) ++ c.2.flatMap (varL d)) := rfl
    rw [hv] at h
    rcases List.mem_append.1 h with h | h
    · refine foldC_left _ _ _ _ (foldV_left _ _ _ _ ?_)
      split at h
      · rename_i hk
        simp at h; subst h
        refine foldV_left _ _ _ _ ?_
        simp [hk]
      · simp at h
    · rcases List.mem_append.1 h with h | h
      · obtain ⟨y, hy, h⟩ := List.mem_flatMap.1 h
        exact foldC_left _ _ _ _ (foldV_right _ _ _ y hy _ (allV_all d y z h))
      · obtain ⟨c, hc, h⟩ := List.mem_flatMap.1 h
        rcases List.mem_append.1 h with h | h
        · obtain ⟨y, hy, h⟩ := List.mem_flatMap.1 h
          exact foldC_right _ _ _ c hc y (.inl hy) _ (allV_all d y z h)
        · obtain ⟨y, hy, h⟩ := List.mem_flatMap.1 h
          exact foldC_right _ _ _ c hc y (.inr hy) _ (allV_all d y z h)
end Go.Proofs.YtigfmdfgioccjaaGreatDoor
/-
  Chapter 4, plain mathematics: what is free in an expression, with some names bound ahead, by the specification.
-/
namespace Go.Proofs.YtigfmdfgioccjaaGreatDoor
open Go.ChangeShapes Go.WideShapes Go.ChangeAt Go.RowKit
set_option linter.unusedVariables false

/-- One expression of a list: what is free in it, with what is bound ahead; what is bound behind it. -/
def stepL (f : Ex → List ByteArray → List ByteArray) (bn : Ex → List ByteArray) (st : List ByteArray × List ByteArray) (x : Ex) : List ByteArray × List ByteArray := (onceS st.1 (f x st.2), onceS st.2 (bn x))
def listV (f : Ex → List ByteArray → List ByteArray) (bn : Ex → List ByteArray) (B : List ByteArray) (ks : List Ex) : List ByteArray := (ks.foldl (stepL f bn) ([], B)).1
theorem runL_snd (f : Ex → List ByteArray → List ByteArray) (bn : Ex → List ByteArray) : ∀ (ks : List Ex) (st : List ByteArray × List ByteArray), (ks.foldl (stepL f bn) st).2 = foldV bn st.2 ks
  | [], st => rfl
  | x :: xs, st => runL_snd f bn xs (stepL f bn st x)
theorem listV_nil (f : Ex → List ByteArray → List ByteArray) (bn : Ex → List ByteArray) (B : List ByteArray) : listV f bn B [] = [] := rfl
theorem listV_snoc (f : Ex → List ByteArray → List ByteArray) (bn : Ex → List ByteArray) (B : List ByteArray) (ks : List Ex) (k : Nat) (y : Ex) (h : ks[k]? = some y) :
    listV f bn B (ks.take (k + 1)) = onceS (listV f bn B (ks.take k)) (f y (foldV bn B (ks.take k))) := by
  have h2 := runL_snd f bn (ks.take k) ([], B)
  unfold listV
  rw [List.take_add_one, h, List.foldl_append]
  simp only [Option.toList_some, List.foldl_cons, List.foldl_nil]
  show onceS _ (f y _) = _
  rw [h2]
theorem runL_mem (f : Ex → List ByteArray → List ByteArray) (bn : Ex → List ByteArray) : ∀ (ks : List Ex) (st : List ByteArray × List ByteArray) (s : ByteArray), s ∈ (ks.foldl (stepL f bn) st).1 → s ∈ st.1 ∨ ∃ y ∈ ks, ∃ B', s ∈ f y B'
  | [], st, s, h => .inl h
  | x :: xs, st, s, h => by
    rcases runL_mem f bn xs (stepL f bn st x) s h with h | ⟨y, hy, B', hs⟩
    · rcases onceS_mem _ _ s h with h | h
      · exact .inl h
      · exact .inr ⟨x, by simp, st.2, h⟩
    · exact .inr ⟨y, by simp [hy], B', hs⟩
theorem listV_mem {f : Ex → List ByteArray → List ByteArray} {bn : Ex → List ByteArray} {B : List ByteArray} {ks : List Ex} {s : ByteArray} (h : s ∈ listV f bn B ks) : ∃ y ∈ ks, ∃ B', s ∈ f y B' := by
  rcases runL_mem f bn ks ([], B) s h with h | h
  · cases h
  · exact h
theorem runL_nd (f : Ex → List ByteArray → List ByteArray) (bn : Ex → List ByteArray) : ∀ (ks : List Ex) (st : List ByteArray × List ByteArray), NdK st.1 → NdK (ks.foldl (stepL f bn) st).1
  | [], st, h => h
  | x :: xs, st, h => runL_nd f bn xs (stepL f bn st x) (onceS_nd _ _ h)
theorem listV_nd (f : Ex → List ByteArray → List ByteArray) (bn : Ex → List ByteArray) (B : List ByteArray) (ks : List Ex) : NdK (listV f bn B ks) := runL_nd f bn ks _ (by simp [NdK])

/-- One clause: its patterns are bound in its body. -/
def clF (f : Ex → List ByteArray → List ByteArray) (bn pt : Ex → List ByteArray) (B out : List ByteArray) (c : Cl) : List ByteArray := onceS out (listV f bn (foldV pt B c.1) c.2)
/-- What is free in an expression, with B bound ahead. -/
def freeV : Nat → Ex → List ByteArray → List ByteArray
  | 0, _, _ => []
  | d + 1, .mk k n t m ks cs, B => match k, ks with
    | 2, _ => if hasS B t then [] else [t]
    | 9, [a, b] => freeV d b B
    | _, ks => cs.foldl (clF (freeV d) (bndV d) (patV d) (foldV (bndV d) B ks)) (listV (freeV d) (bndV d) B ks)
theorem freeV_var (d : Nat) (n : Int) (t m : ByteArray) (ks : List Ex) (cs : List Cl) (B : List ByteArray) : freeV (d + 1) (.mk 2 n t m ks cs) B = if hasS B t then [] else [t] := rfl
theorem freeV_two (d : Nat) (n : Int) (t m : ByteArray) (a b : Ex) (cs : List Cl) (B : List ByteArray) : freeV (d + 1) (.mk 9 n t m [a, b] cs) B = freeV d b B := rfl
theorem freeV_else (d : Nat) (k n : Int) (t m : ByteArray) (ks : List Ex) (cs : List Cl) (B : List ByteArray) (h2 : k ≠ 2) (h9 : ¬ (k = 9 ∧ ks.length = 2)) :
    freeV (d + 1) (.mk k n t m ks cs) B = cs.foldl (clF (freeV d) (bndV d) (patV d) (foldV (bndV d) B ks)) (listV (freeV d) (bndV d) B ks) := by
  conv => lhs; unfold freeV
  split
  · exact absurd rfl h2
  · simp at h9
  · rfl
theorem clF_nd (f : Ex → List ByteArray → List ByteArray) (bn pt : Ex → List ByteArray) (B : List ByteArray) : ∀ (cs : List Cl) (l : List ByteArray), NdK l → NdK (cs.foldl (clF f bn pt B) l)
  | [], l, h => h
  | c :: cs, l, h => clF_nd f bn pt B cs _ (onceS_nd _ _ h)
theorem clF_mem (f : Ex → List ByteArray → List ByteArray) (bn pt : Ex → List ByteArray) (B : List ByteArray) : ∀ (cs : List Cl) (l : List ByteArray) (s : ByteArray), s ∈ cs.foldl (clF f bn pt B) l → s ∈ l ∨ ∃ c ∈ cs, ∃ y ∈ c.2, ∃ B', s ∈ f y B'
  | [], l, s, h => .inl h
  | c :: cs, l, s, h => by
    rcases clF_mem f bn pt B cs _ s h with h | ⟨c', hc, r⟩
    · rcases onceS_mem _ _ s h with h | h
      · exact .inl h
      · obtain ⟨y, hy, B', hs⟩ := listV_mem h
        exact .inr ⟨c, by simp, y, hy, B', hs⟩
    · exact .inr ⟨c', by simp [hc], r⟩
theorem clF_snoc (f : Ex → List ByteArray → List ByteArray) (bn pt : Ex → List ByteArray) (B l : List ByteArray) (cs : List Cl) (k : Nat) (c : Cl) (h : cs[k]? = some c) :
    (cs.take (k + 1)).foldl (clF f bn pt B) l = onceS ((cs.take k).foldl (clF f bn pt B) l) (listV f bn (foldV pt B c.1) c.2) := by
  rw [List.take_add_one, h]; simp [clF]
theorem freeV_nd : ∀ (d : Nat) (x : Ex) (B : List ByteArray), NdK (freeV d x B)
  | 0, _, _ => by simp [freeV, NdK]
  | d + 1, .mk k n t m ks cs, B => by
    by_cases h2 : k = 2
    · subst h2
      rw [freeV_var]
      split <;> simp [NdK]
    · by_cases h9 : k = 9 ∧ ks.length = 2
      · obtain ⟨rfl, hl⟩ := h9
        match ks, hl with
        | [a, b], _ => rw [freeV_two]; exact freeV_nd d b B
      · rw [freeV_else d k n t m ks cs B h2 h9]
        exact clF_nd _ _ _ _ _ _ (listV_nd _ _ _ _)
theorem freeV_sub : ∀ (d : Nat) (x : Ex) (B : List ByteArray), SubK (freeV d x B) (varL d x)
  | 0, _, _ => fun s hs => by simp [freeV] at hs
  | d + 1, .mk k n t m ks cs, B => fun s hs => by
    by_cases h2 : k = 2
    · subst h2
      rw [freeV_var] at hs
      split at hs
      · cases hs
      · simp at hs
        subst hs
        show keyS s ∈ (if (2 : Int) = 2 then [keyS s] else []) ++ _
        simp
    · by_cases h9 : k = 9 ∧ ks.length = 2
      · obtain ⟨rfl, hl⟩ := h9
        match ks, hl with
        | [a, b], _ => rw [freeV_two] at hs; exact varL_kid (by simp) (freeV_sub d b B s hs)
      · rw [freeV_else d k n t m ks cs B h2 h9] at hs
        rcases clF_mem _ _ _ _ _ _ s hs with h | ⟨c, hc, y, hy, B', h⟩
        · obtain ⟨y, hy, B', h⟩ := listV_mem h
          exact varL_kid hy (freeV_sub d y B' s h)
        · exact varL_cl hc (.inr hy) (freeV_sub d y B' s h)
theorem freeV_ok : ∀ (d : Nat) (x : Ex) (B : List ByteArray), exS d x → ∀ s ∈ freeV d x B, okS s
  | 0, _, _, h, _, _ => h.elim
  | d + 1, .mk k n t m ks cs, B, hx, s, hs => by
    by_cases h2 : k = 2
    · subst h2
      rw [freeV_var] at hs
      split at hs
      · cases hs
      · simp at hs
        subst hs
        exact hx.1
    · by_cases h9 : k = 9 ∧ ks.length = 2
      · obtain ⟨rfl, hl⟩ := h9
        match ks, hl with
        | [a, b], _ => rw [freeV_two] at hs; exact freeV_ok d b B (hx.2.1 b (by simp)) s hs
      · rw [freeV_else d k n t m ks cs B h2 h9] at hs
        rcases clF_mem _ _ _ _ _ _ s hs with h | ⟨c, hc, y, hy, B', h⟩
        · obtain ⟨y, hy, B', h⟩ := listV_mem h
          exact freeV_ok d y B' (hx.2.1 y hy) s h
        · exact freeV_ok d y B' ((hx.2.2 c hc).2 y hy) s h
theorem freeV_got {d : Nat} {x : Ex} {B : List ByteArray} (h : exS d x) : Got d x (freeV d x B) := ⟨freeV_nd d x B, freeV_sub d x B, freeV_ok d x B h⟩
theorem freeV_len (d : Nat) (x : Ex) (B : List ByteArray) : (freeV d x B).length ≤ 1 + wtEx d x := Nat.le_trans ((freeV_nd d x B).len (freeV_sub d x B)) (varL_len d x)
/-- How many names a list of expressions has free. -/
theorem listV_len (d : Nat) (B : List ByteArray) (ks : List Ex) : (listV (freeV d) (bndV d) B ks).length ≤ wtS (wtEx d) ks := by
  have h1 := (listV_nd (freeV d) (bndV d) B ks).len (m := ks.flatMap (varL d)) (fun s hs => by
    obtain ⟨y, hy, B', h⟩ := listV_mem hs
    exact List.mem_flatMap.2 ⟨y, hy, freeV_sub d y B' s h⟩)
  exact Nat.le_trans h1 (flat_len (varL d) (wtEx d) ks (fun y _ => varL_len d y))
end Go.Proofs.YtigfmdfgioccjaaGreatDoor
/-
  The specification's l04List: what is free in a list of expressions, over l04Free's contract.
-/
namespace Go.Proofs.YtigfmdfgioccjaaGreatDoor
open Go.ChangeShapes Go.WideShapes Go.ChangeAt Go.RowKit
set_option linter.unusedVariables false
set_option maxRecDepth 100000

def FrC (d : Nat) : Prop := ∀ (w : World) (cs : List Value) (x : Ex) (bv : Value) (B : List ByteArray), HEx w All d cs x → StrV w bv B → wtEx d x ≤ 1048576 → B.length + wtEx d x ≤ 4194304 →
    Calls Tryz.prog 79 #[.agg cs.toArray, bv] w fun e w' => ∃ u, e = .returned u ∧ OwnS w' w.heap.size u (freeV d x B) ∧ Below w.heap.size w w'
def LsC (d : Nat) : Prop := ∀ (w : World) (v : Value) (ks : List Ex) (bv : Value) (B : List ByteArray), Rows w All 6 (HEx w All d) v ks → StrV w bv B → wtS (wtEx d) ks ≤ 1048576 → B.length + wtS (wtEx d) ks ≤ 4194304 →
    Calls Tryz.prog 54 #[v, bv] w fun e w' => ∃ u, e = .returned u ∧ OwnS w' w.heap.size u (listV (freeV d) (bndV d) B ks) ∧ Below w.heap.size w w'

theorem StrV.below {w w' : World} {v : Value} {xs : List ByteArray} (h : StrV w v xs) (hb : Below w.heap.size w w') : StrV w' v xs := h.next (SameOn.of_below hb)
theorem wtS_kid {d : Nat} {ks : List Ex} {k : Nat} {y : Ex} (h : ks[k]? = some y) : wtS (wtEx d) (ks.take k) + 1 + wtEx d y ≤ wtS (wtEx d) ks ∧ k ≤ ks.length := by
  have h1 := sum_take_succ (wtEx d) ks k y h
  have h2 := sum_take_le (wtEx d) ks (k + 1)
  have h3 := (List.getElem?_eq_some_iff.1 h).1
  have h4 : (ks.take k).length = k := by rw [List.length_take]; omega
  unfold wtS
  omega

set_option maxHeartbeats 8000000 in
theorem list_of {d : Nat} (hF : FrC d) : LsC d := by
  intro w v ks bv B hr hB hwt hbt
  have OB := hB.1.okS
  have EXS : Hid (∀ y ∈ ks, exS d y) := fun y hy => by
    obtain ⟨cs, h⟩ := rows_mem' hr y hy
    exact h.txts
  obtain ⟨p, cap, rfl, hcl, hcm, hx⟩ := hr
  have hnb : ks.length ≤ 9223372036854775807 := by unfold maxLen at hcm; omega
  have HX : Hid (ks ≠ [] → ∃ g off, p = some ⟨g, off, none⟩ ∧ All g ∧ g < w.heap.size ∧ ∀ i x, ks[i]? = some x → ∃ cs, cs.length = 6 ∧ (∀ j, j < 6 → w.cell? ⟨g, off + i * 6 + j, none⟩ = cs[j]?) ∧ HEx w All d cs x) := hx
  have HSB : Hid (StrV w bv B) := hB
  have HWT : Hid (wtS (wtEx d) ks ≤ 1048576) := hwt
  have HBT : Hid (B.length + wtS (wtEx d) ks ≤ 4194304) := hbt
  have HOB : Hid (∀ s ∈ B, okS s) := OB
  clear hx hB hwt hbt OB
  generalize hn : ks.length = n at *
  have HN : Hid (ks.length = n) := hn
  clear hn
  go_enter Tryz.func54, Tryz.ntmps54
  go_wp2_with fail
  have BA : Below w.heap.size w (w.alloc (.cells #[] 9)) := (Below.refl _ _).alloc (Nat.le_refl _) _
  go_loopw [1, 5, 6] (fun bu ov iv wr => ∃ k : Nat, k ≤ n ∧ iv = .int .i64 k ∧ Hid (OwnS wr w.heap.size ov (listV (freeV d) (bndV d) B (ks.take k))) ∧ Hid (StrV wr bu (foldV (bndV d) B (ks.take k))) ∧ Hid (Below w.heap.size w wr)) (fun _ _ iv _ => n - (intOf iv).toNat)
  case atStart => exact ⟨0, Nat.zero_le _, rfl, OwnS.fresh, HSB.out.below BA, BA⟩
  case round =>
    clear BA
    obtain ⟨k, hk, rfl, HO, HS, HB⟩ := hrel
    by_cases hlt : k < n
    · obtain ⟨x, hxk⟩ : ∃ x, ks[k]? = some x := ⟨ks[k]'(by rw [HN.out]; exact hlt), List.getElem?_eq_getElem _⟩
      obtain ⟨g, off, rfl, -, hgl, hat⟩ := HX.out (by intro h; rw [h] at hxk; simp at hxk)
      obtain ⟨cs, hcsl, hcs, r1⟩ := hat k x hxk
      have E1 : Hid (∀ w', Below w.heap.size w w' → HEx w' All d cs x) := fun w' hw => r1.mono (SameOn.of_below hw) (fun _ h => h)
      have C1 : Hid (∀ w', Below w.heap.size w w' → ∀ j, j < 6 → w'.cell? ⟨g, off + k * 6 + j, none⟩ = cs[j]?) := fun w' hw j hj => (hw.cell (p := ⟨g, _, none⟩) hgl).trans (hcs j hj)
      obtain ⟨c0, c1, c2, c3, c4, c5, rfl⟩ := len6 hcsl
      have a0 := C1.out wr HB.out 0 (by omega)
      have a1 := C1.out wr HB.out 1 (by omega)
      have a2 := C1.out wr HB.out 2 (by omega)
      have a3 := C1.out wr HB.out 3 (by omega)
      have a4 := C1.out wr HB.out 4 (by omega)
      have a5 := C1.out wr HB.out 5 (by omega)
      simp at a0 a1 a2 a3 a4 a5
      have hki : (k : Int) < (n : Int) := by omega
      have hk0 : (0 : Int) ≤ (k : Int) := by omega
      obtain ⟨wk, -⟩ := wtS_kid (d := d) hxk
      have lb := foldV_len (bndV d) (wtEx d) (ks.take k) B (fun y _ => bndV_len d y)
      have lo := listV_len d B (ks.take k)
      have ex := EXS.out x (List.mem_of_getElem? hxk)
      have hw1 := HWT.out
      have hb1 := HBT.out
      have wx : wtEx d x ≤ 1048576 := by omega
      have lf := freeV_len d x (foldV (bndV d) B (ks.take k))
      have ln := bndV_len d x
      have HJ : Hid (listV (freeV d) (bndV d) B (ks.take (k + 1)) = onceS (listV (freeV d) (bndV d) B (ks.take k)) (freeV d x (foldV (bndV d) B (ks.take k)))) := listV_snoc _ _ B ks k x hxk
      have HJB : Hid (foldV (bndV d) B (ks.take (k + 1)) = onceS (foldV (bndV d) B (ks.take k)) (bndV d x)) := foldV_snoc _ _ ks k x hxk
      have OJ : Hid (∀ s ∈ listV (freeV d) (bndV d) B (ks.take k), okS s) := fun s hs => by
        obtain ⟨y, hy, B', h⟩ := listV_mem hs
        exact freeV_ok d y B' (EXS.out y (List.mem_of_mem_take hy)) s h
      have OF : Hid (∀ B', ∀ s ∈ freeV d x B', okS s) := fun B' s hs => freeV_ok d x B' ex s hs
      have ON : Hid (∀ s ∈ bndV d x, okS s) := fun s hs => bndV_ok d x ex s hs
      have OS : Hid (∀ s ∈ onceS (foldV (bndV d) B (ks.take k)) (bndV d x), okS s) := fun s hs => by
        rcases onceS_mem _ _ s hs with h | h
        · exact HS.out.1.okS s h
        · exact ON.out s h
      generalize foldV (bndV d) B (ks.take k) = FB at *
      generalize listV (freeV d) (bndV d) B (ks.take k) = LJ at *
      have lb1 : FB.length + wtEx d x ≤ 4194304 := by omega
      have lo1 : LJ.length ≤ 1048576 := by omega
      clear hcs hat hcsl r1 hw1 hb1 lb lo wk
      go_wp2_with fail
      refine (hF _ _ x _ FB (E1.out _ HB.out) HS.out wx (by omega)).mono ?_
      rintro e w4 ⟨u4, rfl, ho4, hb4⟩
      have HB4 : Hid (Below w.heap.size w w4) := HB.out.trans (hb4.mono HB.out.size)
      have SV : Hid (StrV w4 u5 LJ) := (HO.out.next hb4).strV OJ.out
      have SR : Hid (StrR w4 u4 (freeV d x FB)) := ho4.strR (OF.out FB)
      have SB4 : Hid (StrV w4 u1 FB) := HS.out.below hb4
      clear hb4 ho4 a0 a1 a2 a3 a4 a5
      go_wp2_with fail
      refine (once_any _ _ _ LJ (freeV d x FB) SV.out SR.out (by omega)).mono ?_
      rintro e w5 ⟨u6', rfl, ho5, hb5⟩
      have HB5 : Hid (Below w.heap.size w w5) := HB4.out.trans (hb5.mono HB4.out.size)
      have HO5 : Hid (OwnS w5 w.heap.size u6' (onceS LJ (freeV d x FB))) := ho5.base HB4.out.size
      have SB5 : Hid (StrV w5 u1 FB) := SB4.out.below hb5
      clear hb5 ho5
      have a0 := C1.out w5 HB5.out 0 (by omega)
      have a1 := C1.out w5 HB5.out 1 (by omega)
      have a2 := C1.out w5 HB5.out 2 (by omega)
      have a3 := C1.out w5 HB5.out 3 (by omega)
      have a4 := C1.out w5 HB5.out 4 (by omega)
      have a5 := C1.out w5 HB5.out 5 (by omega)
      simp at a0 a1 a2 a3 a4 a5
      go_wp2_with fail
      refine (bound_all d _ _ x (E1.out _ HB5.out) wx).mono ?_
      rintro e w6 ⟨u7', rfl, ho6, hb6⟩
      have HB6 : Hid (Below w.heap.size w w6) := HB5.out.trans (hb6.mono HB5.out.size)
      have SV6 : Hid (StrV w6 u1 FB) := SB5.out.below hb6
      have SR6 : Hid (StrR w6 u7' (bndV d x)) := ho6.strR ON.out
      have HO6 : Hid (OwnS w6 w.heap.size u6' (onceS LJ (freeV d x FB))) := HO5.out.next hb6
      clear hb6 ho6 a0 a1 a2 a3 a4 a5
      go_wp2_with fail
      refine (once_any _ _ _ FB (bndV d x) SV6.out SR6.out (by omega)).mono ?_
      rintro e w7 ⟨u8', rfl, ho7, hb7⟩
      have HB7 : Hid (Below w.heap.size w w7) := HB6.out.trans (hb7.mono HB6.out.size)
      have SV7 : Hid (StrV w7 u8' (onceS FB (bndV d x))) := ho7.strV OS.out
      have HO7 : Hid (OwnS w7 w.heap.size u6' (onceS LJ (freeV d x FB))) := HO6.out.next hb7
      clear hb7 ho7
      go_wp2_with fail
      exact ⟨⟨k + 1, by omega, by go_num, by show OwnS _ _ _ _; rw [HJ.out]; exact HO7.out, by show StrV _ _ _; rw [HJB.out]; exact SV7.out, HB7.out⟩, by simp [intOf]; omega⟩
    · have HS' : Hid (OwnS wr w.heap.size u5 (listV (freeV d) (bndV d) B ks)) := by
        have := HO.out
        rwa [List.take_of_length_le (by rw [HN.out]; omega)] at this
      go_wp2_with fail
      go_ret
      exact ⟨_, rfl, HS'.out, HB.out⟩
end Go.Proofs.YtigfmdfgioccjaaGreatDoor
/-
  The specification's l04Free: what is free in an expression, with some names bound ahead.
-/
namespace Go.Proofs.YtigfmdfgioccjaaGreatDoor
open Go.ChangeShapes Go.WideShapes Go.ChangeAt Go.RowKit
set_option linter.unusedVariables false
set_option maxRecDepth 100000

/-- The one text that '[]string{s}' makes. -/
theorem OwnS.one {w : World} {s : ByteArray} : OwnS (w.alloc (.cells #[.string s] 9)) w.heap.size (.slice (some ⟨w.heap.size, 0, none⟩) 1 1) [s] := by
  refine ⟨⟨by simp [strs], .inr ⟨w.heap.size, 1, #[.string s], rfl, Nat.le_refl _, ?_, Nat.le_refl _, by unfold maxLen; omega, rfl, rfl⟩⟩, by simp⟩
  exact Blk.new (w := w) (cs := #[.string s]) (t := 9)

set_option maxHeartbeats 8000000 in
theorem free_var {d : Nat} (w : World) (cs : List Value) (nx : Int) (tx mx : ByteArray) (ks : List Ex) (cl : List Cl) (bv : Value) (B : List ByteArray) (h : HEx w All (d + 1) cs (.mk 2 nx tx mx ks cl)) (hB : StrV w bv B) :
    Calls Tryz.prog 79 #[.agg cs.toArray, bv] w fun e w' => ∃ u, e = .returned u ∧ OwnS w' w.heap.size u (freeV (d + 1) (.mk 2 nx tx mx ks cl) B) ∧ Below w.heap.size w w' := by
  rw [freeV_var]
  obtain ⟨kv, cv, rfl, -, -, hts, hms, f0, f1⟩ := h
  simp only [Ex.kind, Ex.n, Ex.text, Ex.mod, Ex.kids, Ex.clauses] at *
  obtain ⟨p, cap, rfl, -⟩ := f0
  obtain ⟨pc, capc, rfl, -⟩ := f1
  have BA : Below w.heap.size w (w.alloc (.cells #[.int .i64 2, .int .i64 nx, .string tx, .string mx, .slice p ks.length cap, .slice pc cl.length capc] 73)) := (Below.refl _ _).alloc (Nat.le_refl _) _
  have SB : Hid (StrV (w.alloc (.cells #[.int .i64 2, .int .i64 nx, .string tx, .string mx, .slice p ks.length cap, .slice pc cl.length capc] 73)) bv B) := hB.below BA
  have HBA : Hid (Below w.heap.size w (w.alloc (.cells #[.int .i64 2, .int .i64 nx, .string tx, .string mx, .slice p ks.length cap, .slice pc cl.length capc] 73))) := BA
  have bA : Hid (Blk (w.alloc (.cells #[.int .i64 2, .int .i64 nx, .string tx, .string mx, .slice p ks.length cap, .slice pc cl.length capc] 73)) w.heap.size #[.int .i64 2, .int .i64 nx, .string tx, .string mx, .slice p ks.length cap, .slice pc cl.length capc] 73) := Blk.new
  clear BA hB
  by_cases hh : hasS B tx = true
  · rw [if_pos hh]
    go_enter Tryz.func79, Tryz.ntmps79
    go_wp2_with fail
    refine (hasS_any _ _ B tx SB.out.1).mono ?_
    rintro e w1 ⟨rfl, rfl⟩
    rw [hh]
    go_wp2_with fail
    go_ret
    exact ⟨_, rfl, by have := (OwnS.fresh (w := w.alloc (.cells #[.int .i64 2, .int .i64 nx, .string tx, .string mx, .slice p ks.length cap, .slice pc cl.length capc] 73))).base HBA.out.size; rwa [alloc_hs] at this, HBA.out.alloc HBA.out.size _⟩
  · rw [if_neg hh]
    have hh' : hasS B tx = false := by simpa using hh
    go_enter Tryz.func79, Tryz.ntmps79
    go_wp2_with fail
    refine (hasS_any _ _ B tx SB.out.1).mono ?_
    rintro e w1 ⟨rfl, rfl⟩
    rw [hh']
    go_wp2_with fail
    go_ret
    exact ⟨_, rfl, by have := (OwnS.one (w := w.alloc (.cells #[.int .i64 2, .int .i64 nx, .string tx, .string mx, .slice p ks.length cap, .slice pc cl.length capc] 73)) (s := tx)).base HBA.out.size; rwa [alloc_hs] at this, HBA.out.alloc HBA.out.size _⟩

set_option maxHeartbeats 8000000 in
theorem free_two {d : Nat} (hF : FrC d) (w : World) (cs : List Value) (nx : Int) (tx mx : ByteArray) (ya yb : Ex) (cl : List Cl) (bv : Value) (B : List ByteArray) (h : HEx w All (d + 1) cs (.mk 9 nx tx mx [ya, yb] cl)) (hB : StrV w bv B) (hwt : wtEx (d + 1) (.mk 9 nx tx mx [ya, yb] cl) ≤ 1048576) (hbt : B.length + wtEx (d + 1) (.mk 9 nx tx mx [ya, yb] cl) ≤ 4194304) :
    Calls Tryz.prog 79 #[.agg cs.toArray, bv] w fun e w' => ∃ u, e = .returned u ∧ OwnS w' w.heap.size u (freeV (d + 1) (.mk 9 nx tx mx [ya, yb] cl) B) ∧ Below w.heap.size w w' := by
  rw [freeV_two]
  have hw : wtEx (d + 1) (.mk 9 nx tx mx [ya, yb] cl) = tx.size + mx.size + wtS (wtEx d) [ya, yb] + wtS (wtCl (wtEx d)) cl := rfl
  have h6 : wtS (wtEx d) [ya, yb] = 2 + (wtEx d ya + wtEx d yb) := by simp [wtS]
  have wb : wtEx d yb ≤ 1048576 := by omega
  have wb2 : B.length + wtEx d yb ≤ 4194304 := by omega
  clear hw h6 hwt hbt
  obtain ⟨kv, cv, rfl, -, -, hts, hms, f0, f1⟩ := h
  simp only [Ex.kind, Ex.n, Ex.text, Ex.mod, Ex.kids, Ex.clauses] at *
  obtain ⟨p, cap, rfl, -, -, hx⟩ := f0
  obtain ⟨pc, capc, rfl, -⟩ := f1
  obtain ⟨g, off, rfl, -, hgl, hat⟩ := hx (by simp)
  obtain ⟨cs, hcsl, hcs, rb⟩ := hat 1 yb rfl
  simp only [List.length_cons, List.length_nil] at *
  have bA : Hid (Blk (w.alloc (.cells #[.int .i64 9, .int .i64 nx, .string tx, .string mx, .slice (some ⟨g, off, none⟩) 2 cap, .slice pc cl.length capc] 73)) w.heap.size #[.int .i64 9, .int .i64 nx, .string tx, .string mx, .slice (some ⟨g, off, none⟩) 2 cap, .slice pc cl.length capc] 73) := Blk.new
  have B1 : Hid (Below w.heap.size w (w.alloc (.cells #[.int .i64 9, .int .i64 nx, .string tx, .string mx, .slice (some ⟨g, off, none⟩) 2 cap, .slice pc cl.length capc] 73))) := (Below.refl _ _).alloc (Nat.le_refl _) _
  have EB : Hid (HEx (w.alloc (.cells #[.int .i64 9, .int .i64 nx, .string tx, .string mx, .slice (some ⟨g, off, none⟩) 2 cap, .slice pc cl.length capc] 73)) All d cs yb) := rb.mono (SameOn.of_below B1.out) (fun _ h => h)
  have SB : Hid (StrV (w.alloc (.cells #[.int .i64 9, .int .i64 nx, .string tx, .string mx, .slice (some ⟨g, off, none⟩) 2 cap, .slice pc cl.length capc] 73)) bv B) := hB.below B1.out
  obtain ⟨c0, c1, c2, c3, c4, c5, rfl⟩ := len6 hcsl
  have a0 := (B1.out.cell (p := ⟨g, _, none⟩) hgl).trans (hcs 0 (by omega))
  have a1 := (B1.out.cell (p := ⟨g, _, none⟩) hgl).trans (hcs 1 (by omega))
  have a2 := (B1.out.cell (p := ⟨g, _, none⟩) hgl).trans (hcs 2 (by omega))
  have a3 := (B1.out.cell (p := ⟨g, _, none⟩) hgl).trans (hcs 3 (by omega))
  have a4 := (B1.out.cell (p := ⟨g, _, none⟩) hgl).trans (hcs 4 (by omega))
  have a5 := (B1.out.cell (p := ⟨g, _, none⟩) hgl).trans (hcs 5 (by omega))
  simp at a0 a1 a2 a3 a4 a5
  have x4 := bA.out.cell 4 _ rfl
  clear hx hat hcs hcsl rb hB
  go_enter Tryz.func79, Tryz.ntmps79
  go_wp2_with fail
  refine (hF _ _ yb _ B EB.out SB.out wb wb2).mono ?_
  rintro e w2 ⟨u2, rfl, ho2, hb2⟩
  have HO : Hid (OwnS w2 w.heap.size u2 (freeV d yb B)) := ho2.base B1.out.size
  have HB : Hid (Below w.heap.size w w2) := B1.out.trans (hb2.mono B1.out.size)
  clear ho2 hb2
  go_wp2_with fail
  go_ret
  exact ⟨_, rfl, HO.out, HB.out⟩

set_option maxHeartbeats 32000000 in
theorem free_else {d : Nat} (hL : LsC d) (w : World) (cs : List Value) (kx nx : Int) (tx mx : ByteArray) (ks : List Ex) (cl : List Cl) (bv : Value) (B : List ByteArray) (h2 : kx ≠ 2) (h92 : ¬ (kx = 9 ∧ ks.length = 2)) (h : HEx w All (d + 1) cs (.mk kx nx tx mx ks cl)) (hB : StrV w bv B) (hwt : wtEx (d + 1) (.mk kx nx tx mx ks cl) ≤ 1048576) (hbt : B.length + wtEx (d + 1) (.mk kx nx tx mx ks cl) ≤ 4194304) :
    Calls Tryz.prog 79 #[.agg cs.toArray, bv] w fun e w' => ∃ u, e = .returned u ∧ OwnS w' w.heap.size u (freeV (d + 1) (.mk kx nx tx mx ks cl) B) ∧ Below w.heap.size w w' := by
  rw [freeV_else d kx nx tx mx ks cl B h2 h92]
  have hok := h.txts
  have hw : wtEx (d + 1) (.mk kx nx tx mx ks cl) = tx.size + mx.size + wtS (wtEx d) ks + wtS (wtCl (wtEx d)) cl := rfl
  have wks : wtS (wtEx d) ks ≤ 1048576 := by omega
  have wkb : B.length + wtS (wtEx d) ks ≤ 4194304 := by omega
  have lfb := foldV_len (bndV d) (wtEx d) ks B (fun y _ => bndV_len d y)
  -- what has been gathered
  have GQ : Hid (∀ i, Got (d + 1) (.mk kx nx tx mx ks cl) ((cl.take i).foldl (clF (freeV d) (bndV d) (patV d) (foldV (bndV d) B ks)) (listV (freeV d) (bndV d) B ks))) := fun i => by
    refine ⟨clF_nd _ _ _ _ _ _ (listV_nd _ _ _ _), fun s hs => ?_, fun s hs => ?_⟩
    · rcases clF_mem _ _ _ _ _ _ s hs with h | ⟨c, hc, y, hy, B', h⟩
      · obtain ⟨y, hy, B', h⟩ := listV_mem h
        exact varL_kid hy (freeV_sub d y B' s h)
      · exact varL_cl (List.mem_of_mem_take hc) (.inr hy) (freeV_sub d y B' s h)
    · rcases clF_mem _ _ _ _ _ _ s hs with h | ⟨c, hc, y, hy, B', h⟩
      · obtain ⟨y, hy, B', h⟩ := listV_mem h
        exact freeV_ok d y B' (hok.2.1 y hy) s h
      · exact freeV_ok d y B' ((hok.2.2 c (List.mem_of_mem_take hc)).2 y hy) s h
  have LQ : Hid (∀ i, ((cl.take i).foldl (clF (freeV d) (bndV d) (patV d) (foldV (bndV d) B ks)) (listV (freeV d) (bndV d) B ks)).length ≤ 1048577) := fun i => (GQ.out i).len hwt
  -- how the kids and the clauses are bounded
  have BK : Hid (∀ (j : Nat) y, ks[j]? = some y → wtEx d y ≤ 1048576 ∧ exS d y ∧ (foldV (bndV d) B (ks.take j)).length ≤ 4194304) := fun j y hj => by
    obtain ⟨h1, -⟩ := wtS_kid (d := d) hj
    have h3 := foldV_len (bndV d) (wtEx d) (ks.take j) B (fun y _ => bndV_len d y)
    exact ⟨by omega, hok.2.1 y (List.mem_of_getElem? hj), by omega⟩
  have BC : Hid (∀ (i : Nat) c, cl[i]? = some c → wtS (wtEx d) c.1 ≤ 1048576 ∧ wtS (wtEx d) c.2 ≤ 1048576 ∧ (foldV (bndV d) B ks).length + wtS (wtEx d) c.1 + wtS (wtEx d) c.2 ≤ 4194304 ∧ (∀ y ∈ c.1, exS d y) ∧ ∀ y ∈ c.2, exS d y) := fun i c hi => by
    have h1 := sum_take_succ (wtCl (wtEx d)) cl i c hi
    have h3 := sum_take_le (wtCl (wtEx d)) cl (i + 1)
    have hc : wtCl (wtEx d) c = wtS (wtEx d) c.1 + wtS (wtEx d) c.2 := rfl
    have h4 : wtCl (wtEx d) c ≤ wtS (wtCl (wtEx d)) cl := by unfold wtS; omega
    have hm := List.mem_of_getElem? hi
    exact ⟨by omega, by omega, by omega, (hok.2.2 c hm).1, (hok.2.2 c hm).2⟩
  have OB := hB.1.okS
  have HOB : Hid (∀ s ∈ B, okS s) := OB
  obtain ⟨kv, cv, rfl, -, -, hts, hms, f0, f1⟩ := h
  simp only [Ex.kind, Ex.n, Ex.text, Ex.mod, Ex.kids, Ex.clauses] at *
  have F0 : Hid (Rows w All 6 (HEx w All d) kv ks) := f0
  obtain ⟨p, cap, rfl, hcl, hcm, hx⟩ := f0
  obtain ⟨pc, capc, rfl, hcl', hcm', hxc⟩ := f1
  have hnb : ks.length ≤ 9223372036854775807 := by unfold maxLen at hcm; omega
  have hnc : cl.length ≤ 9223372036854775807 := by unfold maxLen at hcm'; omega
  have HX : Hid (ks ≠ [] → ∃ g off, p = some ⟨g, off, none⟩ ∧ All g ∧ g < w.heap.size ∧ ∀ i x, ks[i]? = some x → ∃ cs, cs.length = 6 ∧ (∀ j, j < 6 → w.cell? ⟨g, off + i * 6 + j, none⟩ = cs[j]?) ∧ HEx w All d cs x) := hx
  have HXC : Hid (cl ≠ [] → ∃ g off, pc = some ⟨g, off, none⟩ ∧ All g ∧ g < w.heap.size ∧ ∀ i x, cl[i]? = some x → ∃ cs, cs.length = 2 ∧ (∀ j, j < 2 → w.cell? ⟨g, off + i * 2 + j, none⟩ = cs[j]?) ∧ HCl w All (HEx w All d) cs x) := hxc
  have HSB : Hid (StrV w bv B) := hB
  clear hx hxc hok hw hwt hbt hB OB lfb
  generalize hn : ks.length = n at *
  have HN : Hid (ks.length = n) := hn
  generalize hm : cl.length = nc at *
  have HNC : Hid (cl.length = nc) := hm
  clear hn hm
  have h2b : (kx == 2) = false := by simpa using h2
  by_cases k9 : kx = 9
  · subst k9
    have hn2 : ¬ n = 2 := fun h => h92 ⟨rfl, h⟩
    have hn2b : ((n : Int) == 2) = false := by simp; omega
    clear h92 h2 h2b
    have bA : Hid (Blk (w.alloc (.cells #[.int .i64 9, .int .i64 nx, .string tx, .string mx, .slice p n cap, .slice pc nc capc] 73)) w.heap.size #[.int .i64 9, .int .i64 nx, .string tx, .string mx, .slice p n cap, .slice pc nc capc] 73) := Blk.new
    have BA : Hid (Below w.heap.size w (w.alloc (.cells #[.int .i64 9, .int .i64 nx, .string tx, .string mx, .slice p n cap, .slice pc nc capc] 73))) := (Below.refl _ _).alloc (Nat.le_refl _) _
    go_enter Tryz.func79, Tryz.ntmps79
    go_wp2_with fail
    refine (hL _ _ ks _ B (Rows.mono F0.out (SameOn.of_below BA.out) (fun _ h => h) (fun _ _ _ h => h.mono (SameOn.of_below BA.out) (fun _ h => h))) (HSB.out.below BA.out) wks wkb).mono ?_
    rintro e w1 ⟨uo, rfl, ho1, hb1⟩
    have O1 : Hid (OwnS w1 w.heap.size uo (listV (freeV d) (bndV d) B ks)) := ho1.base BA.out.size
    have B1 : Hid (Below w.heap.size w w1) := BA.out.trans (hb1.mono BA.out.size)
    have b1 : Hid (Blk w1 w.heap.size #[.int .i64 9, .int .i64 nx, .string tx, .string mx, .slice p n cap, .slice pc nc capc] 73) := bA.out.next hb1
    have S1 : Hid (StrV w1 bv B) := HSB.out.below B1.out
    clear ho1 hb1 bA BA F0
    go_wp2_with fail
    go_loopw [1, 6] (fun bu iv wr => ∃ k : Nat, k ≤ n ∧ iv = .int .i64 k ∧ Hid (StrV wr bu (foldV (bndV d) B (ks.take k))) ∧ Hid (OwnS wr w.heap.size uo (listV (freeV d) (bndV d) B ks)) ∧ Hid (Blk wr w.heap.size #[.int .i64 9, .int .i64 nx, .string tx, .string mx, .slice p n cap, .slice pc nc capc] 73) ∧ Hid (Below w.heap.size w wr)) (fun _ iv _ => n - (intOf iv).toNat)
    case atStart => exact ⟨0, Nat.zero_le _, rfl, S1.out, O1.out, b1.out, B1.out⟩
    case round =>
      obtain ⟨k, hk, rfl, hs, ho, hbk, HB⟩ := hrel
      clear O1 b1 B1 S1
      have xa4 := hbk.out.cell 4 _ rfl
      have xa5 := hbk.out.cell 5 _ rfl
      by_cases hlt : k < n
      · obtain ⟨x, hxk⟩ : ∃ x, ks[k]? = some x := ⟨ks[k]'(by rw [HN.out]; exact hlt), List.getElem?_eq_getElem _⟩
        obtain ⟨g, off, rfl, -, hgl, hat⟩ := HX.out (by intro h; rw [h] at hxk; simp at hxk)
        obtain ⟨cs, hcsl, hcs, r1⟩ := hat k x hxk
        have E1 : ∀ w', Below w.heap.size w w' → HEx w' All d cs x := fun w' hw => r1.mono (SameOn.of_below hw) (fun _ h => h)
        obtain ⟨c0, c1, c2, c3, c4, c5, rfl⟩ := len6 hcsl
        have a0 := hcs 0 (by omega)
        have a1 := hcs 1 (by omega)
        have a2 := hcs 2 (by omega)
        have a3 := hcs 3 (by omega)
        have a4 := hcs 4 (by omega)
        have a5 := hcs 5 (by omega)
        rw [← HB.out.cell (p := ⟨g, _, none⟩) hgl] at a0 a1 a2 a3 a4 a5
        simp at a0 a1 a2 a3 a4 a5
        have hki : (k : Int) < (n : Int) := by omega
        have hk0 : (0 : Int) ≤ (k : Int) := by omega
        obtain ⟨wx, ex, lq⟩ := BK.out k x hxk
        have lx := bndV_len d x
        have HJ : Hid (foldV (bndV d) B (ks.take (k + 1)) = onceS (foldV (bndV d) B (ks.take k)) (bndV d x)) := foldV_snoc _ _ ks k x hxk
        have ON : Hid (∀ s ∈ bndV d x, okS s) := fun s hs => bndV_ok d x ex s hs
        have OS : Hid (∀ s ∈ onceS (foldV (bndV d) B (ks.take k)) (bndV d x), okS s) := fun s hs' => by
          rcases onceS_mem _ _ s hs' with h | h
          · exact hs.out.1.okS s h
          · exact ON.out s h
        generalize foldV (bndV d) B (ks.take k) = J at *
        clear hcs hat hcsl r1
        go_wp2_with fail
        refine (bound_all d _ _ x (E1 _ HB.out) wx).mono ?_
        rintro e w4 ⟨u4', rfl, ho4, hb4⟩
        have HB4 : Hid (Below w.heap.size w w4) := HB.out.trans (hb4.mono HB.out.size)
        have SV : Hid (StrV w4 u1 J) := hs.out.below hb4
        have SR : Hid (StrR w4 u4' (bndV d x)) := ho4.strR ON.out
        have HO4 : Hid (OwnS w4 w.heap.size uo (listV (freeV d) (bndV d) B ks)) := ho.out.next hb4
        have bk4 : Hid (Blk w4 w.heap.size #[.int .i64 9, .int .i64 nx, .string tx, .string mx, .slice (some ⟨g, off, none⟩) n cap, .slice pc nc capc] 73) := hbk.out.next hb4
        clear hb4 ho4 xa4 xa5 a0 a1 a2 a3 a4 a5
        go_wp2_with fail
        refine (once_any _ _ _ J (bndV d x) SV.out SR.out (by omega)).mono ?_
        rintro e w5 ⟨u5', rfl, ho5, hb5⟩
        have HB5 : Hid (Below w.heap.size w w5) := HB4.out.trans (hb5.mono HB4.out.size)
        have SV5 : Hid (StrV w5 u5' (onceS J (bndV d x))) := ho5.strV OS.out
        have HO5 : Hid (OwnS w5 w.heap.size uo (listV (freeV d) (bndV d) B ks)) := HO4.out.next hb5
        have bk5 : Hid (Blk w5 w.heap.size #[.int .i64 9, .int .i64 nx, .string tx, .string mx, .slice (some ⟨g, off, none⟩) n cap, .slice pc nc capc] 73) := bk4.out.next hb5
        clear hb5 ho5
        go_wp2_with fail
        exact ⟨⟨k + 1, by omega, by go_num, by show StrV _ _ _; rw [HJ.out]; exact SV5.out, HO5.out, bk5.out, HB5.out⟩, by simp [intOf]; omega⟩
      · have HS : Hid (StrV wr u1 (foldV (bndV d) B ks)) := by
          have := hs.out
          rwa [List.take_of_length_le (by rw [HN.out]; omega)] at this
        clear hs
        have HS0 := HS
        have ho0 := ho
        have hbk0 := hbk
        have HB0 := HB
        clear HS ho hbk HB
        go_wp2_with fail
        go_loopw [5, 7] (fun ov iv wr => ∃ i : Nat, i ≤ nc ∧ iv = .int .i64 i ∧ Hid (OwnS wr w.heap.size ov ((cl.take i).foldl (clF (freeV d) (bndV d) (patV d) (foldV (bndV d) B ks)) (listV (freeV d) (bndV d) B ks))) ∧ Hid (StrV wr u1 (foldV (bndV d) B ks)) ∧ Hid (Blk wr w.heap.size #[.int .i64 9, .int .i64 nx, .string tx, .string mx, .slice p n cap, .slice pc nc capc] 73) ∧ Hid (Below w.heap.size w wr)) (fun _ iv _ => nc - (intOf iv).toNat)
        case atStart => exact ⟨0, Nat.zero_le _, rfl, ho0.out, HS0.out, hbk0.out, HB0.out⟩
        case round =>
          clear HS0 ho0 hbk0 HB0 xa4 xa5
          obtain ⟨i, hi, rfl, hoi, hsi, hbi, HBi⟩ := hrel
          have xa5 := hbi.out.cell 5 _ rfl
          by_cases hlt : i < nc
          · obtain ⟨c, hci⟩ : ∃ c, cl[i]? = some c := ⟨cl[i]'(by rw [HNC.out]; exact hlt), List.getElem?_eq_getElem _⟩
            obtain ⟨gc, oc, rfl, -, hgcl, hatc⟩ := HXC.out (by intro h; rw [h] at hci; simp at hci)
            obtain ⟨csc, hcsl2, hcsc, pv, bdv, rfl, rp, rb⟩ := hatc i c hci
            obtain ⟨wc1, wc2, wc3, ec1, ec2⟩ := BC.out i c hci
            have RB : Hid (∀ w', Below w.heap.size w w' → Rows w' All 6 (HEx w' All d) bdv c.2) := fun w' hw => Rows.mono rb (SameOn.of_below hw) (fun _ h => h) (fun _ _ _ h => h.mono (SameOn.of_below hw) (fun _ h => h))
            obtain ⟨pp, capp, rfl, hclp, hcmp, hxp⟩ := rp
            obtain ⟨pb, capb, rfl, -⟩ := id rb
            have hnp : c.1.length ≤ 9223372036854775807 := by unfold maxLen at hcmp; omega
            have HXP : Hid (c.1 ≠ [] → ∃ g off, pp = some ⟨g, off, none⟩ ∧ All g ∧ g < w.heap.size ∧ ∀ i x, c.1[i]? = some x → ∃ cs, cs.length = 6 ∧ (∀ j, j < 6 → w.cell? ⟨g, off + i * 6 + j, none⟩ = cs[j]?) ∧ HEx w All d cs x) := hxp
            have HC0 : Hid (w.cell? ⟨gc, oc + i * 2, none⟩ = some (.slice pp c.1.length capp)) := by show _ = _; simpa using hcsc 0 (by omega)
            have HC1 : Hid (w.cell? ⟨gc, oc + i * 2 + 1, none⟩ = some (.slice pb c.2.length capb)) := by show _ = _; simpa using hcsc 1 (by omega)
            have HCI : Hid ((cl.take (i + 1)).foldl (clF (freeV d) (bndV d) (patV d) (foldV (bndV d) B ks)) (listV (freeV d) (bndV d) B ks) = onceS ((cl.take i).foldl (clF (freeV d) (bndV d) (patV d) (foldV (bndV d) B ks)) (listV (freeV d) (bndV d) B ks)) (listV (freeV d) (bndV d) (foldV (patV d) (foldV (bndV d) B ks) c.1) c.2)) := clF_snoc _ _ _ _ _ cl i c hci
            have lq := LQ.out i
            have OJ : Hid (∀ s ∈ (cl.take i).foldl (clF (freeV d) (bndV d) (patV d) (foldV (bndV d) B ks)) (listV (freeV d) (bndV d) B ks), okS s) := (GQ.out i).ok
            have BP : Hid (∀ (j : Nat) y, c.1[j]? = some y → wtEx d y ≤ 1048576 ∧ exS d y ∧ (foldV (patV d) (foldV (bndV d) B ks) (c.1.take j)).length ≤ 4194304) := fun j y hj => by
              obtain ⟨h1, -⟩ := wtS_kid (d := d) hj
              have h3 := foldV_len (patV d) (wtEx d) (c.1.take j) (foldV (bndV d) B ks) (fun y _ => patV_len d y)
              exact ⟨by omega, ec1 y (List.mem_of_getElem? hj), by omega⟩
            have LIN : Hid ((foldV (patV d) (foldV (bndV d) B ks) c.1).length + wtS (wtEx d) c.2 ≤ 4194304) := by
              have h3 := foldV_len (patV d) (wtEx d) c.1 (foldV (bndV d) B ks) (fun y _ => patV_len d y)
              show _ ≤ _
              omega
            have LBD : Hid (∀ B', (listV (freeV d) (bndV d) B' c.2).length ≤ 1048576) := fun B' => Nat.le_trans (listV_len d B' c.2) wc2
            have OBD : Hid (∀ B', ∀ s ∈ listV (freeV d) (bndV d) B' c.2, okS s) := fun B' s hs => by
              obtain ⟨y, hy, B2, h⟩ := listV_mem hs
              exact freeV_ok d y B2 (ec2 y hy) s h
            have hii : (i : Int) < (nc : Int) := by omega
            have hi0 : (0 : Int) ≤ (i : Int) := by omega
            have xc0 := (HBi.out.cell (p := ⟨gc, oc + i * 2, none⟩) hgcl).trans HC0.out
            have xc1 := (HBi.out.cell (p := ⟨gc, oc + i * 2 + 1, none⟩) hgcl).trans HC1.out
            generalize hnp0 : c.1.length = np at *
            have HNP : Hid (c.1.length = np) := hnp0
            generalize (cl.take i).foldl (clF (freeV d) (bndV d) (patV d) (foldV (bndV d) B ks)) (listV (freeV d) (bndV d) B ks) = OI at *
            generalize hFB : foldV (bndV d) B ks = FB at *
            have HFB : Hid (foldV (bndV d) B ks = FB) := hFB
            have HSI := hsi
            have HOI := hoi
            have HBI2 := hbi
            have HBB := HBi
            clear hcsc hcsl2 hatc hxp rb hnp0 hFB hsi hoi hbi HBi wc1 wc3 ec1 ec2 hclp hcmp
            go_wp2_with fail
            clear xc0 xc1 xa5
            go_loopw [8, 9] (fun bu iv wr => ∃ k : Nat, k ≤ np ∧ iv = .int .i64 k ∧ Hid (StrV wr bu (foldV (patV d) FB (c.1.take k))) ∧ Hid (OwnS wr w.heap.size u5 OI) ∧ Hid (StrV wr u1 FB) ∧ Hid (Blk wr w.heap.size #[.int .i64 9, .int .i64 nx, .string tx, .string mx, .slice p n cap, .slice (some ⟨gc, oc, none⟩) nc capc] 73) ∧ Hid (Below w.heap.size w wr)) (fun _ iv _ => np - (intOf iv).toNat)
            case atStart => exact ⟨0, Nat.zero_le _, rfl, HSI.out, HOI.out, HSI.out, HBI2.out, HBB.out⟩
            case round =>
              clear HSI HOI HBI2 HBB
              obtain ⟨k, hk, rfl, hs, ho, hsf, hbk, HB⟩ := hrel
              have xa5 := hbk.out.cell 5 _ rfl
              have xc0 := (HB.out.cell (p := ⟨gc, oc + i * 2, none⟩) hgcl).trans HC0.out
              have xc1 := (HB.out.cell (p := ⟨gc, oc + i * 2 + 1, none⟩) hgcl).trans HC1.out
              by_cases hlk : k < np
              · obtain ⟨x, hxk⟩ : ∃ x, c.1[k]? = some x := ⟨c.1[k]'(by rw [HNP.out]; exact hlk), List.getElem?_eq_getElem _⟩
                obtain ⟨g, off, rfl, -, hgl, hat⟩ := HXP.out (by intro h; rw [h] at hxk; simp at hxk)
                obtain ⟨cs, hcsl, hcs, r1⟩ := hat k x hxk
                have E1 : ∀ w', Below w.heap.size w w' → HEx w' All d cs x := fun w' hw => r1.mono (SameOn.of_below hw) (fun _ h => h)
                obtain ⟨c0, c1, c2, c3, c4, c5, rfl⟩ := len6 hcsl
                have a0 := hcs 0 (by omega)
                have a1 := hcs 1 (by omega)
                have a2 := hcs 2 (by omega)
                have a3 := hcs 3 (by omega)
                have a4 := hcs 4 (by omega)
                have a5 := hcs 5 (by omega)
                rw [← HB.out.cell (p := ⟨g, _, none⟩) hgl] at a0 a1 a2 a3 a4 a5
                simp at a0 a1 a2 a3 a4 a5
                have hki : (k : Int) < (np : Int) := by omega
                have hk0 : (0 : Int) ≤ (k : Int) := by omega
                obtain ⟨wx, ex, lj⟩ := BP.out k x hxk
                have lx := patV_len d x
                have HJ : Hid (foldV (patV d) FB (c.1.take (k + 1)) = onceS (foldV (patV d) FB (c.1.take k)) (patV d x)) := foldV_snoc _ _ c.1 k x hxk
                have ON : Hid (∀ s ∈ patV d x, okS s) := fun s hs => patV_ok d x ex s hs
                have OS : Hid (∀ s ∈ onceS (foldV (patV d) FB (c.1.take k)) (patV d x), okS s) := fun s hs' => by
                  rcases onceS_mem _ _ s hs' with h | h
                  · exact hs.out.1.okS s h
                  · exact ON.out s h
                generalize foldV (patV d) FB (c.1.take k) = J at *
                clear hcs hat hcsl r1
                go_wp2_with fail
                refine (patVars_all d _ _ x (E1 _ HB.out) wx).mono ?_
                rintro e w4 ⟨u4', rfl, ho4, hb4⟩
                have HB4 : Hid (Below w.heap.size w w4) := HB.out.trans (hb4.mono HB.out.size)
                have SV : Hid (StrV w4 u8 J) := hs.out.below hb4
                have SR : Hid (StrR w4 u4' (patV d x)) := ho4.strR ON.out
                have HO4 : Hid (OwnS w4 w.heap.size u5 OI) := ho.out.next hb4
                have SF4 : Hid (StrV w4 u1 FB) := hsf.out.below hb4
                have bk4 : Hid (Blk w4 w.heap.size #[.int .i64 9, .int .i64 nx, .string tx, .string mx, .slice p n cap, .slice (some ⟨gc, oc, none⟩) nc capc] 73) := hbk.out.next hb4
                clear hb4 ho4 xa5 xc0 xc1 a0 a1 a2 a3 a4 a5
                go_wp2_with fail
                refine (once_any _ _ _ J (patV d x) SV.out SR.out (by omega)).mono ?_
                rintro e w5 ⟨u5', rfl, ho5, hb5⟩
                have HB5 : Hid (Below w.heap.size w w5) := HB4.out.trans (hb5.mono HB4.out.size)
                have SV5 : Hid (StrV w5 u5' (onceS J (patV d x))) := ho5.strV OS.out
                have HO5 : Hid (OwnS w5 w.heap.size u5 OI) := HO4.out.next hb5
                have SF5 : Hid (StrV w5 u1 FB) := SF4.out.below hb5
                have bk5 : Hid (Blk w5 w.heap.size #[.int .i64 9, .int .i64 nx, .string tx, .string mx, .slice p n cap, .slice (some ⟨gc, oc, none⟩) nc capc] 73) := bk4.out.next hb5
                clear hb5 ho5
                go_wp2_with fail
                exact ⟨⟨k + 1, by omega, by go_num, by show StrV _ _ _; rw [HJ.out]; exact SV5.out, HO5.out, SF5.out, bk5.out, HB5.out⟩, by simp [intOf]; omega⟩
              · have HIN : Hid (StrV wr u8 (foldV (patV d) FB c.1)) := by
                  have := hs.out
                  rwa [List.take_of_length_le (by rw [HNP.out]; omega)] at this
                clear hs
                go_wp2_with fail
                refine (hL _ _ c.2 _ (foldV (patV d) FB c.1) (RB.out _ HB.out) HIN.out wc2 LIN.out).mono ?_
                rintro e w4 ⟨u4', rfl, ho4, hb4⟩
                have HB4 : Hid (Below w.heap.size w w4) := HB.out.trans (hb4.mono HB.out.size)
                have SV : Hid (StrV w4 u5 OI) := (ho.out.next hb4).strV OJ.out
                have SR : Hid (StrR w4 u4' (listV (freeV d) (bndV d) (foldV (patV d) FB c.1) c.2)) := ho4.strR (OBD.out _)
                have lbd := LBD.out (foldV (patV d) FB c.1)
                have SF4 : Hid (StrV w4 u1 FB) := hsf.out.below hb4
                have bk4 : Hid (Blk w4 w.heap.size #[.int .i64 9, .int .i64 nx, .string tx, .string mx, .slice p n cap, .slice (some ⟨gc, oc, none⟩) nc capc] 73) := hbk.out.next hb4
                clear hb4 ho4 xa5 xc0 xc1
                go_wp2_with fail
                refine (once_any _ _ _ OI _ SV.out SR.out (by omega)).mono ?_
                rintro e w5 ⟨u5', rfl, ho5, hb5⟩
                have HB5 : Hid (Below w.heap.size w w5) := HB4.out.trans (hb5.mono HB4.out.size)
                have HO5 : Hid (OwnS w5 w.heap.size u5' (onceS OI (listV (freeV d) (bndV d) (foldV (patV d) FB c.1) c.2))) := ho5.base HB4.out.size
                have SF5 : Hid (StrV w5 u1 FB) := SF4.out.below hb5
                have bk5 : Hid (Blk w5 w.heap.size #[.int .i64 9, .int .i64 nx, .string tx, .string mx, .slice p n cap, .slice (some ⟨gc, oc, none⟩) nc capc] 73) := bk4.out.next hb5
                clear hb5 ho5
                go_wp2_with fail
                exact ⟨⟨i + 1, by omega, by go_num, by show OwnS _ _ _ _; rw [HCI.out]; exact HO5.out, SF5.out, bk5.out, HB5.out⟩, by simp [intOf]; omega⟩
          · have HF : Hid (OwnS wr w.heap.size u5 (cl.foldl (clF (freeV d) (bndV d) (patV d) (foldV (bndV d) B ks)) (listV (freeV d) (bndV d) B ks))) := by
              have := hoi.out
              rwa [List.take_of_length_le (by rw [HNC.out]; omega)] at this
            clear hoi
            go_wp2_with fail
            go_ret
            exact ⟨_, rfl, HF.out, HBi.out⟩
  · have k9b : (kx == 9) = false := by simpa using k9
    clear h92 h2 k9
    have bA : Hid (Blk (w.alloc (.cells #[.int .i64 kx, .int .i64 nx, .string tx, .string mx, .slice p n cap, .slice pc nc capc] 73)) w.heap.size #[.int .i64 kx, .int .i64 nx, .string tx, .string mx, .slice p n cap, .slice pc nc capc] 73) := Blk.new
    have BA : Hid (Below w.heap.size w (w.alloc (.cells #[.int .i64 kx, .int .i64 nx, .string tx, .string mx, .slice p n cap, .slice pc nc capc] 73))) := (Below.refl _ _).alloc (Nat.le_refl _) _
    go_enter Tryz.func79, Tryz.ntmps79
    go_wp2_with fail
    refine (hL _ _ ks _ B (Rows.mono F0.out (SameOn.of_below BA.out) (fun _ h => h) (fun _ _ _ h => h.mono (SameOn.of_below BA.out) (fun _ h => h))) (HSB.out.below BA.out) wks wkb).mono ?_
    rintro e w1 ⟨uo, rfl, ho1, hb1⟩
    have O1 : Hid (OwnS w1 w.heap.size uo (listV (freeV d) (bndV d) B ks)) := ho1.base BA.out.size
    have B1 : Hid (Below w.heap.size w w1) := BA.out.trans (hb1.mono BA.out.size)
    have b1 : Hid (Blk w1 w.heap.size #[.int .i64 kx, .int .i64 nx, .string tx, .string mx, .slice p n cap, .slice pc nc capc] 73) := bA.out.next hb1
    have S1 : Hid (StrV w1 bv B) := HSB.out.below B1.out
    clear ho1 hb1 bA BA F0
    go_wp2_with fail
    go_loopw [1, 6] (fun bu iv wr => ∃ k : Nat, k ≤ n ∧ iv = .int .i64 k ∧ Hid (StrV wr bu (foldV (bndV d) B (ks.take k))) ∧ Hid (OwnS wr w.heap.size uo (listV (freeV d) (bndV d) B ks)) ∧ Hid (Blk wr w.heap.size #[.int .i64 kx, .int .i64 nx, .string tx, .string mx, .slice p n cap, .slice pc nc capc] 73) ∧ Hid (Below w.heap.size w wr)) (fun _ iv _ => n - (intOf iv).toNat)
    case atStart => exact ⟨0, Nat.zero_le _, rfl, S1.out, O1.out, b1.out, B1.out⟩
    case round =>
      obtain ⟨k, hk, rfl, hs, ho, hbk, HB⟩ := hrel
      clear O1 b1 B1 S1
      have xa4 := hbk.out.cell 4 _ rfl
      have xa5 := hbk.out.cell 5 _ rfl
      by_cases hlt : k < n
      · obtain ⟨x, hxk⟩ : ∃ x, ks[k]? = some x := ⟨ks[k]'(by rw [HN.out]; exact hlt), List.getElem?_eq_getElem _⟩
        obtain ⟨g, off, rfl, -, hgl, hat⟩ := HX.out (by intro h; rw [h] at hxk; simp at hxk)
        obtain ⟨cs, hcsl, hcs, r1⟩ := hat k x hxk
        have E1 : ∀ w', Below w.heap.size w w' → HEx w' All d cs x := fun w' hw => r1.mono (SameOn.of_below hw) (fun _ h => h)
        obtain ⟨c0, c1, c2, c3, c4, c5, rfl⟩ := len6 hcsl
        have a0 := hcs 0 (by omega)
        have a1 := hcs 1 (by omega)
        have a2 := hcs 2 (by omega)
        have a3 := hcs 3 (by omega)
        have a4 := hcs 4 (by omega)
        have a5 := hcs 5 (by omega)
        rw [← HB.out.cell (p := ⟨g, _, none⟩) hgl] at a0 a1 a2 a3 a4 a5
        simp at a0 a1 a2 a3 a4 a5
        have hki : (k : Int) < (n : Int) := by omega
        have hk0 : (0 : Int) ≤ (k : Int) := by omega
        obtain ⟨wx, ex, lq⟩ := BK.out k x hxk
        have lx := bndV_len d x
        have HJ : Hid (foldV (bndV d) B (ks.take (k + 1)) = onceS (foldV (bndV d) B (ks.take k)) (bndV d x)) := foldV_snoc _ _ ks k x hxk
        have ON : Hid (∀ s ∈ bndV d x, okS s) := fun s hs => bndV_ok d x ex s hs
        have OS : Hid (∀ s ∈ onceS (foldV (bndV d) B (ks.take k)) (bndV d x), okS s) := fun s hs' => by
          rcases onceS_mem _ _ s hs' with h | h
          · exact hs.out.1.okS s h
          · exact ON.out s h
        generalize foldV (bndV d) B (ks.take k) = J at *
        clear hcs hat hcsl r1
        go_wp2_with fail
        refine (bound_all d _ _ x (E1 _ HB.out) wx).mono ?_
        rintro e w4 ⟨u4', rfl, ho4, hb4⟩
        have HB4 : Hid (Below w.heap.size w w4) := HB.out.trans (hb4.mono HB.out.size)
        have SV : Hid (StrV w4 u1 J) := hs.out.below hb4
        have SR : Hid (StrR w4 u4' (bndV d x)) := ho4.strR ON.out
        have HO4 : Hid (OwnS w4 w.heap.size uo (listV (freeV d) (bndV d) B ks)) := ho.out.next hb4
        have bk4 : Hid (Blk w4 w.heap.size #[.int .i64 kx, .int .i64 nx, .string tx, .string mx, .slice (some ⟨g, off, none⟩) n cap, .slice pc nc capc] 73) := hbk.out.next hb4
        clear hb4 ho4 xa4 xa5 a0 a1 a2 a3 a4 a5
        go_wp2_with fail
        refine (once_any _ _ _ J (bndV d x) SV.out SR.out (by omega)).mono ?_
        rintro e w5 ⟨u5', rfl, ho5, hb5⟩
        have HB5 : Hid (Below w.heap.size w w5) := HB4.out.trans (hb5.mono HB4.out.size)
        have SV5 : Hid (StrV w5 u5' (onceS J (bndV d x))) := ho5.strV OS.out
        have HO5 : Hid (OwnS w5 w.heap.size uo (listV (freeV d) (bndV d) B ks)) := HO4.out.next hb5
        have bk5 : Hid (Blk w5 w.heap.size #[.int .i64 kx, .int .i64 nx, .string tx, .string mx, .slice (some ⟨g, off, none⟩) n cap, .slice pc nc capc] 73) := bk4.out.next hb5
        clear hb5 ho5
        go_wp2_with fail
        exact ⟨⟨k + 1, by omega, by go_num, by show StrV _ _ _; rw [HJ.out]; exact SV5.out, HO5.out, bk5.out, HB5.out⟩, by simp [intOf]; omega⟩
      · have HS : Hid (StrV wr u1 (foldV (bndV d) B ks)) := by
          have := hs.out
          rwa [List.take_of_length_le (by rw [HN.out]; omega)] at this
        clear hs
        have HS0 := HS
        have ho0 := ho
        have hbk0 := hbk
        have HB0 := HB
        clear HS ho hbk HB
        go_wp2_with fail
        go_loopw [5, 7] (fun ov iv wr => ∃ i : Nat, i ≤ nc ∧ iv = .int .i64 i ∧ Hid (OwnS wr w.heap.size ov ((cl.take i).foldl (clF (freeV d) (bndV d) (patV d) (foldV (bndV d) B ks)) (listV (freeV d) (bndV d) B ks))) ∧ Hid (StrV wr u1 (foldV (bndV d) B ks)) ∧ Hid (Blk wr w.heap.size #[.int .i64 kx, .int .i64 nx, .string tx, .string mx, .slice p n cap, .slice pc nc capc] 73) ∧ Hid (Below w.heap.size w wr)) (fun _ iv _ => nc - (intOf iv).toNat)
        case atStart => exact ⟨0, Nat.zero_le _, rfl, ho0.out, HS0.out, hbk0.out, HB0.out⟩
        case round =>
          clear HS0 ho0 hbk0 HB0 xa4 xa5
          obtain ⟨i, hi, rfl, hoi, hsi, hbi, HBi⟩ := hrel
          have xa5 := hbi.out.cell 5 _ rfl
          by_cases hlt : i < nc
          · obtain ⟨c, hci⟩ : ∃ c, cl[i]? = some c := ⟨cl[i]'(by rw [HNC.out]; exact hlt), List.getElem?_eq_getElem _⟩
            obtain ⟨gc, oc, rfl, -, hgcl, hatc⟩ := HXC.out (by intro h; rw [h] at hci; simp at hci)
            obtain ⟨csc, hcsl2, hcsc, pv, bdv, rfl, rp, rb⟩ := hatc i c hci
            obtain ⟨wc1, wc2, wc3, ec1, ec2⟩ := BC.out i c hci
            have RB : Hid (∀ w', Below w.heap.size w w' → Rows w' All 6 (HEx w' All d) bdv c.2) := fun w' hw => Rows.mono rb (SameOn.of_below hw) (fun _ h => h) (fun _ _ _ h => h.mono (SameOn.of_below hw) (fun _ h => h))
            obtain ⟨pp, capp, rfl, hclp, hcmp, hxp⟩ := rp
            obtain ⟨pb, capb, rfl, -⟩ := id rb
            have hnp : c.1.length ≤ 9223372036854775807 := by unfold maxLen at hcmp; omega
            have HXP : Hid (c.1 ≠ [] → ∃ g off, pp = some ⟨g, off, none⟩ ∧ All g ∧ g < w.heap.size ∧ ∀ i x, c.1[i]? = some x → ∃ cs, cs.length = 6 ∧ (∀ j, j < 6 → w.cell? ⟨g, off + i * 6 + j, none⟩ = cs[j]?) ∧ HEx w All d cs x) := hxp
            have HC0 : Hid (w.cell? ⟨gc, oc + i * 2, none⟩ = some (.slice pp c.1.length capp)) := by show _ = _; simpa using hcsc 0 (by omega)
            have HC1 : Hid (w.cell? ⟨gc, oc + i * 2 + 1, none⟩ = some (.slice pb c.2.length capb)) := by show _ = _; simpa using hcsc 1 (by omega)
            have HCI : Hid ((cl.take (i + 1)).foldl (clF (freeV d) (bndV d) (patV d) (foldV (bndV d) B ks)) (listV (freeV d) (bndV d) B ks) = onceS ((cl.take i).foldl (clF (freeV d) (bndV d) (patV d) (foldV (bndV d) B ks)) (listV (freeV d) (bndV d) B ks)) (listV (freeV d) (bndV d) (foldV (patV d) (foldV (bndV d) B ks) c.1) c.2)) := clF_snoc _ _ _ _ _ cl i c hci
            have lq := LQ.out i
            have OJ : Hid (∀ s ∈ (cl.take i).foldl (clF (freeV d) (bndV d) (patV d) (foldV (bndV d) B ks)) (listV (freeV d) (bndV d) B ks), okS s) := (GQ.out i).ok
            have BP : Hid (∀ (j : Nat) y, c.1[j]? = some y → wtEx d y ≤ 1048576 ∧ exS d y ∧ (foldV (patV d) (foldV (bndV d) B ks) (c.1.take j)).length ≤ 4194304) := fun j y hj => by
              obtain ⟨h1, -⟩ := wtS_kid (d := d) hj
              have h3 := foldV_len (patV d) (wtEx d) (c.1.take j) (foldV (bndV d) B ks) (fun y _ => patV_len d y)
              exact ⟨by omega, ec1 y (List.mem_of_getElem? hj), by omega⟩
            have LIN : Hid ((foldV (patV d) (foldV (bndV d) B ks) c.1).length + wtS (wtEx d) c.2 ≤ 4194304) := by
              have h3 := foldV_len (patV d) (wtEx d) c.1 (foldV (bndV d) B ks) (fun y _ => patV_len d y)
              show _ ≤ _
              omega
            have LBD : Hid (∀ B', (listV (freeV d) (bndV d) B' c.2).length ≤ 1048576) := fun B' => Nat.le_trans (listV_len d B' c.2) wc2
            have OBD : Hid (∀ B', ∀ s ∈ listV (freeV d) (bndV d) B' c.2, okS s) := fun B' s hs => by
              obtain ⟨y, hy, B2, h⟩ := listV_mem hs
              exact freeV_ok d y B2 (ec2 y hy) s h
            have hii : (i : Int) < (nc : Int) := by omega
            have hi0 : (0 : Int) ≤ (i : Int) := by omega
            have xc0 := (HBi.out.cell (p := ⟨gc, oc + i * 2, none⟩) hgcl).trans HC0.out
            have xc1 := (HBi.out.cell (p := ⟨gc, oc + i * 2 + 1, none⟩) hgcl).trans HC1.out
            generalize hnp0 : c.1.length = np at *
            have HNP : Hid (c.1.length = np) := hnp0
            generalize (cl.take i).foldl (clF (freeV d) (bndV d) (patV d) (foldV (bndV d) B ks)) (listV (freeV d) (bndV d) B ks) = OI at *
            generalize hFB : foldV (bndV d) B ks = FB at *
            have HFB : Hid (foldV (bndV d) B ks = FB) := hFB
            have HSI := hsi
            have HOI := hoi
            have HBI2 := hbi
            have HBB := HBi
            clear hcsc hcsl2 hatc hxp rb hnp0 hFB hsi hoi hbi HBi wc1 wc3 ec1 ec2 hclp hcmp
            go_wp2_with fail
            clear xc0 xc1 xa5
            go_loopw [8, 9] (fun bu iv wr => ∃ k : Nat, k ≤ np ∧ iv = .int .i64 k ∧ Hid (StrV wr bu (foldV (patV d) FB (c.1.take k))) ∧ Hid (OwnS wr w.heap.size u5 OI) ∧ Hid (StrV wr u1 FB) ∧ Hid (Blk wr w.heap.size #[.int .i64 kx, .int .i64 nx, .string tx, .string mx, .slice p n cap, .slice (some ⟨gc, oc, none⟩) nc capc] 73) ∧ Hid (Below w.heap.size w wr)) (fun _ iv _ => np - (intOf iv).toNat)
            case atStart => exact ⟨0, Nat.zero_le _, rfl, HSI.out, HOI.out, HSI.out, HBI2.out, HBB.out⟩
            case round =>
              clear HSI HOI HBI2 HBB
              obtain ⟨k, hk, rfl, hs, ho, hsf, hbk, HB⟩ := hrel
              have xa5 := hbk.out.cell 5 _ rfl
              have xc0 := (HB.out.cell (p := ⟨gc, oc + i * 2, none⟩) hgcl).trans HC0.out
              have xc1 := (HB.out.cell (p := ⟨gc, oc + i * 2 + 1, none⟩) hgcl).trans HC1.out
              by_cases hlk : k < np
              · obtain ⟨x, hxk⟩ : ∃ x, c.1[k]? = some x := ⟨c.1[k]'(by rw [HNP.out]; exact hlk), List.getElem?_eq_getElem _⟩
                obtain ⟨g, off, rfl, -, hgl, hat⟩ := HXP.out (by intro h; rw [h] at hxk; simp at hxk)
                obtain ⟨cs, hcsl, hcs, r1⟩ := hat k x hxk
                have E1 : ∀ w', Below w.heap.size w w' → HEx w' All d cs x := fun w' hw => r1.mono (SameOn.of_below hw) (fun _ h => h)
                obtain ⟨c0, c1, c2, c3, c4, c5, rfl⟩ := len6 hcsl
                have a0 := hcs 0 (by omega)
                have a1 := hcs 1 (by omega)
                have a2 := hcs 2 (by omega)
                have a3 := hcs 3 (by omega)
                have a4 := hcs 4 (by omega)
                have a5 := hcs 5 (by omega)
                rw [← HB.out.cell (p := ⟨g, _, none⟩) hgl] at a0 a1 a2 a3 a4 a5
                simp at a0 a1 a2 a3 a4 a5
                have hki : (k : Int) < (np : Int) := by omega
                have hk0 : (0 : Int) ≤ (k : Int) := by omega
                obtain ⟨wx, ex, lj⟩ := BP.out k x hxk
                have lx := patV_len d x
                have HJ : Hid (foldV (patV d) FB (c.1.take (k + 1)) = onceS (foldV (patV d) FB (c.1.take k)) (patV d x)) := foldV_snoc _ _ c.1 k x hxk
                have ON : Hid (∀ s ∈ patV d x, okS s) := fun s hs => patV_ok d x ex s hs
                have OS : Hid (∀ s ∈ onceS (foldV (patV d) FB (c.1.take k)) (patV d x), okS s) := fun s hs' => by
                  rcases onceS_mem _ _ s hs' with h | h
                  · exact hs.out.1.okS s h
                  · exact ON.out s h
                generalize foldV (patV d) FB (c.1.take k) = J at *
                clear hcs hat hcsl r1
                go_wp2_with fail
                refine (patVars_all d _ _ x (E1 _ HB.out) wx).mono ?_
                rintro e w4 ⟨u4', rfl, ho4, hb4⟩
                have HB4 : Hid (Below w.heap.size w w4) := HB.out.trans (hb4.mono HB.out.size)
                have SV : Hid (StrV w4 u8 J) := hs.out.below hb4
                have SR : Hid (StrR w4 u4' (patV d x)) := ho4.strR ON.out
                have HO4 : Hid (OwnS w4 w.heap.size u5 OI) := ho.out.next hb4
                have SF4 : Hid (StrV w4 u1 FB) := hsf.out.below hb4
                have bk4 : Hid (Blk w4 w.heap.size #[.int .i64 kx, .int .i64 nx, .string tx, .string mx, .slice p n cap, .slice (some ⟨gc, oc, none⟩) nc capc] 73) := hbk.out.next hb4
                clear hb4 ho4 xa5 xc0 xc1 a0 a1 a2 a3 a4 a5
                go_wp2_with fail
                refine (once_any _ _ _ J (patV d x) SV.out SR.out (by omega)).mono ?_
                rintro e w5 ⟨u5', rfl, ho5, hb5⟩
                have HB5 : Hid (Below w.heap.size w w5) := HB4.out.trans (hb5.mono HB4.out.size)
                have SV5 : Hid (StrV w5 u5' (onceS J (patV d x))) := ho5.strV OS.out
                have HO5 : Hid (OwnS w5 w.heap.size u5 OI) := HO4.out.next hb5
                have SF5 : Hid (StrV w5 u1 FB) := SF4.out.below hb5
                have bk5 : Hid (Blk w5 w.heap.size #[.int .i64 kx, .int .i64 nx, .string tx, .string mx, .slice p n cap, .slice (some ⟨gc, oc, none⟩) nc capc] 73) := bk4.out.next hb5
                clear hb5 ho5
                go_wp2_with fail
                exact ⟨⟨k + 1, by omega, by go_num, by show StrV _ _ _; rw [HJ.out]; exact SV5.out, HO5.out, SF5.out, bk5.out, HB5.out⟩, by simp [intOf]; omega⟩
              · have HIN : Hid (StrV wr u8 (foldV (patV d) FB c.1)) := by
                  have := hs.out
                  rwa [List.take_of_length_le (by rw [HNP.out]; omega)] at this
                clear hs
                go_wp2_with fail
                refine (hL _ _ c.2 _ (foldV (patV d) FB c.1) (RB.out _ HB.out) HIN.out wc2 LIN.out).mono ?_
                rintro e w4 ⟨u4', rfl, ho4, hb4⟩
                have HB4 : Hid (Below w.heap.size w w4) := HB.out.trans (hb4.mono HB.out.size)
                have SV : Hid (StrV w4 u5 OI) := (ho.out.next hb4).strV OJ.out
                have SR : Hid (StrR w4 u4' (listV (freeV d) (bndV d) (foldV (patV d) FB c.1) c.2)) := ho4.strR (OBD.out _)
                have lbd := LBD.out (foldV (patV d) FB c.1)
                have SF4 : Hid (StrV w4 u1 FB) := hsf.out.below hb4
                have bk4 : Hid (Blk w4 w.heap.size #[.int .i64 kx, .int .i64 nx, .string tx, .string mx, .slice p n cap, .slice (some ⟨gc, oc, none⟩) nc capc] 73) := hbk.out.next hb4
                clear hb4 ho4 xa5 xc0 xc1
                go_wp2_with fail
                refine (once_any _ _ _ OI _ SV.out SR.out (by omega)).mono ?_
                rintro e w5 ⟨u5', rfl, ho5, hb5⟩
                have HB5 : Hid (Below w.heap.size w w5) := HB4.out.trans (hb5.mono HB4.out.size)
                have HO5 : Hid (OwnS w5 w.heap.size u5' (onceS OI (listV (freeV d) (bndV d) (foldV (patV d) FB c.1) c.2))) := ho5.base HB4.out.size
                have SF5 : Hid (StrV w5 u1 FB) := SF4.out.below hb5
                have bk5 : Hid (Blk w5 w.heap.size #[.int .i64 kx, .int .i64 nx, .string tx, .string mx, .slice p n cap, .slice (some ⟨gc, oc, none⟩) nc capc] 73) := bk4.out.next hb5
                clear hb5 ho5
                go_wp2_with fail
                exact ⟨⟨i + 1, by omega, by go_num, by show OwnS _ _ _ _; rw [HCI.out]; exact HO5.out, SF5.out, bk5.out, HB5.out⟩, by simp [intOf]; omega⟩
          · have HF : Hid (OwnS wr w.heap.size u5 (cl.foldl (clF (freeV d) (bndV d) (patV d) (foldV (bndV d) B ks)) (listV (freeV d) (bndV d) B ks))) := by
              have := hoi.out
              rwa [List.take_of_length_le (by rw [HNC.out]; omega)] at this
            clear hoi
            go_wp2_with fail
            go_ret
            exact ⟨_, rfl, HF.out, HBi.out⟩

theorem free_of {d : Nat} (hF : FrC d) : FrC (d + 1) := by
  intro w cs x bv B h hB hwt hbt
  obtain ⟨kx, nx, tx, mx, ks, cl⟩ := x
  by_cases h2 : kx = 2
  · subst h2
    exact free_var w cs nx tx mx ks cl bv B h hB
  · by_cases h92 : kx = 9 ∧ ks.length = 2
    · obtain ⟨rfl, hl⟩ := h92
      match ks, hl with
      | [ya, yb], _ => exact free_two hF w cs nx tx mx ya yb cl bv B h hB hwt hbt
    · exact free_else (list_of hF) w cs kx nx tx mx ks cl bv B h2 h92 h hB hwt hbt
theorem free_all : ∀ d, FrC d
  | 0 => fun w cs x bv B h _ _ _ => h.elim
  | d + 1 => free_of (free_all d)
theorem list_all (d : Nat) : LsC d := list_of (free_all d)
end Go.Proofs.YtigfmdfgioccjaaGreatDoor
/-
  The specification's l04Sorted: names, ascending, each once.
-/
namespace Go.Proofs.YtigfmdfgioccjaaGreatDoor
open Go.ChangeShapes Go.WideShapes Go.ChangeAt Go.RowKit
set_option linter.unusedVariables false
set_option maxRecDepth 100000

theorem step_append_own {P : Program} (w : World) {ops : Array Oper} {o : Oper} {a : Act} {K : Act → World → Prop} {Q : Exit → Act → World → Prop} {E : Prop} (hgd : o.guard = none) (s x : Operand) (t : TypeId)
    (ho : o.op = .call { callee := .builtin .append, args := #[s, x], argTypes := #[t, t] })
    (base : Nat) (e : TypeId) (i : TypeInfo) (z : Value) (size bytes : Nat) (ht : P.underlying t = some (.slice e)) (hi : P.info? e = some i) (hz : i.zero = some z)
    (hsize : i.size = size) (hby : i.bytes = bytes) (hzs : z.cells.size = size) (hsz : 0 < size)
    (v : Value) (n : Nat) (xs : List Value) (hs : a.eval s = v) (hown : w.ownsRow base e size v n xs)
    (ad : Addr) (m c : Nat) (news : List Value) (hx : a.eval x = .slice (some ad) m c) (hl : news.length = m * size) (hnews : ∀ j u, news[j]? = some u → w.cell? (ad.add j) = some u) (h1 : ∀ u ∈ news, u.oneCell' = true)
    (h63 : n + m ≤ maxLen) (hbytes : (n + m) * bytes ≤ 140737488355328) (hbase : base ≤ w.heap.size)
    (h : ∀ v' w', w'.ownsRow base e size v' (n + m) (xs ++ news) → w.grownBy w' v.ownBlock → (v' = .slice none 0 0 ↔ v = .slice none 0 0 ∧ m = 0) → K (a.put o.dst v') w') :
    if Region.wanted o (yielded ops a.tmps) = true then Oper.wp P o a w K Q else E := by
  have hw : Region.wanted o (yielded ops a.tmps) = true := by simp [Region.wanted, hgd]
  rw [if_pos hw]
  exact wp_append_own w s x t ho base e i z size bytes ht hi hz hsize hby hzs hsz v n xs hs hown ad m c news hx hl hnews h1 h63 hbytes hbase h

def ltS (a b : ByteArray) : Bool := Op.bytesLess a.toList b.toList
/-- One more name among ascending ones. -/
def insS : List ByteArray → ByteArray → List ByteArray
  | [], s => [s]
  | x :: xs, s => if ltS x s then x :: insS xs s else if x.toList = s.toList then x :: xs else s :: x :: xs
def sortS (l : List ByteArray) : List ByteArray := l.foldl insS []
theorem insS_at : ∀ (l : List ByteArray) (s : ByteArray) (k : Nat), k ≤ l.length → (∀ j x, j < k → l[j]? = some x → ltS x s = true) → (∀ x, l[k]? = some x → ltS x s = false) →
    insS l s = (match l[k]? with | some x => if x.toList = s.toList then l else l.take k ++ s :: l.drop k | none => l.take k ++ s :: l.drop k)
  | [], s, k, hk, h1, h2 => by
    obtain rfl : k = 0 := by simpa using hk
    rfl
  | x :: xs, s, 0, hk, h1, h2 => by
    have h := h2 x rfl
    simp only [insS, h, Bool.false_eq_true, if_false, List.getElem?_cons_zero]
    split <;> rfl
  | x :: xs, s, k + 1, hk, h1, h2 => by
    have h := h1 0 x (by omega) rfl
    have ih := insS_at xs s k (by simpa using hk) (fun j y hj hy => h1 (j + 1) y (by omega) (by simpa using hy)) (fun y hy => h2 y (by simpa using hy))
    simp only [insS, h, if_true, List.getElem?_cons_succ]
    rw [ih]
    cases hk : xs[k]? with
    | none => rfl
    | some y =>
      simp only
      split <;> rfl
theorem insS_length (l : List ByteArray) (s : ByteArray) : (insS l s).length ≤ l.length + 1 := by
  induction l with
  | nil => simp [insS]
  | cons x xs ih =>
    unfold insS
    split
    · simp only [List.length_cons]; omega
    · split <;> simp
theorem insS_mem (l : List ByteArray) (s : ByteArray) : ∀ y ∈ insS l s, y = s ∨ y ∈ l := by
  induction l with
  | nil => intro y hy; simp [insS] at hy; exact .inl hy
  | cons x xs ih =>
    intro y hy
    unfold insS at hy
    split at hy
    · rcases List.mem_cons.1 hy with rfl | hy
      · exact .inr (by simp)
      · rcases ih y hy with h | h
        · exact .inl h
        · exact .inr (by simp [h])
    · split at hy
      · exact .inr hy
      · rcases List.mem_cons.1 hy with rfl | hy
        · exact .inl rfl
        · exact .inr hy
theorem sortS_snoc (l : List ByteArray) (k : Nat) (s : ByteArray) (h : l[k]? = some s) : sortS (l.take (k + 1)) = insS (sortS (l.take k)) s := by
  unfold sortS; rw [List.take_add_one, h]; simp
theorem sortS_len (l : List ByteArray) : ∀ k, (sortS (l.take k)).length ≤ k := by
  intro k
  induction k with
  | zero => simp [sortS]
  | succ k ih =>
    cases h : l[k]? with
    | none =>
      rw [List.take_of_length_le (by have := List.getElem?_eq_none_iff.1 h; omega)] at *
      omega
    | some s => rw [sortS_snoc l k s h]; have := insS_length (sortS (l.take k)) s; omega
theorem sortS_mem (l : List ByteArray) : ∀ k, ∀ y ∈ sortS (l.take k), y ∈ l := by
  intro k
  induction k with
  | zero => intro y hy; simp [sortS] at hy
  | succ k ih =>
    intro y hy
    cases h : l[k]? with
    | none =>
      refine ih y ?_
      rwa [List.take_of_length_le (by have := List.getElem?_eq_none_iff.1 h; omega), ← List.take_of_length_le (l := l) (i := k) (by have := List.getElem?_eq_none_iff.1 h; omega)] at hy
    | some s =>
      rw [sortS_snoc l k s h] at hy
      rcases insS_mem _ _ y hy with rfl | hy
      · exact List.mem_of_getElem? h
      · exact ih y hy
end Go.Proofs.YtigfmdfgioccjaaGreatDoor
/-
  The specification's l04Sorted, walked.
-/
namespace Go.Proofs.YtigfmdfgioccjaaGreatDoor
open Go.ChangeShapes Go.WideShapes Go.ChangeAt Go.RowKit
set_option linter.unusedVariables false
set_option maxRecDepth 100000

theorem OwnS.form {w : World} {B : Nat} {v : Value} {l : List ByteArray} (h : OwnS w B v l) (hn : v ≠ .slice none 0 0) : ∃ g cap, v = .slice (some ⟨g, 0, none⟩) l.length cap ∧ l.length ≤ cap ∧ cap ≤ maxLen ∧ B ≤ g ∧ g < w.heap.size := by
  rcases h.1.2 with ⟨hv, _⟩ | ⟨g, cap, cur, hv, hB, hg, h1, h2, _⟩
  · exact absurd hv hn
  · exact ⟨g, cap, hv, h1, h2, hB, (Array.getElem?_eq_some_iff.1 hg).1⟩
theorem OwnS.cellS {w : World} {B g n cap : Nat} {l : List ByteArray} (h : OwnS w B (.slice (some ⟨g, 0, none⟩) n cap) l) (hn : l.length = n) (k : Nat) (x : ByteArray) (hk : l[k]? = some x) : w.cell? ⟨g, k, none⟩ = some (.string x) := by
  subst hn
  exact (h.1.cellAt k (by have := (List.getElem?_eq_some_iff.1 hk).1; omega)).trans (by simp [strs, hk])
theorem lit0_owns {W : World} {B b : Nat} (h : W.heap[b]? = some (.cells #[] 9)) (hB : B ≤ b) : W.ownsRow B 9 1 (.slice (some ⟨b, 0, none⟩) 0 0) 0 [] :=
  ⟨rfl, .inr ⟨b, 0, #[], rfl, hB, h, Nat.le_refl _, Nat.zero_le _, rfl, rfl⟩⟩
theorem lit_at1 (W : World) (o o' : Obj) : ((W.alloc o).alloc o').drew.heap[W.heap.size + 1]? = some o' := by
  show ((W.heap.push o).push o')[W.heap.size + 1]? = some o'
  have : (W.heap.push o).size = W.heap.size + 1 := by simp
  rw [← this, Array.getElem?_push_size]
theorem lit1_at (W : World) (s : ByteArray) (o : Obj) (b : Nat) (hb : b = W.heap.size + 1) : ((W.alloc o).alloc (.cells #[.string s] 9)).drew.cell? ⟨b, 0, none⟩ = some (.string s) := by
  subst hb
  exact Blk.cell (cs := #[.string s]) (t := 9) (lit_at1 W o _) 0 _ rfl
theorem lit1_old (W : World) (s : ByteArray) (o : Obj) : ((W.alloc (.cells #[.string s] 9)).alloc o).drew.cell? ⟨W.heap.size, 0, none⟩ = some (.string s) :=
  Blk.cell (cs := #[.string s]) (t := 9) ((Blk.new (w := W)).alloc (o := o)) 0 _ rfl
theorem one_at {W : World} {b : Nat} {s : ByteArray} (h : W.cell? ⟨b, 0, none⟩ = some (.string s)) : ∀ j u, (strs [s])[j]? = some u → W.cell? ((⟨b, 0, none⟩ : Addr).add j) = some u := by
  intro j u hj
  match j, hj with
  | 0, hj => simp [strs] at hj; subst hj; exact h
theorem news_of {W W0 : World} {B g n cap : Nat} {J : List ByteArray} (h : OwnS W0 B (.slice (some ⟨g, 0, none⟩) n cap) J) (hn : J.length = n) (he : W.heap[g]? = W0.heap[g]?) (a : Nat) : ∀ j u, (strs (J.take a))[j]? = some u → W.cell? ((⟨g, 0, none⟩ : Addr).add j) = some u := by
  intro j u hj
  have ea : (⟨g, 0, none⟩ : Addr).add j = ⟨g, j, none⟩ := by cases j <;> simp [Addr.add]
  rw [ea, World.cell?_of_block he]
  simp only [strs, List.map_take, List.getElem?_take] at hj
  split at hj
  · rw [List.getElem?_map, Option.map_eq_some_iff] at hj
    obtain ⟨x, hx, rfl⟩ := hj
    exact h.cellS hn j x hx
  · cases hj
theorem news_from {W W0 : World} {B g n cap : Nat} {J : List ByteArray} (h : OwnS W0 B (.slice (some ⟨g, 0, none⟩) n cap) J) (hn : J.length = n) (he : W.heap[g]? = W0.heap[g]?) (a oa : Nat) (ho : a < J.length → oa = a) : ∀ j u, (strs (J.drop a))[j]? = some u → W.cell? ((⟨g, oa, none⟩ : Addr).add j) = some u := by
  intro j u hj
  simp only [strs, List.map_drop, List.getElem?_drop, List.getElem?_map, Option.map_eq_some_iff] at hj
  obtain ⟨x, hx, rfl⟩ := hj
  have hlt := (List.getElem?_eq_some_iff.1 hx).1
  obtain rfl := ho (by omega)
  have ea : (⟨g, oa, none⟩ : Addr).add j = ⟨g, oa + j, none⟩ := by cases j <;> simp [Addr.add]
  rw [ea, World.cell?_of_block he]
  exact h.cellS hn (oa + j) x hx
theorem own_nextS {w w' : World} {B c n : Nat} {e : TypeId} {v : Value} {xs : List Value} (h : w.ownsRow B e c v n xs) (hb : Below w.heap.size w w') : w'.ownsRow B e c v n xs := by
  refine ⟨h.1, ?_⟩
  rcases h.2 with hn | ⟨g, cap, cur, hv, hB, hg, hr⟩
  · exact .inl hn
  · exact .inr ⟨g, cap, cur, hv, hB, (hb.block g (Array.getElem?_eq_some_iff.1 hg).1).trans hg, hr⟩
theorem below_own {N : Nat} {a b c : World} {v : Value} {e : TypeId} {k n : Nat} {xs : List Value} (h : Below N a b) (hN : N ≤ a.heap.size) (ho : b.ownsRow N e k v n xs) (hg : b.grownBy c v.ownBlock) : Below N a c := by
  refine ⟨hg.os.trans h.os, hg.tape.trans h.tape, hg.output.trans h.output, Nat.le_trans h.size hg.size, fun j hj => ?_⟩
  refine (hg.block j (Nat.lt_of_lt_of_le hj (Nat.le_trans hN h.size)) (fun e => ?_)).trans (h.block j hj)
  rcases ho.2 with hn | ⟨g', cap', cur, hv', hB, hg', _⟩
  · rw [hn.1] at e; cases e
  · rw [hv'] at e
    simp [Value.ownBlock] at e
    omega

set_option maxHeartbeats 16000000 in
theorem sorted_any (w : World) (v : Value) (xs : List ByteArray) (h : StrR w v xs) (hl : xs.length ≤ 2097152) :
    Calls Tryz.prog 53 #[v] w fun e w' => ∃ u, e = .returned u ∧ OwnS w' w.heap.size u (sortS xs) ∧ Below w.heap.size w w' := by
  obtain ⟨i0, hi, hz0, hz1, hz2⟩ := info_parts info_str
  obtain ⟨p, cap, rfl, hcl, hcm, hx⟩ := h
  have HX : Hid (∀ k x, xs[k]? = some x → ∃ g off, p = some ⟨g, off, none⟩ ∧ g < w.heap.size ∧ w.cell? ⟨g, off + k, none⟩ = some (.string x)) := fun k x hk => by
    obtain ⟨g, off, e, _, hg, hat⟩ := hx (by intro e; rw [e] at hk; simp at hk)
    obtain ⟨cs, _, hcs, rfl, _⟩ := hat k x hk
    have := hcs 0 (by decide)
    simp only [Nat.mul_one, Nat.add_zero, List.getElem?_cons_zero] at this
    exact ⟨g, off, e, hg, this⟩
  clear hx
  have O0 : Hid (OwnS (w.alloc (.cells #[] 9)) w.heap.size (.slice (some ⟨w.heap.size, 0, none⟩) 0 0) []) := OwnS.fresh
  have B0 : Hid (Below w.heap.size w (w.alloc (.cells #[] 9))) := (Below.refl _ _).alloc (Nat.le_refl _) _
  generalize hn : xs.length = n at *
  have HN : Hid (xs.length = n) := hn
  clear hn
  go_enter Tryz.func53, Tryz.ntmps53
  go_wp2_with fail
  go_loopw [3, 4] (fun ov iv wr => ∃ k : Nat, k ≤ n ∧ iv = .int .i64 k ∧ Hid (OwnS wr w.heap.size ov (sortS (xs.take k)) ∧ ov ≠ .slice none 0 0) ∧ Hid (Below w.heap.size w wr)) (fun _ iv _ => n - (intOf iv).toNat)
  case atStart => exact ⟨0, Nat.zero_le _, rfl, ⟨O0.out, by simp⟩, B0.out⟩
  case round =>
    clear O0 B0
    obtain ⟨k, hk, rfl, ho, HB⟩ := hrel
    obtain ⟨g3, c3, hu3, hc3, hc3', hB3, hg3⟩ := OwnS.form ho.out.1 ho.out.2
    subst hu3
    by_cases hlt : k < n
    · obtain ⟨s, hsk⟩ : ∃ s, xs[k]? = some s := ⟨xs[k]'(by rw [HN.out]; exact hlt), List.getElem?_eq_getElem _⟩
      obtain ⟨gx, ox, rfl, hgx, cx⟩ := HX.out k s hsk
      have hjl := sortS_len xs k
      have HJ : Hid (sortS (xs.take (k + 1)) = insS (sortS (xs.take k)) s) := sortS_snoc xs k s hsk
      generalize hJ : sortS (xs.take k) = J at *
      have HO : Hid (OwnS wr w.heap.size (.slice (some ⟨g3, 0, none⟩) J.length c3) J) := ho.out.1
      have HCX : Hid (w.cell? ⟨gx, ox + k, none⟩ = some (.string s)) := cx
      generalize hm : J.length = m at *
      have HM : Hid (J.length = m) := hm
      clear ho cx hJ hm
      go_wp2_with fail
      go_loopw [5] (fun av wq => ∃ (a q : Nat), a ≤ m ∧ av = .int .i64 a ∧ wq = wr.drewN q ∧ Hid (∀ j x, j < a → J[j]? = some x → ltS x s = true)) (fun av _ => m - (intOf av).toNat)
      case atStart => exact ⟨0, 0, Nat.zero_le _, rfl, rfl, fun j x hj => by omega⟩
      case round =>
        obtain ⟨a, q, ha, rfl, rfl, HA⟩ := hrel
        have cx : wr.cell? ⟨gx, ox + k, none⟩ = some (.string s) := (HB.out.cell (p := ⟨gx, _, none⟩) hgx).trans HCX.out
        by_cases hlm : a < m
        · obtain ⟨y, hya⟩ : ∃ y, J[a]? = some y := ⟨J[a]'(by rw [HM.out]; exact hlm), List.getElem?_eq_getElem _⟩
          have cy : wr.cell? ⟨g3, a, none⟩ = some (.string y) := HO.out.cellS HM.out a y hya
          cases hys : Op.bytesLess y.toList s.toList with
          | true =>
            go_wp2_with fail
            go_quiet (fail)
            go_wp2_with fail
            refine ⟨⟨a + 1, q + nq, by omega, by go_num, rfl, fun j x hj hx => ?_⟩, by simp [intOf]; omega⟩
            by_cases hja : j < a
            · exact HA.out j x hja hx
            · obtain rfl : j = a := by omega
              obtain rfl : y = x := Option.some.inj (hya.symm.trans hx)
              exact hys
          | false =>
            go_wp2_with fail
            go_quiet (fail)
            go_wp2_with fail
            have cxA : ((wr.drewN q).drewN nq).cell? ⟨gx, ox + k, none⟩ = some (.string s) := cx
            have cyA : ((wr.drewN q).drewN nq).cell? ⟨g3, a, none⟩ = some (.string y) := cy
            have HOA : Hid (OwnS ((wr.drewN q).drewN nq) w.heap.size (.slice (some ⟨g3, 0, none⟩) m c3) J) := HO.out
            have HBA : Hid (Below w.heap.size w ((wr.drewN q).drewN nq)) := below_drewN (below_drewN HB.out q) nq
            clear cx cy HO HB hg3
            generalize (wr.drewN q).drewN nq = wA at cxA cyA HOA HBA ⊢
            have hne : ((a : Int) == (m : Int)) = false := by simp; omega
            have hne2 : (a == m) = false := by simp; omega
            have HIN : Hid (insS J s = if y.toList = s.toList then J else J.take a ++ s :: J.drop a) := by
              have := insS_at J s a (by rw [HM.out]; exact ha) HA.out (fun x hx => by obtain rfl : y = x := Option.some.inj (hya.symm.trans hx); exact hys)
              rw [hya] at this
              exact this
            cases hyq : (y.toList == s.toList) with
            | true =>
              have HIJ : Hid (sortS (xs.take (k + 1)) = J) := by
                show _ = _
                rw [HJ.out, HIN.out, if_pos (beq_iff_eq.1 hyq)]
              go_quiet (fail)
              go_wp2_with fail
              exact ⟨⟨k + 1, by omega, by go_num, ⟨by rw [HIJ.out]; exact HOA.out, by simp⟩, below_drewN HBA.out nq⟩, by simp [intOf]; omega⟩
            | false =>
              go_quiet (fail)
              go_wp2_with fail
              have hac : a ≤ c3 := by omega
              have LT : Hid ((strs (J.take a)).length = a * 1) := by show _ = _; rw [strs_length, List.length_take, HM.out]; omega
              have LD : Hid ((strs (J.drop a)).length = (m - a) * 1) := by show _ = _; rw [strs_length, List.length_drop, HM.out]; omega
              have HOW : Hid (OwnS (wA.drewN nq) w.heap.size (.slice (some ⟨g3, 0, none⟩) m c3) J) := HOA.out
              have HBW : Hid (Below w.heap.size w (wA.drewN nq)) := below_drewN HBA.out nq
              have cxW : (wA.drewN nq).cell? ⟨gx, ox + k, none⟩ = some (.string s) := cxA
              clear cxA cyA HOA HBA
              generalize wA.drewN nq = W0 at HOW HBW cxW ⊢
              have hg3W : g3 < W0.heap.size := (HOW.out.off rfl).2
              have hgxW : gx < W0.heap.size := Nat.lt_of_lt_of_le hgx HBW.out.size
              obtain ⟨oa, hoe, hoa⟩ : ∃ oa, oa = a ∧ (a < J.length → oa = a) := ⟨_, rfl, (fun _ => rfl)⟩
              go_region_held_law (fun w' => w'.cell? ⟨gx, ox + k, none⟩ = some (.string s))
                (first | assumption | go_keep | (go_split_ands; exact cell_next ((Below.refl _ _).alloc (Nat.le_refl _) _) (by assumption)))
                (first
                  | (refine step_append_own (W0.alloc (.cells #[] 9)).drew (by rfl) _ _ _ (by rfl) W0.heap.size 9 i0 (.string ⟨#[]⟩) 1 16 Tryz.underlying48 hi hz0 hz1 hz2 rfl (by decide) (.slice (some ⟨W0.heap.size, 0, none⟩) 0 0) 0 [] (by rfl) (lit0_owns (W := (W0.alloc (.cells #[] 9)).drew) (b := W0.heap.size) (Blk.new (w := W0)) (by simp)) ⟨g3, 0, none⟩ a c3 (strs (J.take a)) (by rfl) LT.out (news_of HOW.out HM.out (((Below.refl W0.heap.size W0).alloc (Nat.le_refl _) (.cells #[] 9)).drew.block g3 hg3W) a) (strs_oneCell _) (by unfold maxLen; omega) (by omega) ((Below.refl W0.heap.size W0).alloc (Nat.le_refl _) (.cells #[] 9)).drew.size ?_; intro v1 w1 hown1 hgr1 hv1; have O1 : Hid (w1.ownsRow W0.heap.size 9 1 v1 (0 + a) ([] ++ strs (J.take a))) := hown1; have K1 : Hid (Below W0.heap.size W0 w1) := below_own ((Below.refl W0.heap.size W0).alloc (Nat.le_refl _) (.cells #[] 9)).drew (Nat.le_refl _) (lit0_owns (W := (W0.alloc (.cells #[] 9)).drew) (b := W0.heap.size) (Blk.new (w := W0)) (by simp)) hgr1; have cx1 := cell_next K1.out cxW)
                  | (refine step_append_own ((W0.alloc (.cells #[] 9)).alloc (.cells #[.string s] 9)).drew (by rfl) _ _ _ (by rfl) W0.heap.size 9 i0 (.string ⟨#[]⟩) 1 16 Tryz.underlying48 hi hz0 hz1 hz2 rfl (by decide) (.slice (some ⟨W0.heap.size, 0, none⟩) 0 0) 0 [] (by rfl) (lit0_owns (W := ((W0.alloc (.cells #[] 9)).alloc (.cells #[.string s] 9)).drew) (b := W0.heap.size) ((Blk.new (w := W0)).alloc) (by simp)) ⟨g3, 0, none⟩ a c3 (strs (J.take a)) (by rfl) LT.out (news_of HOW.out HM.out ((((Below.refl W0.heap.size W0).alloc (Nat.le_refl _) (.cells #[] 9)).alloc (by simp) (.cells #[.string s] 9)).drew.block g3 hg3W) a) (strs_oneCell _) (by unfold maxLen; omega) (by omega) (((Below.refl W0.heap.size W0).alloc (Nat.le_refl _) (.cells #[] 9)).alloc (by simp) (.cells #[.string s] 9)).drew.size ?_; intro v1 w1 hown1 hgr1 hv1; have O1 : Hid (w1.ownsRow W0.heap.size 9 1 v1 (0 + a) ([] ++ strs (J.take a))) := hown1; have K1 : Hid (Below W0.heap.size W0 w1) := below_own (((Below.refl W0.heap.size W0).alloc (Nat.le_refl _) (.cells #[] 9)).alloc (by simp) (.cells #[.string s] 9)).drew (Nat.le_refl _) (lit0_owns (W := ((W0.alloc (.cells #[] 9)).alloc (.cells #[.string s] 9)).drew) (b := W0.heap.size) ((Blk.new (w := W0)).alloc) (by simp)) hgr1; have cx1 := cell_next K1.out cxW; have N1 : Hid (w1.cell? ⟨W0.heap.size + 1, 0, none⟩ = some (.string s)) := (World.cell?_of_block (hgr1.block (W0.heap.size + 1) (by simp) (by simp [Value.ownBlock]))).trans (lit1_at W0 s _ _ rfl))
                  | (refine step_append_own ((W0.alloc (.cells #[.string s] 9)).alloc (.cells #[] 9)).drew (by rfl) _ _ _ (by rfl) W0.heap.size 9 i0 (.string ⟨#[]⟩) 1 16 Tryz.underlying48 hi hz0 hz1 hz2 rfl (by decide) (.slice (some ⟨(W0.heap.size + 1), 0, none⟩) 0 0) 0 [] (by rfl) (lit0_owns (W := ((W0.alloc (.cells #[.string s] 9)).alloc (.cells #[] 9)).drew) (b := (W0.heap.size + 1)) (lit_at1 W0 _ _) (by simp)) ⟨g3, 0, none⟩ a c3 (strs (J.take a)) (by rfl) LT.out (news_of HOW.out HM.out ((((Below.refl W0.heap.size W0).alloc (Nat.le_refl _) (.cells #[.string s] 9)).alloc (by simp) (.cells #[] 9)).drew.block g3 hg3W) a) (strs_oneCell _) (by unfold maxLen; omega) (by omega) (((Below.refl W0.heap.size W0).alloc (Nat.le_refl _) (.cells #[.string s] 9)).alloc (by simp) (.cells #[] 9)).drew.size ?_; intro v1 w1 hown1 hgr1 hv1; have O1 : Hid (w1.ownsRow W0.heap.size 9 1 v1 (0 + a) ([] ++ strs (J.take a))) := hown1; have K1 : Hid (Below W0.heap.size W0 w1) := below_own (((Below.refl W0.heap.size W0).alloc (Nat.le_refl _) (.cells #[.string s] 9)).alloc (by simp) (.cells #[] 9)).drew (Nat.le_refl _) (lit0_owns (W := ((W0.alloc (.cells #[.string s] 9)).alloc (.cells #[] 9)).drew) (b := (W0.heap.size + 1)) (lit_at1 W0 _ _) (by simp)) hgr1; have cx1 := cell_next K1.out cxW; have N1 : Hid (w1.cell? ⟨W0.heap.size, 0, none⟩ = some (.string s)) := (World.cell?_of_block (hgr1.block W0.heap.size (by simp; omega) (by simp [Value.ownBlock]))).trans (lit1_old W0 s _))
                  | (refine step_append_own (w1.alloc (.cells #[.string s] 9)) (by rfl) _ _ _ (by rfl) W0.heap.size 9 i0 (.string ⟨#[]⟩) 1 16 Tryz.underlying48 hi hz0 hz1 hz2 rfl (by decide) v1 (0 + a) ([] ++ strs (J.take a)) (by rfl) (own_nextS O1.out ((Below.refl _ _).alloc (Nat.le_refl _) (.cells #[.string s] 9))) ⟨w1.heap.size, 0, none⟩ 1 1 (strs [s]) (by rfl) (by rfl) (one_str w1 s _ rfl) (strs_oneCell _) (by unfold maxLen; omega) (by omega) (K1.out.alloc K1.out.size (.cells #[.string s] 9)).size ?_; intro v2 w2 hown2 hgr2 hv2; have K2 : Hid (Below W0.heap.size W0 w2) := below_own (K1.out.alloc K1.out.size (.cells #[.string s] 9)) (Nat.le_refl _) (own_nextS O1.out ((Below.refl _ _).alloc (Nat.le_refl _) (.cells #[.string s] 9))) hgr2; have O2 : Hid (w2.ownsRow W0.heap.size 9 1 v2 (0 + a + 1) ([] ++ strs (J.take a) ++ strs [s])) := hown2; have cx2 := cell_next K2.out cxW)
                  | (refine step_append_own w1 (by rfl) _ _ _ (by rfl) W0.heap.size 9 i0 (.string ⟨#[]⟩) 1 16 Tryz.underlying48 hi hz0 hz1 hz2 rfl (by decide) v1 (0 + a) ([] ++ strs (J.take a)) (by rfl) O1.out ⟨(W0.heap.size + 1), 0, none⟩ 1 1 (strs [s]) (by rfl) (by rfl) (one_at N1.out) (strs_oneCell _) (by unfold maxLen; omega) (by omega) K1.out.size ?_; intro v2 w2 hown2 hgr2 hv2; have K2 : Hid (Below W0.heap.size W0 w2) := below_own K1.out (Nat.le_refl _) O1.out hgr2; have O2 : Hid (w2.ownsRow W0.heap.size 9 1 v2 (0 + a + 1) ([] ++ strs (J.take a) ++ strs [s])) := hown2; have cx2 := cell_next K2.out cxW)
                  | (refine step_append_own w1 (by rfl) _ _ _ (by rfl) W0.heap.size 9 i0 (.string ⟨#[]⟩) 1 16 Tryz.underlying48 hi hz0 hz1 hz2 rfl (by decide) v1 (0 + a) ([] ++ strs (J.take a)) (by rfl) O1.out ⟨W0.heap.size, 0, none⟩ 1 1 (strs [s]) (by rfl) (by rfl) (one_at N1.out) (strs_oneCell _) (by unfold maxLen; omega) (by omega) K1.out.size ?_; intro v2 w2 hown2 hgr2 hv2; have K2 : Hid (Below W0.heap.size W0 w2) := below_own K1.out (Nat.le_refl _) O1.out hgr2; have O2 : Hid (w2.ownsRow W0.heap.size 9 1 v2 (0 + a + 1) ([] ++ strs (J.take a) ++ strs [s])) := hown2; have cx2 := cell_next K2.out cxW)
                  | (refine step_append_own w2 (by rfl) _ _ _ (by rfl) W0.heap.size 9 i0 (.string ⟨#[]⟩) 1 16 Tryz.underlying48 hi hz0 hz1 hz2 rfl (by decide) v2 (0 + a + 1) ([] ++ strs (J.take a) ++ strs [s]) (by rfl) O2.out ⟨g3, oa, none⟩ (m - a) (c3 - a) (strs (J.drop a)) (by first | rfl | (simp [Act.eval, Act.put, hoe]; omega) | (simp [Act.eval, Act.put, hoe]; split <;> rfl)) LD.out (news_from HOW.out HM.out (K2.out.block g3 hg3W) a oa hoa) (strs_oneCell _) (by unfold maxLen; omega) (by omega) K2.out.size ?_; intro v3 w3 hown3 hgr3 hv3; have K3 : Hid (Below W0.heap.size W0 w3) := below_own K2.out (Nat.le_refl _) O2.out hgr3; have O3 : Hid (w3.ownsRow W0.heap.size 9 1 v3 (0 + a + 1 + (m - a)) ([] ++ strs (J.take a) ++ strs [s] ++ strs (J.drop a))) := hown3; have cx3 := cell_next K3.out cxW))
              all_goals
                go_split_ands
                have HO9 : Hid (OwnS w3 w.heap.size v3 (sortS (xs.take (k + 1))) ∧ v3 ≠ .slice none 0 0) := by
                  have h1 : sortS (xs.take (k + 1)) = J.take a ++ s :: J.drop a := by rw [HJ.out]; exact (HIN.out.trans (if_neg (by intro e; rw [e] at hyq; simp at hyq)))
                  have h2 := O3.out
                  have h3 : ([] ++ strs (J.take a) ++ strs [s] ++ strs (J.drop a)) = strs (J.take a ++ s :: J.drop a) := by simp [strs]
                  have h4 : 0 + a + 1 + (m - a) = (J.take a ++ s :: J.drop a).length := by
                    rw [List.length_append, List.length_cons, List.length_take, List.length_drop, HM.out]; omega
                  rw [h3, h4] at h2
                  refine ⟨?_, fun e => ?_⟩
                  · rw [h1]; exact OwnS.base ⟨h2, K3.out.size⟩ HBW.out.size
                  · have h5 := h2.2
                    rw [e] at h5
                    rcases h5 with ⟨_, h6⟩ | ⟨g', cap', cur, h6, _⟩
                    · simp at h6
                    · simp at h6
                have HB9 : Hid (Below w.heap.size w w3) := HBW.out.trans (K3.out.mono HBW.out.size)
                clear O1 O2 O3 K1 K2 K3 hown1 hown2 hown3 hgr1 hgr2 hgr3 hv1 hv2 hv3 cx1 cx2 cx3
                go_wp2_with fail
                exact ⟨⟨k + 1, by omega, by go_num, HO9.out, HB9.out⟩, by simp [intOf]; omega⟩
        · obtain rfl : m = a := by omega
          have heq : ((m : Int) == (m : Int)) = true := by simp
          have HIN : Hid (insS J s = J.take m ++ s :: J.drop m) := by
            have hnone : J[m]? = none := List.getElem?_eq_none (by rw [HM.out]; exact Nat.le_refl _)
            have := insS_at J s m (by rw [HM.out]; exact Nat.le_refl _) HA.out (fun x hx => by rw [hnone] at hx; cases hx)
            rw [hnone] at this
            exact this
          clear heq ha hlm
          go_wp2_with fail
          go_quiet (fail)
          go_wp2_with fail
          have cxA : ((wr.drewN q).drewN nq).cell? ⟨gx, ox + k, none⟩ = some (.string s) := cx
          have HOA : Hid (OwnS ((wr.drewN q).drewN nq) w.heap.size (.slice (some ⟨g3, 0, none⟩) m c3) J) := HO.out
          have HBA : Hid (Below w.heap.size w ((wr.drewN q).drewN nq)) := below_drewN (below_drewN HB.out q) nq
          clear cx HO HB hg3
          generalize (wr.drewN q).drewN nq = wA at cxA HOA HBA ⊢
          go_quiet (fail)
          go_wp2_with fail
          have hac : m ≤ c3 := by omega
          have LT : Hid ((strs (J.take m)).length = m * 1) := by show _ = _; rw [strs_length, List.length_take, HM.out]; omega
          have LD : Hid ((strs (J.drop m)).length = (m - m) * 1) := by show _ = _; rw [strs_length, List.length_drop, HM.out]; omega
          have HOW : Hid (OwnS (wA.drewN nq) w.heap.size (.slice (some ⟨g3, 0, none⟩) m c3) J) := HOA.out
          have HBW : Hid (Below w.heap.size w (wA.drewN nq)) := below_drewN HBA.out nq
          have cxW : (wA.drewN nq).cell? ⟨gx, ox + k, none⟩ = some (.string s) := cxA
          clear cxA HOA HBA
          generalize wA.drewN nq = W0 at HOW HBW cxW ⊢
          have hg3W : g3 < W0.heap.size := (HOW.out.off rfl).2
          have hgxW : gx < W0.heap.size := Nat.lt_of_lt_of_le hgx HBW.out.size
          obtain ⟨oa, hoe, hoa⟩ : ∃ oa, oa = (if c3 = m then 0 else m) ∧ (m < J.length → oa = m) := ⟨_, rfl, (fun h => absurd h (by rw [HM.out]; omega))⟩
          go_region_held_law (fun w' => w'.cell? ⟨gx, ox + k, none⟩ = some (.string s))
            (first | assumption | go_keep | (go_split_ands; exact cell_next ((Below.refl _ _).alloc (Nat.le_refl _) _) (by assumption)))
            (first
              | (refine step_append_own (W0.alloc (.cells #[] 9)).drew (by rfl) _ _ _ (by rfl) W0.heap.size 9 i0 (.string ⟨#[]⟩) 1 16 Tryz.underlying48 hi hz0 hz1 hz2 rfl (by decide) (.slice (some ⟨W0.heap.size, 0, none⟩) 0 0) 0 [] (by rfl) (lit0_owns (W := (W0.alloc (.cells #[] 9)).drew) (b := W0.heap.size) (Blk.new (w := W0)) (by simp)) ⟨g3, 0, none⟩ m c3 (strs (J.take m)) (by rfl) LT.out (news_of HOW.out HM.out (((Below.refl W0.heap.size W0).alloc (Nat.le_refl _) (.cells #[] 9)).drew.block g3 hg3W) m) (strs_oneCell _) (by unfold maxLen; omega) (by omega) ((Below.refl W0.heap.size W0).alloc (Nat.le_refl _) (.cells #[] 9)).drew.size ?_; intro v1 w1 hown1 hgr1 hv1; have O1 : Hid (w1.ownsRow W0.heap.size 9 1 v1 (0 + m) ([] ++ strs (J.take m))) := hown1; have K1 : Hid (Below W0.heap.size W0 w1) := below_own ((Below.refl W0.heap.size W0).alloc (Nat.le_refl _) (.cells #[] 9)).drew (Nat.le_refl _) (lit0_owns (W := (W0.alloc (.cells #[] 9)).drew) (b := W0.heap.size) (Blk.new (w := W0)) (by simp)) hgr1; have cx1 := cell_next K1.out cxW)
              | (refine step_append_own ((W0.alloc (.cells #[] 9)).alloc (.cells #[.string s] 9)).drew (by rfl) _ _ _ (by rfl) W0.heap.size 9 i0 (.string ⟨#[]⟩) 1 16 Tryz.underlying48 hi hz0 hz1 hz2 rfl (by decide) (.slice (some ⟨W0.heap.size, 0, none⟩) 0 0) 0 [] (by rfl) (lit0_owns (W := ((W0.alloc (.cells #[] 9)).alloc (.cells #[.string s] 9)).drew) (b := W0.heap.size) ((Blk.new (w := W0)).alloc) (by simp)) ⟨g3, 0, none⟩ m c3 (strs (J.take m)) (by rfl) LT.out (news_of HOW.out HM.out ((((Below.refl W0.heap.size W0).alloc (Nat.le_refl _) (.cells #[] 9)).alloc (by simp) (.cells #[.string s] 9)).drew.block g3 hg3W) m) (strs_oneCell _) (by unfold maxLen; omega) (by omega) (((Below.refl W0.heap.size W0).alloc (Nat.le_refl _) (.cells #[] 9)).alloc (by simp) (.cells #[.string s] 9)).drew.size ?_; intro v1 w1 hown1 hgr1 hv1; have O1 : Hid (w1.ownsRow W0.heap.size 9 1 v1 (0 + m) ([] ++ strs (J.take m))) := hown1; have K1 : Hid (Below W0.heap.size W0 w1) := below_own (((Below.refl W0.heap.size W0).alloc (Nat.le_refl _) (.cells #[] 9)).alloc (by simp) (.cells #[.string s] 9)).drew (Nat.le_refl _) (lit0_owns (W := ((W0.alloc (.cells #[] 9)).alloc (.cells #[.string s] 9)).drew) (b := W0.heap.size) ((Blk.new (w := W0)).alloc) (by simp)) hgr1; have cx1 := cell_next K1.out cxW; have N1 : Hid (w1.cell? ⟨W0.heap.size + 1, 0, none⟩ = some (.string s)) := (World.cell?_of_block (hgr1.block (W0.heap.size + 1) (by simp) (by simp [Value.ownBlock]))).trans (lit1_at W0 s _ _ rfl))
              | (refine step_append_own ((W0.alloc (.cells #[.string s] 9)).alloc (.cells #[] 9)).drew (by rfl) _ _ _ (by rfl) W0.heap.size 9 i0 (.string ⟨#[]⟩) 1 16 Tryz.underlying48 hi hz0 hz1 hz2 rfl (by decide) (.slice (some ⟨(W0.heap.size + 1), 0, none⟩) 0 0) 0 [] (by rfl) (lit0_owns (W := ((W0.alloc (.cells #[.string s] 9)).alloc (.cells #[] 9)).drew) (b := (W0.heap.size + 1)) (lit_at1 W0 _ _) (by simp)) ⟨g3, 0, none⟩ m c3 (strs (J.take m)) (by rfl) LT.out (news_of HOW.out HM.out ((((Below.refl W0.heap.size W0).alloc (Nat.le_refl _) (.cells #[.string s] 9)).alloc (by simp) (.cells #[] 9)).drew.block g3 hg3W) m) (strs_oneCell _) (by unfold maxLen; omega) (by omega) (((Below.refl W0.heap.size W0).alloc (Nat.le_refl _) (.cells #[.string s] 9)).alloc (by simp) (.cells #[] 9)).drew.size ?_; intro v1 w1 hown1 hgr1 hv1; have O1 : Hid (w1.ownsRow W0.heap.size 9 1 v1 (0 + m) ([] ++ strs (J.take m))) := hown1; have K1 : Hid (Below W0.heap.size W0 w1) := below_own (((Below.refl W0.heap.size W0).alloc (Nat.le_refl _) (.cells #[.string s] 9)).alloc (by simp) (.cells #[] 9)).drew (Nat.le_refl _) (lit0_owns (W := ((W0.alloc (.cells #[.string s] 9)).alloc (.cells #[] 9)).drew) (b := (W0.heap.size + 1)) (lit_at1 W0 _ _) (by simp)) hgr1; have cx1 := cell_next K1.out cxW; have N1 : Hid (w1.cell? ⟨W0.heap.size, 0, none⟩ = some (.string s)) := (World.cell?_of_block (hgr1.block W0.heap.size (by simp; omega) (by simp [Value.ownBlock]))).trans (lit1_old W0 s _))
              | (refine step_append_own (w1.alloc (.cells #[.string s] 9)) (by rfl) _ _ _ (by rfl) W0.heap.size 9 i0 (.string ⟨#[]⟩) 1 16 Tryz.underlying48 hi hz0 hz1 hz2 rfl (by decide) v1 (0 + m) ([] ++ strs (J.take m)) (by rfl) (own_nextS O1.out ((Below.refl _ _).alloc (Nat.le_refl _) (.cells #[.string s] 9))) ⟨w1.heap.size, 0, none⟩ 1 1 (strs [s]) (by rfl) (by rfl) (one_str w1 s _ rfl) (strs_oneCell _) (by unfold maxLen; omega) (by omega) (K1.out.alloc K1.out.size (.cells #[.string s] 9)).size ?_; intro v2 w2 hown2 hgr2 hv2; have K2 : Hid (Below W0.heap.size W0 w2) := below_own (K1.out.alloc K1.out.size (.cells #[.string s] 9)) (Nat.le_refl _) (own_nextS O1.out ((Below.refl _ _).alloc (Nat.le_refl _) (.cells #[.string s] 9))) hgr2; have O2 : Hid (w2.ownsRow W0.heap.size 9 1 v2 (0 + m + 1) ([] ++ strs (J.take m) ++ strs [s])) := hown2; have cx2 := cell_next K2.out cxW)
              | (refine step_append_own w1 (by rfl) _ _ _ (by rfl) W0.heap.size 9 i0 (.string ⟨#[]⟩) 1 16 Tryz.underlying48 hi hz0 hz1 hz2 rfl (by decide) v1 (0 + m) ([] ++ strs (J.take m)) (by rfl) O1.out ⟨(W0.heap.size + 1), 0, none⟩ 1 1 (strs [s]) (by rfl) (by rfl) (one_at N1.out) (strs_oneCell _) (by unfold maxLen; omega) (by omega) K1.out.size ?_; intro v2 w2 hown2 hgr2 hv2; have K2 : Hid (Below W0.heap.size W0 w2) := below_own K1.out (Nat.le_refl _) O1.out hgr2; have O2 : Hid (w2.ownsRow W0.heap.size 9 1 v2 (0 + m + 1) ([] ++ strs (J.take m) ++ strs [s])) := hown2; have cx2 := cell_next K2.out cxW)
              | (refine step_append_own w1 (by rfl) _ _ _ (by rfl) W0.heap.size 9 i0 (.string ⟨#[]⟩) 1 16 Tryz.underlying48 hi hz0 hz1 hz2 rfl (by decide) v1 (0 + m) ([] ++ strs (J.take m)) (by rfl) O1.out ⟨W0.heap.size, 0, none⟩ 1 1 (strs [s]) (by rfl) (by rfl) (one_at N1.out) (strs_oneCell _) (by unfold maxLen; omega) (by omega) K1.out.size ?_; intro v2 w2 hown2 hgr2 hv2; have K2 : Hid (Below W0.heap.size W0 w2) := below_own K1.out (Nat.le_refl _) O1.out hgr2; have O2 : Hid (w2.ownsRow W0.heap.size 9 1 v2 (0 + m + 1) ([] ++ strs (J.take m) ++ strs [s])) := hown2; have cx2 := cell_next K2.out cxW)
              | (refine step_append_own w2 (by rfl) _ _ _ (by rfl) W0.heap.size 9 i0 (.string ⟨#[]⟩) 1 16 Tryz.underlying48 hi hz0 hz1 hz2 rfl (by decide) v2 (0 + m + 1) ([] ++ strs (J.take m) ++ strs [s]) (by rfl) O2.out ⟨g3, oa, none⟩ (m - m) (c3 - m) (strs (J.drop m)) (by first | rfl | (simp [Act.eval, Act.put, hoe]; omega) | (simp [Act.eval, Act.put, hoe]; split <;> rfl)) LD.out (news_from HOW.out HM.out (K2.out.block g3 hg3W) m oa hoa) (strs_oneCell _) (by unfold maxLen; omega) (by omega) K2.out.size ?_; intro v3 w3 hown3 hgr3 hv3; have K3 : Hid (Below W0.heap.size W0 w3) := below_own K2.out (Nat.le_refl _) O2.out hgr3; have O3 : Hid (w3.ownsRow W0.heap.size 9 1 v3 (0 + m + 1 + (m - m)) ([] ++ strs (J.take m) ++ strs [s] ++ strs (J.drop m))) := hown3; have cx3 := cell_next K3.out cxW))
          all_goals
            go_split_ands
            have HO9 : Hid (OwnS w3 w.heap.size v3 (sortS (xs.take (k + 1))) ∧ v3 ≠ .slice none 0 0) := by
              have h1 : sortS (xs.take (k + 1)) = J.take m ++ s :: J.drop m := by rw [HJ.out]; exact HIN.out
              have h2 := O3.out
              have h3 : ([] ++ strs (J.take m) ++ strs [s] ++ strs (J.drop m)) = strs (J.take m ++ s :: J.drop m) := by simp [strs]
              have h4 : 0 + m + 1 + (m - m) = (J.take m ++ s :: J.drop m).length := by
                rw [List.length_append, List.length_cons, List.length_take, List.length_drop, HM.out]; omega
              rw [h3, h4] at h2
              refine ⟨?_, fun e => ?_⟩
              · rw [h1]; exact OwnS.base ⟨h2, K3.out.size⟩ HBW.out.size
              · have h5 := h2.2
                rw [e] at h5
                rcases h5 with ⟨_, h6⟩ | ⟨g', cap', cur, h6, _⟩
                · simp at h6
                · simp at h6
            have HB9 : Hid (Below w.heap.size w w3) := HBW.out.trans (K3.out.mono HBW.out.size)
            clear O1 O2 O3 K1 K2 K3 hown1 hown2 hown3 hgr1 hgr2 hgr3 hv1 hv2 hv3 cx1 cx2 cx3
            go_wp2_with fail
            exact ⟨⟨k + 1, by omega, by go_num, HO9.out, HB9.out⟩, by simp [intOf]; omega⟩
    · have HS : Hid (OwnS wr w.heap.size (.slice (some ⟨g3, 0, none⟩) (sortS (xs.take k)).length c3) (sortS xs)) := by
        have := ho.out.1
        rw [List.take_of_length_le (by rw [HN.out]; omega)] at this ⊢
        exact this
      clear ho
      go_wp2_with fail
      go_ret
      exact ⟨_, rfl, HS.out, HB.out⟩
end Go.Proofs.YtigfmdfgioccjaaGreatDoor
/-
  The specification's ClauseFree.
-/
namespace Go.Proofs.YtigfmdfgioccjaaGreatDoor
open Go.ChangeShapes Go.WideShapes Go.ChangeAt Go.RowKit
set_option linter.unusedVariables false
set_option maxRecDepth 100000

/-- What is free in a clause. -/
def cfV (d : Nat) (c : Cl) : List ByteArray := listV (freeV d) (bndV d) (foldV (patV d) [] c.1) c.2
theorem cfV_len (d : Nat) (c : Cl) : (cfV d c).length ≤ wtS (wtEx d) c.2 := listV_len d _ _

set_option maxHeartbeats 8000000 in
theorem specClauseFree_any (w : World) (d : Nat) (cs : List Value) (c : Cl) (h : HCl w All (HEx w All d) cs c) (hw : wtCl (wtEx d) c ≤ 1048576) :
    Calls Tryz.prog 31 #[.agg cs.toArray] w fun e w' => ∃ u, e = .returned u ∧ OwnS w' w.heap.size u (sortS (cfV d c)) ∧ Below w.heap.size w w' := by
  obtain ⟨pv, bdv, rfl, rp, rb⟩ := h
  have hc : wtCl (wtEx d) c = wtS (wtEx d) c.1 + wtS (wtEx d) c.2 := rfl
  have wc2 : wtS (wtEx d) c.2 ≤ 1048576 := by omega
  have EP : Hid (∀ y ∈ c.1, exS d y) := fun y hy => by
    obtain ⟨cs, h⟩ := rows_mem' rp y hy
    exact h.txts
  have EB : Hid (∀ y ∈ c.2, exS d y) := fun y hy => by
    obtain ⟨cs, h⟩ := rows_mem' rb y hy
    exact h.txts
  have RB : Hid (∀ w', Below w.heap.size w w' → Rows w' All 6 (HEx w' All d) bdv c.2) := fun w' hw => Rows.mono rb (SameOn.of_below hw) (fun _ h => h) (fun _ _ _ h => h.mono (SameOn.of_below hw) (fun _ h => h))
  obtain ⟨pp, capp, rfl, hclp, hcmp, hxp⟩ := rp
  obtain ⟨pb, capb, rfl, -⟩ := id rb
  have hnp : c.1.length ≤ 9223372036854775807 := by unfold maxLen at hcmp; omega
  have HXP : Hid (c.1 ≠ [] → ∃ g off, pp = some ⟨g, off, none⟩ ∧ All g ∧ g < w.heap.size ∧ ∀ i x, c.1[i]? = some x → ∃ cs, cs.length = 6 ∧ (∀ j, j < 6 → w.cell? ⟨g, off + i * 6 + j, none⟩ = cs[j]?) ∧ HEx w All d cs x) := hxp
  have BP : Hid (∀ (j : Nat) y, c.1[j]? = some y → wtEx d y ≤ 1048576 ∧ exS d y ∧ (foldV (patV d) [] (c.1.take j)).length ≤ 1048576) := fun j y hj => by
    obtain ⟨h1, -⟩ := wtS_kid (d := d) hj
    have h3 := foldV_len (patV d) (wtEx d) (c.1.take j) [] (fun y _ => patV_len d y)
    simp only [List.length_nil] at h3
    exact ⟨by omega, EP.out y (List.mem_of_getElem? hj), by omega⟩
  have LIN : Hid ((foldV (patV d) [] c.1).length + wtS (wtEx d) c.2 ≤ 4194304) := by
    have h3 := foldV_len (patV d) (wtEx d) c.1 [] (fun y _ => patV_len d y)
    simp only [List.length_nil] at h3
    show _ ≤ _
    omega
  have LC : Hid ((cfV d c).length ≤ 2097152) := by have := cfV_len d c; show _ ≤ _; omega
  have OC : Hid (∀ s ∈ cfV d c, okS s) := fun s hs => by
    obtain ⟨y, hy, B2, h⟩ := listV_mem hs
    exact freeV_ok d y B2 (EB.out y hy) s h
  generalize hnp0 : c.1.length = np at *
  have HNP : Hid (c.1.length = np) := hnp0
  have bA : Hid (Blk ((w.alloc (.cells #[.slice pp np capp, .slice pb c.2.length capb] 69)).alloc (.cells #[] 9)) w.heap.size #[.slice pp np capp, .slice pb c.2.length capb] 69) := Blk.new.alloc
  have BA : Below w.heap.size w (w.alloc (.cells #[.slice pp np capp, .slice pb c.2.length capb] 69)) := (Below.refl _ _).alloc (Nat.le_refl _) _
  have BB : Hid (Below w.heap.size w ((w.alloc (.cells #[.slice pp np capp, .slice pb c.2.length capb] 69)).alloc (.cells #[] 9))) := BA.alloc BA.size _
  have O0 : Hid (OwnS ((w.alloc (.cells #[.slice pp np capp, .slice pb c.2.length capb] 69)).alloc (.cells #[] 9)) w.heap.size (.slice (some ⟨w.heap.size + 1, 0, none⟩) 0 0) []) := by
    have := (OwnS.fresh (w := w.alloc (.cells #[.slice pp np capp, .slice pb c.2.length capb] 69))).base BA.size
    rwa [alloc_hs] at this
  clear hxp rb hnp0 hw hc BA EP EB hclp hcmp
  go_enter Tryz.func31, Tryz.ntmps31
  go_wp2_with fail
  go_loopw [3, 4] (fun bu iv wr => ∃ k : Nat, k ≤ np ∧ iv = .int .i64 k ∧ Hid (StrV wr bu (foldV (patV d) [] (c.1.take k))) ∧ Hid (Blk wr w.heap.size #[.slice pp np capp, .slice pb c.2.length capb] 69) ∧ Hid (Below w.heap.size w wr)) (fun _ iv _ => np - (intOf iv).toNat)
  case atStart => exact ⟨0, Nat.zero_le _, rfl, O0.out.strV (fun s hs => by cases hs), bA.out, BB.out⟩
  case round =>
    clear O0 bA BB
    obtain ⟨k, hk, rfl, hs, hbk, HB⟩ := hrel
    have xa0 := hbk.out.cell 0 _ rfl
    have xa1 := hbk.out.cell 1 _ rfl
    by_cases hlk : k < np
    · obtain ⟨x, hxk⟩ : ∃ x, c.1[k]? = some x := ⟨c.1[k]'(by rw [HNP.out]; exact hlk), List.getElem?_eq_getElem _⟩
      obtain ⟨g, off, rfl, -, hgl, hat⟩ := HXP.out (by intro h; rw [h] at hxk; simp at hxk)
      obtain ⟨cs, hcsl, hcs, r1⟩ := hat k x hxk
      have E1 : ∀ w', Below w.heap.size w w' → HEx w' All d cs x := fun w' hw => r1.mono (SameOn.of_below hw) (fun _ h => h)
      obtain ⟨c0, c1, c2, c3, c4, c5, rfl⟩ := len6 hcsl
      have a0 := hcs 0 (by omega)
      have a1 := hcs 1 (by omega)
      have a2 := hcs 2 (by omega)
      have a3 := hcs 3 (by omega)
      have a4 := hcs 4 (by omega)
      have a5 := hcs 5 (by omega)
      rw [← HB.out.cell (p := ⟨g, _, none⟩) hgl] at a0 a1 a2 a3 a4 a5
      simp at a0 a1 a2 a3 a4 a5
      have hki : (k : Int) < (np : Int) := by omega
      have hk0 : (0 : Int) ≤ (k : Int) := by omega
      obtain ⟨wx, ex, lj⟩ := BP.out k x hxk
      have lx := patV_len d x
      have HJ : Hid (foldV (patV d) [] (c.1.take (k + 1)) = onceS (foldV (patV d) [] (c.1.take k)) (patV d x)) := foldV_snoc _ _ c.1 k x hxk
      have ON : Hid (∀ s ∈ patV d x, okS s) := fun s hs => patV_ok d x ex s hs
      have OS : Hid (∀ s ∈ onceS (foldV (patV d) [] (c.1.take k)) (patV d x), okS s) := fun s hs' => by
        rcases onceS_mem _ _ s hs' with h | h
        · exact hs.out.1.okS s h
        · exact ON.out s h
      generalize foldV (patV d) [] (c.1.take k) = J at *
      clear hcs hat hcsl r1
      go_wp2_with fail
      refine (patVars_all d _ _ x (E1 _ HB.out) wx).mono ?_
      rintro e w4 ⟨u4', rfl, ho4, hb4⟩
      have HB4 : Hid (Below w.heap.size w w4) := HB.out.trans (hb4.mono HB.out.size)
      have SV : Hid (StrV w4 u3 J) := hs.out.below hb4
      have SR : Hid (StrR w4 u4' (patV d x)) := ho4.strR ON.out
      have bk4 : Hid (Blk w4 w.heap.size #[.slice (some ⟨g, off, none⟩) np capp, .slice pb c.2.length capb] 69) := hbk.out.next hb4
      clear hb4 ho4 xa0 xa1 a0 a1 a2 a3 a4 a5
      go_wp2_with fail
      refine (once_any _ _ _ J (patV d x) SV.out SR.out (by omega)).mono ?_
      rintro e w5 ⟨u5', rfl, ho5, hb5⟩
      have HB5 : Hid (Below w.heap.size w w5) := HB4.out.trans (hb5.mono HB4.out.size)
      have SV5 : Hid (StrV w5 u5' (onceS J (patV d x))) := ho5.strV OS.out
      have bk5 : Hid (Blk w5 w.heap.size #[.slice (some ⟨g, off, none⟩) np capp, .slice pb c.2.length capb] 69) := bk4.out.next hb5
      clear hb5 ho5
      go_wp2_with fail
      exact ⟨⟨k + 1, by omega, by go_num, by show StrV _ _ _; rw [HJ.out]; exact SV5.out, bk5.out, HB5.out⟩, by simp [intOf]; omega⟩
    · have HIN : Hid (StrV wr u3 (foldV (patV d) [] c.1)) := by
        have := hs.out
        rwa [List.take_of_length_le (by rw [HNP.out]; omega)] at this
      clear hs
      go_wp2_with fail
      refine (list_all d _ _ c.2 _ (foldV (patV d) [] c.1) (RB.out _ HB.out) HIN.out wc2 LIN.out).mono ?_
      rintro e w4 ⟨u4', rfl, ho4, hb4⟩
      have HB4 : Hid (Below w.heap.size w w4) := HB.out.trans (hb4.mono HB.out.size)
      have SR : Hid (StrR w4 u4' (cfV d c)) := ho4.strR OC.out
      clear hb4 ho4 xa0 xa1
      go_wp2_with fail
      refine (sorted_any _ _ (cfV d c) SR.out LC.out).mono ?_
      rintro e w5 ⟨u5', rfl, ho5, hb5⟩
      have HB5 : Hid (Below w.heap.size w w5) := HB4.out.trans (hb5.mono HB4.out.size)
      have HO5 : Hid (OwnS w5 w.heap.size u5' (sortS (cfV d c))) := ho5.base HB4.out.size
      clear hb5 ho5
      go_wp2_with fail
      go_ret
      exact ⟨_, rfl, HO5.out, HB5.out⟩
end Go.Proofs.YtigfmdfgioccjaaGreatDoor
/-
  Chapter 4, plain mathematics: what is free, told by membership; what is bound ahead is taken away; a list of expressions from its end.
-/
namespace Go.Proofs.YtigfmdfgioccjaaGreatDoor
open Go.ChangeShapes Go.WideShapes Go.ChangeAt Go.RowKit
set_option linter.unusedVariables false

def inK (z : List UInt8) (l : List ByteArray) : Prop := z ∈ l.map keyS
theorem inK_nil {z : List UInt8} : ¬ inK z [] := by simp [inK]
theorem inK_once {z : List UInt8} {l ys : List ByteArray} : inK z (onceS l ys) ↔ inK z l ∨ inK z ys := by
  constructor
  · intro h
    obtain ⟨s, hs, rfl⟩ := List.mem_map.1 h
    rcases onceS_mem l ys s hs with h | h
    · exact .inl (List.mem_map.2 ⟨s, h, rfl⟩)
    · exact .inr (List.mem_map.2 ⟨s, h, rfl⟩)
  · rintro (h | h)
    · exact onceS_left _ _ _ h
    · exact onceS_right _ _ _ h
theorem inK_fold {α : Type} {z : List UInt8} (f : α → List ByteArray) : ∀ (ks : List α) (l : List ByteArray), inK z (foldV f l ks) ↔ inK z l ∨ ∃ y ∈ ks, inK z (f y)
  | [], l => by simp [foldV]
  | y :: ys, l => by
    have h := inK_fold (z := z) f ys (onceS l (f y))
    have e : foldV f l (y :: ys) = foldV f (onceS l (f y)) ys := rfl
    rw [e, h, inK_once]
    simp only [List.mem_cons, exists_eq_or_imp, or_assoc]
theorem runL_in (f : Ex → List ByteArray → List ByteArray) (bn : Ex → List ByteArray) {z : List UInt8} : ∀ (ks : List Ex) (o B : List ByteArray), inK z (ks.foldl (stepL f bn) (o, B)).1 ↔ inK z o ∨ inK z (listV f bn B ks)
  | [], o, B => by simp [listV, inK]
  | x :: xs, o, B => by
    have h1 := runL_in f bn (z := z) xs (onceS o (f x B)) (onceS B (bn x))
    have h2 := runL_in f bn (z := z) xs (onceS [] (f x B)) (onceS B (bn x))
    have e1 : (x :: xs).foldl (stepL f bn) (o, B) = xs.foldl (stepL f bn) (onceS o (f x B), onceS B (bn x)) := rfl
    have e2 : listV f bn B (x :: xs) = (xs.foldl (stepL f bn) (onceS [] (f x B), onceS B (bn x))).1 := rfl
    rw [e1, e2, h1, h2, inK_once, inK_once]
    have := inK_nil (z := z)
    simp only [this, false_or, or_assoc]
theorem listV_cons (f : Ex → List ByteArray → List ByteArray) (bn : Ex → List ByteArray) {z : List UInt8} (B : List ByteArray) (x : Ex) (xs : List Ex) : inK z (listV f bn B (x :: xs)) ↔ inK z (f x B) ∨ inK z (listV f bn (onceS B (bn x)) xs) := by
  have h := runL_in f bn (z := z) xs (onceS [] (f x B)) (onceS B (bn x))
  have e : listV f bn B (x :: xs) = (xs.foldl (stepL f bn) (onceS [] (f x B), onceS B (bn x))).1 := rfl
  rw [e, h, inK_once]
  have := inK_nil (z := z)
  simp only [this, false_or]
/-- What is bound ahead is taken away, and nothing else. -/
def Takes (f : Ex → List ByteArray → List ByteArray) : Prop := ∀ x B z, inK z (f x B) ↔ inK z (f x []) ∧ ¬ inK z B
theorem listV_takes {f : Ex → List ByteArray → List ByteArray} (bn : Ex → List ByteArray) (hf : Takes f) {z : List UInt8} : ∀ (ks : List Ex) (B : List ByteArray), inK z (listV f bn B ks) ↔ inK z (listV f bn [] ks) ∧ ¬ inK z B
  | [], B => by simp [listV, inK]
  | x :: xs, B => by
    have h1 := listV_takes bn hf (z := z) xs (onceS B (bn x))
    have h2 := listV_takes bn hf (z := z) xs (onceS [] (bn x))
    have h3 := hf x B z
    have := inK_nil (z := z)
    rw [listV_cons, listV_cons, h1, h2, h3, inK_once, inK_once]
    simp only [this, false_or]
    by_cases a : inK z (f x []) <;> by_cases b : inK z B <;> by_cases c : inK z (bn x) <;> simp [a, b, c]
/-- A list from its end: what the first wants, and what those behind want that the first does not bind. -/
theorem listV_back {f : Ex → List ByteArray → List ByteArray} (bn : Ex → List ByteArray) (hf : Takes f) {z : List UInt8} (x : Ex) (xs : List Ex) : inK z (listV f bn [] (x :: xs)) ↔ inK z (f x []) ∨ (inK z (listV f bn [] xs) ∧ ¬ inK z (bn x)) := by
  have h := listV_takes bn hf (z := z) xs (onceS [] (bn x))
  rw [listV_cons, h, inK_once]
  have := inK_nil (z := z)
  simp only [this, false_or]
theorem clF_in (f : Ex → List ByteArray → List ByteArray) (bn pt : Ex → List ByteArray) (B : List ByteArray) {z : List UInt8} : ∀ (cs : List Cl) (l : List ByteArray), inK z (cs.foldl (clF f bn pt B) l) ↔ inK z l ∨ ∃ c ∈ cs, inK z (listV f bn (foldV pt B c.1) c.2)
  | [], l => by simp
  | c :: cs, l => by
    have h := clF_in f bn pt B (z := z) cs (clF f bn pt B l c)
    rw [List.foldl_cons, h]
    unfold clF
    rw [inK_once]
    simp only [List.mem_cons, exists_eq_or_imp, or_assoc]
theorem hasS_in {B : List ByteArray} {t : ByteArray} : hasS B t = true ↔ inK (keyS t) B := hasS_mem B t
theorem freeV_takes : ∀ d, Takes (freeV d)
  | 0, x, B, z => by simp [freeV, inK]
  | d + 1, .mk k n t m ks cs, B, z => by
    have ih := freeV_takes d
    by_cases h2 : k = 2
    · subst h2
      rw [freeV_var, freeV_var]
      have h0 : hasS [] t = false := rfl
      rw [h0]
      by_cases hb : hasS B t = true
      · have hb' := hasS_in.1 hb
        simp only [hb, if_true, Bool.false_eq_true, if_false]
        constructor
        · intro h; exact absurd h inK_nil
        · rintro ⟨h, h'⟩
          have : z = keyS t := by simpa [inK] using h
          subst this
          exact absurd hb' h'
      · have hb' : ¬ inK (keyS t) B := fun h => hb (hasS_in.2 h)
        simp only [hb, Bool.false_eq_true, if_false]
        constructor
        · intro h
          have : z = keyS t := by simpa [inK] using h
          subst this
          exact ⟨h, hb'⟩
        · exact fun h => h.1
    · by_cases h9 : k = 9 ∧ ks.length = 2
      · obtain ⟨rfl, hl⟩ := h9
        match ks, hl with
        | [a, b], _ => rw [freeV_two, freeV_two]; exact ih b B z
      · rw [freeV_else d k n t m ks cs B h2 h9, freeV_else d k n t m ks cs [] h2 h9, clF_in, clF_in, listV_takes (bndV d) ih ks B]
        have hc : ∀ (B : List ByteArray) (c : Cl), inK z (listV (freeV d) (bndV d) (foldV (patV d) (foldV (bndV d) B ks) c.1) c.2) ↔ inK z (listV (freeV d) (bndV d) [] c.2) ∧ ¬ (inK z B ∨ (∃ y ∈ ks, inK z (bndV d y)) ∨ ∃ y ∈ c.1, inK z (patV d y)) := fun B c => by
          rw [listV_takes (bndV d) ih, inK_fold, inK_fold, or_assoc]
        simp only [hc]
        have := inK_nil (z := z)
        simp only [this, false_or]
        constructor
        · rintro (⟨h, h'⟩ | ⟨c, hc, h, h'⟩)
          · exact ⟨.inl h, h'⟩
          · exact ⟨.inr ⟨c, hc, h, fun e => h' (.inr e)⟩, fun e => h' (.inl e)⟩
        · rintro ⟨h | ⟨c, hc, h, h'⟩, hb⟩
          · exact .inl ⟨h, hb⟩
          · refine .inr ⟨c, hc, h, fun e => ?_⟩
            rcases e with e | e
            · exact hb e
            · exact h' e
/-- What is free in a clause by itself. -/
theorem clause_in (d : Nat) (c : Cl) (z : List UInt8) : inK z (listV (freeV d) (bndV d) (foldV (patV d) [] c.1) c.2) ↔ inK z (listV (freeV d) (bndV d) [] c.2) ∧ ¬ ∃ y ∈ c.1, inK z (patV d y) := by
  rw [listV_takes (bndV d) (freeV_takes d), inK_fold]
  have := inK_nil (z := z)
  simp only [this, false_or]
/-- What is free in an expression that is no variable and binds nothing itself: its kids from their end, and what its clauses want that the kids do not bind. -/
theorem freeV_back (d : Nat) (k n : Int) (t m : ByteArray) (ks : List Ex) (cs : List Cl) (h2 : k ≠ 2) (h9 : ¬ (k = 9 ∧ ks.length = 2)) (z : List UInt8) :
    inK z (freeV (d + 1) (.mk k n t m ks cs) []) ↔ inK z (listV (freeV d) (bndV d) [] ks) ∨ ((∃ c ∈ cs, inK z (listV (freeV d) (bndV d) (foldV (patV d) [] c.1) c.2)) ∧ ¬ ∃ y ∈ ks, inK z (bndV d y)) := by
  rw [freeV_else d k n t m ks cs [] h2 h9, clF_in]
  simp only [listV_takes (bndV d) (freeV_takes d) _ (foldV _ _ _), inK_fold]
  have := inK_nil (z := z)
  simp only [this, false_or]
  constructor
  · rintro (h | ⟨c, hc, h, h'⟩)
    · exact .inl h
    · exact .inr ⟨⟨c, hc, h, fun e => h' (.inr e)⟩, fun e => h' (.inl e)⟩
  · rintro (h | ⟨⟨c, hc, h, h'⟩, hb⟩)
    · exact .inl h
    · refine .inr ⟨c, hc, h, fun e => ?_⟩
      rcases e with e | e
      · exact hb e
      · exact h' e
end Go.Proofs.YtigfmdfgioccjaaGreatDoor
/-
  Chapter 4, plain mathematics: of right expressions, what the program's way from the end gives is what the specification tells.
-/
namespace Go.Proofs.YtigfmdfgioccjaaGreatDoor
open Go.ChangeShapes Go.WideShapes Go.ChangeAt Go.RowKit
set_option linter.unusedVariables false

/-- The names that are wanted ahead of an expression, out of those wanted behind it. -/
def stepS (d : Nat) (x : Ex) (S : List UInt8 → Prop) : List UInt8 → Prop := fun z => inK z (freeV d x []) ∨ (S z ∧ ¬ inK z (bndV d x))
theorem stepS_iff {d : Nat} {x : Ex} {S S' : List UInt8 → Prop} (h : ∀ z, S z ↔ S' z) (z : List UInt8) : stepS d x S z ↔ stepS d x S' z := by
  unfold stepS; rw [h z]
theorem stepS_list (d : Nat) (S : List UInt8 → Prop) (z : List UInt8) : ∀ (ks : List Ex), ks.foldr (stepS d) S z ↔ inK z (listV (freeV d) (bndV d) [] ks) ∨ (S z ∧ ¬ ∃ y ∈ ks, inK z (bndV d y))
  | [] => by
    have := inK_nil (z := z)
    simp [listV_nil, this]
  | x :: xs => by
    have ih := stepS_list d S z xs
    rw [List.foldr_cons, listV_back (bndV d) (freeV_takes d)]
    unfold stepS at ih ⊢
    rw [ih]
    simp only [List.mem_cons, exists_eq_or_imp, not_or]
    by_cases a : inK z (freeV d x []) <;> by_cases b : inK z (bndV d x) <;> simp [a, b]
theorem bndV_two' (d : Nat) (n : Int) (t m : ByteArray) (a b : Ex) (cs : List Cl) : bndV (d + 1) (.mk 9 n t m [a, b] cs) = onceS (bndV d b) (patV d a) := rfl
theorem bndV_else' (d : Nat) (k n : Int) (t m : ByteArray) (ks : List Ex) (cs : List Cl) (h9 : ¬ (k = 9 ∧ ks.length = 2)) : bndV (d + 1) (.mk k n t m ks cs) = foldV (bndV d) [] ks := by
  conv => lhs; unfold bndV
  split
  · simp at h9
  · rfl
/-- What is right has Clauses in a case alone; a variable has nothing; a match has two kids, the first a pattern. -/
theorem exOk_parts {d : Nat} {k n : Int} {t m : ByteArray} {ks : List Ex} {cs : List Cl} {pat : Bool} {deep : Int} (h : exOk (d + 1) (.mk k n t m ks cs) pat deep = true) :
    (k ≠ 10 → cs = []) ∧ (k = 2 → ks = []) ∧ (k = 9 → ∃ a b, ks = [a, b] ∧ exOk d a true (deep - 1) = true ∧ ∃ p, exOk d b p (deep - 1) = true) ∧ (pat = true → k ≤ 6) ∧
    (∀ y ∈ ks, ∃ p, (pat = true → p = true) ∧ exOk d y p (deep - 1) = true) ∧ (∀ c ∈ cs, (∀ y ∈ c.1, exOk d y true (deep - 1) = true) ∧ ∀ y ∈ c.2, exOk d y false (deep - 1) = true) := by
  rw [exOk_eq] at h
  simp only [Bool.and_eq_true, decide_eq_true_eq] at h
  obtain ⟨h0, hp, hpat, hk, hc⟩ := h
  unfold plainB at hp
  simp only [Bool.and_eq_true] at hp
  obtain ⟨hr, -, -, -, hnk, hnc⟩ := hp
  simp [inB] at hr hnk hnc
  have hkid : ∀ y ∈ ks, ∃ p, (pat = true → p = true) ∧ exOk d y p (deep - 1) = true := by
    cases ks with
    | nil => simp
    | cons x xs =>
      simp only [kidsB, Bool.and_eq_true, List.all_eq_true] at hk
      intro y hy
      rcases List.mem_cons.1 hy with rfl | hy
      · exact ⟨_, fun e => by rw [e]; rfl, hk.1⟩
      · exact ⟨_, fun e => e, hk.2 y hy⟩
  refine ⟨fun h => ?_, fun h => ?_, fun h => ?_, fun h => ?_, hkid, fun c hcs => ?_⟩
  · have : clsHi k = 0 := by unfold clsHi; rw [if_neg h]
    rw [this] at hnc
    exact List.length_eq_zero_iff.1 (by omega)
  · subst h
    have : kidHi 2 = 0 := rfl
    rw [this] at hnk
    exact List.length_eq_zero_iff.1 (by omega)
  · subst h
    have h1 : kidHi 9 = 2 := rfl
    have h2 : kidLo 9 = 2 := rfl
    rw [h1, h2] at hnk
    obtain ⟨a, b, rfl⟩ : ∃ a b, ks = [a, b] := by
      have hl : ks.length = 2 := by omega
      match ks, hl with
      | [a, b], _ => exact ⟨a, b, rfl⟩
    refine ⟨a, b, rfl, ?_, ?_⟩
    · simp only [kidsB, Bool.and_eq_true] at hk
      have := hk.1
      simpa using this
    · obtain ⟨p, -, hb⟩ := hkid b (by simp)
      exact ⟨p, hb⟩
  · subst h
    simpa [patB] using hpat
  · rw [List.all_eq_true] at hc
    have := hc c hcs
    unfold clB at this
    simp only [Bool.and_eq_true, List.all_eq_true] at this
    exact ⟨this.2.2.1, this.2.2.2⟩
/-- All variables in a pattern are the pattern's. -/
theorem pat_vars : ∀ (d : Nat) (x : Ex) (deep : Int), exOk d x true deep = true → ∀ z, z ∈ varL d x ↔ inK z (patV d x)
  | 0, _, _, h, _ => by simp [exOk] at h
  | d + 1, .mk k n t m ks cs, deep, h, z => by
    obtain ⟨h1, h2, h3, h4, h5, h6⟩ := exOk_parts h
    have hk := h4 rfl
    have hcs : cs = [] := h1 (by omega)
    subst hcs
    have hv : varL (d + 1) (.mk k n t m ks []) = (if k = 2 then [keyS t] else []) ++ (ks.flatMap (varL d) ++ []) := rfl
    have hp : patV (d + 1) (.mk k n t m ks []) = foldV (patV d) (if k = 2 then [t] else []) ks := rfl
    rw [hv, hp, inK_fold, List.append_nil, List.mem_append, List.mem_flatMap]
    have ih : ∀ y ∈ ks, (z ∈ varL d y ↔ inK z (patV d y)) := fun y hy => by
      obtain ⟨p, e, hy'⟩ := h5 y hy
      rw [e rfl] at hy'
      exact pat_vars d y _ hy' z
    have e1 : (∃ a, a ∈ ks ∧ z ∈ varL d a) ↔ ∃ y, y ∈ ks ∧ inK z (patV d y) := by
      constructor
      · rintro ⟨y, hy, h⟩; exact ⟨y, hy, (ih y hy).1 h⟩
      · rintro ⟨y, hy, h⟩; exact ⟨y, hy, (ih y hy).2 h⟩
    rw [e1]
    by_cases hk2 : k = 2
    · simp [hk2, inK]
    · simp [hk2, inK]
/-- What is free in a clause, by the program's way. -/
theorem clause_step (d : Nat) (c : Cl) (deep : Int) (hp : ∀ y ∈ c.1, exOk d y true deep = true) (z : List UInt8) :
    (c.2.foldr (stepS d) (fun _ => False) z ∧ z ∉ c.1.flatMap (varL d)) ↔ inK z (listV (freeV d) (bndV d) (foldV (patV d) [] c.1) c.2) := by
  rw [stepS_list, clause_in]
  have e1 : z ∈ c.1.flatMap (varL d) ↔ ∃ y ∈ c.1, inK z (patV d y) := by
    rw [List.mem_flatMap]
    constructor
    · rintro ⟨y, hy, h⟩; exact ⟨y, hy, (pat_vars d y deep (hp y hy) z).1 h⟩
    · rintro ⟨y, hy, h⟩; exact ⟨y, hy, (pat_vars d y deep (hp y hy) z).2 h⟩
  rw [e1]
  simp
/-- A variable. -/
theorem step_var (d : Nat) (n : Int) (t m : ByteArray) (cs : List Cl) (S : List UInt8 → Prop) (z : List UInt8) : (S z ∨ z = t.data.toList) ↔ stepS (d + 1) (.mk 2 n t m [] cs) S z := by
  unfold stepS
  rw [freeV_var, bndV_else' _ _ _ _ _ _ _ (by simp)]
  have h0 : hasS [] t = false := rfl
  have h1 : inK z [t] ↔ z = t.data.toList := by
    unfold inK
    simp [keyS, ByteArray.toList_eq]
  have h2 : ¬ inK z (foldV (bndV d) [] []) := inK_nil
  rw [h0]
  simp only [Bool.false_eq_true, if_false, h1, h2, not_false_eq_true, and_true]
  exact Or.comm
/-- A match. -/
theorem step_two (d : Nat) (n : Int) (t m : ByteArray) (a b : Ex) (cs : List Cl) (deep : Int) (ha : exOk d a true deep = true) (S : List UInt8 → Prop) (z : List UInt8) :
    stepS d b (fun z => S z ∧ z ∉ varL d a) z ↔ stepS (d + 1) (.mk 9 n t m [a, b] cs) S z := by
  unfold stepS
  have hp := pat_vars d a deep ha z
  rw [freeV_two, bndV_two', inK_once]
  show _ ∨ ((S z ∧ ¬ z ∈ varL d a) ∧ _) ↔ _
  rw [hp]
  simp only [not_or]
  constructor
  · rintro (h | ⟨⟨h1, h2⟩, h3⟩)
    · exact .inl h
    · exact .inr ⟨h1, h3, h2⟩
  · rintro (h | ⟨h1, h2, h3⟩)
    · exact .inl h
    · exact .inr ⟨⟨h1, h3⟩, h2⟩
/-- What has kids, and maybe clauses. -/
theorem step_else (d : Nat) (k n : Int) (t m : ByteArray) (ks : List Ex) (cs : List Cl) (h2 : k ≠ 2) (h9 : ¬ (k = 9 ∧ ks.length = 2)) (S : List UInt8 → Prop) (z : List UInt8) :
    ks.foldr (stepS d) (fun z => S z ∨ ∃ c ∈ cs, inK z (listV (freeV d) (bndV d) (foldV (patV d) [] c.1) c.2)) z ↔ stepS (d + 1) (.mk k n t m ks cs) S z := by
  have e := freeV_back d k n t m ks cs h2 h9 z
  rw [stepS_list]
  unfold stepS
  rw [e, bndV_else' d k n t m ks cs h9, inK_fold]
  have := inK_nil (z := z)
  simp only [this, false_or]
  constructor
  · rintro (h | ⟨h | h, h'⟩)
    · exact .inl (.inl h)
    · exact .inr ⟨h, h'⟩
    · exact .inl (.inr ⟨h, h'⟩)
  · rintro ((h | ⟨h, h'⟩) | ⟨h, h'⟩)
    · exact .inl h
    · exact .inr ⟨.inr h, h'⟩
    · exact .inr ⟨.inl h, h'⟩
end Go.Proofs.YtigfmdfgioccjaaGreatDoor
/-
  Chapter 4, plain mathematics: which functions of a module are loose.
-/
namespace Go.Proofs.YtigfmdfgioccjaaGreatDoor
open Go.ChangeShapes Go.WideShapes Go.ChangeAt Go.RowKit
set_option linter.unusedVariables false

/-- Whether a clause wants a name. -/
def looseB (d : Nat) (c : Cl) : Bool := !(listV (freeV d) (bndV d) (foldV (patV d) [] c.1) c.2).isEmpty
def looseF (d : Nat) (f : Fn') : Bool := f.clauses.any (looseB d)
def rfOf (f : Fn') : Rf := ⟨f.name, f.arity⟩
def looseL (d : Nat) (fs : List Fn') : List Rf := (fs.filter (looseF d)).map rfOf
def looseM (d : Nat) (m : Md) : List Rf := if mdOk d m then looseL d m.funs else []
theorem looseB_in (d : Nat) (c : Cl) : looseB d c = true ↔ ∃ z, inK z (listV (freeV d) (bndV d) (foldV (patV d) [] c.1) c.2) := by
  unfold looseB inK
  cases listV (freeV d) (bndV d) (foldV (patV d) [] c.1) c.2 with
  | nil => simp
  | cons x xs => simp only [List.isEmpty_cons, Bool.not_false, true_iff]; exact ⟨keyS x, by simp⟩
theorem looseL_snoc (d : Nat) (fs : List Fn') (k : Nat) (f : Fn') (h : fs[k]? = some f) : looseL d (fs.take (k + 1)) = if looseF d f then looseL d (fs.take k) ++ [rfOf f] else looseL d (fs.take k) := by
  unfold looseL
  rw [List.take_add_one, h]
  simp only [Option.toList_some, List.filter_append, List.map_append]
  cases hf : looseF d f <;> simp [hf]
theorem looseL_len (d : Nat) (fs : List Fn') : (looseL d fs).length ≤ fs.length := by
  unfold looseL
  rw [List.length_map]
  exact List.length_filter_le _ _
theorem looseL_mem {d : Nat} {fs : List Fn'} {r : Rf} (h : r ∈ looseL d fs) : ∃ f ∈ fs, r = rfOf f := by
  unfold looseL at h
  obtain ⟨f, hf, rfl⟩ := List.mem_map.1 h
  exact ⟨f, (List.mem_filter.1 hf).1, rfl⟩
/-- A right module's clauses are right. -/
theorem mdOk_clauses {d : Nat} {m : Md} (h : mdOk d m = true) : ∀ f ∈ m.funs, ∀ c ∈ f.clauses, (∀ y ∈ c.1, exOk d y true 40 = true) ∧ ∀ y ∈ c.2, exOk d y false 40 = true := by
  intro f hf c hc
  unfold mdOk fnsB at h
  simp only [Bool.and_eq_true, List.all_eq_true] at h
  obtain ⟨i, hi⟩ := List.mem_iff_getElem?.1 hf
  have hl : i < m.funs.length := (List.getElem?_eq_some_iff.1 hi).1
  have h1 := h.2.2.2 i (by simpa using hl)
  unfold fnsAt at h1
  rw [hi] at h1
  simp only [Bool.and_eq_true] at h1
  have h2 := h1.1
  unfold fnB at h2
  simp only [Bool.and_eq_true, List.all_eq_true] at h2
  have h3 := h2.2.2 c hc
  unfold clB at h3
  simp only [Bool.and_eq_true, List.all_eq_true] at h3
  exact ⟨h3.2.2.1, h3.2.2.2⟩
end Go.Proofs.YtigfmdfgioccjaaGreatDoor
/-
  The specification's l05Fun, by contract: what is wrong with a function.
-/
namespace Go.Proofs.YtigfmdfgioccjaaGreatDoor
open Go.ChangeShapes Go.WideShapes Go.ChangeAt Go.RowKit
set_option linter.unusedVariables false

def lsL (b : Bool) : List ByteArray := if b then [cLoose] else []
/-- What is wrong with a function. -/
def funC (ms : List Md) (m : Md) (d : Nat) (f : Fn') : List ByteArray := (bodiesOf f.clauses).foldl (fun o b => onceS o (codesX ms m d b)) (lsL (looseF d f))

def foldC (ms : List Md) (m : Md) (d : Nat) (l : List Ex) (o : List ByteArray) : List ByteArray := l.foldl (fun o b => onceS o (codesX ms m d b)) o
theorem insC_ne (l : List ByteArray) (s : ByteArray) : insS l s ≠ [] := by
  cases l with
  | nil => simp [insS]
  | cons x l =>
    unfold insS
    split
    · simp
    · split <;> simp
theorem sortC_ne {l : List ByteArray} (h : l ≠ []) : sortS l ≠ [] := by
  unfold sortS
  have : ∀ (l acc : List ByteArray), acc ≠ [] → l.foldl insS acc ≠ [] := fun l => by
    induction l with
    | nil => exact fun acc h => h
    | cons x l ih => exact fun acc _ => ih _ (insC_ne acc x)
  cases l with
  | nil => exact absurd rfl h
  | cons x l => exact this l _ (insC_ne [] x)
theorem sortC_pos (d : Nat) (c : Cl) : decide (0 < (sortS (cfV d c)).length) = looseB d c := by
  have e : looseB d c = !(cfV d c).isEmpty := rfl
  rw [e]
  cases h : cfV d c with
  | nil => rfl
  | cons x l =>
    have := sortC_ne (l := x :: l) (by simp)
    simp only [List.isEmpty_cons, Bool.not_false, decide_eq_true_eq]
    exact List.length_pos_iff.2 this
theorem foldCC_len (ms : List Md) (m : Md) (d : Nat) : ∀ (l : List Ex) (o : List ByteArray), (l.foldl (fun o b => onceS o (codesX ms m d b)) o).length ≤ o.length + (l.map fun y => 1 + wtEx d y).sum
  | [], o => by simp
  | y :: l, o => by
    have h1 := foldCC_len ms m d l (onceS o (codesX ms m d y))
    have h2 := onceS_length o (codesX ms m d y)
    have h3 := codesX_len ms m d y
    simp only [List.foldl_cons, List.map_cons, List.sum_cons]
    omega
theorem foldCC_mem (ms : List Md) (m : Md) (d : Nat) : ∀ (l : List Ex) (o : List ByteArray), ∀ c ∈ l.foldl (fun o b => onceS o (codesX ms m d b)) o, c ∈ o ∨ c = cCall ∨ c = cFar
  | [], o => fun c h => Or.inl h
  | y :: l, o => fun c h => by
    rcases foldCC_mem ms m d l _ c h with h | h
    · rcases onceS_mem _ _ c h with h | h
      · exact Or.inl h
      · exact Or.inr (codesX_mem ms m d y c h)
    · exact Or.inr h
theorem okS_loose {b : Bool} {c : ByteArray} (h : c ∈ lsL b) : okS c := by
  cases b with
  | true => simp [lsL] at h; subst h; unfold okS; decide
  | false => simp [lsL] at h
theorem sumB (d : Nat) (cl : List Cl) : ((bodiesOf cl).map fun y => 1 + wtEx d y).sum ≤ wtS (wtCl (wtEx d)) cl := by
  have h2 : ∀ l : List Ex, (l.map fun y => 1 + wtEx d y).sum = wtS (wtEx d) l := fun l => by
    unfold wtS
    induction l with
    | nil => rfl
    | cons y l ih => simp only [List.map_cons, List.sum_cons, List.length_cons, ih]; omega
  rw [h2]
  induction cl with
  | nil => simp [bodiesOf, wtS]
  | cons c cl ih =>
    have e : bodiesOf (c :: cl) = c.2 ++ bodiesOf cl := by simp [bodiesOf]
    rw [e]
    simp only [wtS, List.length_append, List.map_append, List.sum_append, List.length_cons, List.map_cons, List.sum_cons, wtCl] at ih ⊢
    omega
theorem OwnS.slice {w : World} {B : Nat} {v : Value} {l : List ByteArray} (h : OwnS w B v l) : ∃ p q, v = .slice p l.length q := by
  obtain ⟨p, q, hv, _⟩ := owns_slice h.1
  exact ⟨p, q, hv⟩

set_option maxHeartbeats 8000000 in
set_option maxRecDepth 100000 in
theorem l05Fun_any (d : Nat) (w : World) (v : Value) (ms : List Md) (mc : List Value) (m : Md) (cs : List Value) (f : Fn') (h : Rows w All 3 (HMd w All d) v ms) (hm : HMd w All d mc m) (hf : HFn w All d cs f) (hw : wtFn d f ≤ 1048576) :
    Calls Tryz.prog 19 #[v, .agg mc.toArray, .agg cs.toArray] w fun e w' => ∃ u, e = .returned u ∧ OwnS w' w.heap.size u (funC ms m d f) ∧ Below w.heap.size w w' := by
  have HMS : Hid (∀ w', Below w.heap.size w w' → Rows w' All 3 (HMd w' All d) v ms) := fun w' hw => h.mono (SameOn.of_below hw) (fun _ h => h) (fun _ _ _ h => h.mono (SameOn.of_below hw) (fun _ h => h))
  have HMM : Hid (∀ w', Below w.heap.size w w' → HMd w' All d mc m) := fun w' hw => hm.mono (SameOn.of_below hw) (fun _ h => h)
  obtain ⟨sv, pe, ne, ce, pf, nf, cf, rfl⟩ := hm.shape
  obtain ⟨cv, rfl, -, -, p1, q1, rfl, hcl, hcm, hx⟩ := hf
  obtain ⟨p, cap, rfl, -⟩ := h
  have HFC : Hid (funC ms m d f = (bodiesOf f.clauses).foldl (fun o b => onceS o (codesX ms m d b)) (lsL (f.clauses.any (looseB d)))) := rfl
  have HWC : Hid (wtS (wtCl (wtEx d)) f.clauses ≤ 1048576) := by show _ ≤ _; unfold wtFn at hw; omega
  have HX : Hid (f.clauses ≠ [] → ∃ g off, p1 = some ⟨g, off, none⟩ ∧ All g ∧ g < w.heap.size ∧ ∀ i x, f.clauses[i]? = some x → ∃ cs, cs.length = 2 ∧ (∀ j, j < 2 → w.cell? ⟨g, off + i * 2 + j, none⟩ = cs[j]?) ∧ HCl w All (HEx w All d) cs x) := hx
  have hnb : f.clauses.length ≤ 9223372036854775807 := by unfold maxLen at hcm; omega
  obtain ⟨i0, hi, hz0, hz1, hz2⟩ := info_parts info_str
  generalize f.clauses = cl at *
  generalize ms.length = n at *
  generalize hnc : cl.length = nc at *
  have HNC : Hid (cl.length = nc) := hnc
  obtain ⟨W2, hW2⟩ : ∃ W2, W2 = (w.alloc (.cells #[.string sv, .slice pe ne ce, .slice pf nf cf] 42)).alloc (.cells #[.string f.name, .int .i64 f.arity, .slice p1 nc q1] 52) := ⟨_, rfl⟩
  have bM : Hid (Blk W2 w.heap.size #[.string sv, .slice pe ne ce, .slice pf nf cf] 42) := by show Blk _ _ _ _; rw [hW2]; exact Blk.new.alloc
  have bF : Hid (Blk W2 (w.heap.size + 1) #[.string f.name, .int .i64 f.arity, .slice p1 nc q1] 52) := by
    show Blk _ _ _ _
    rw [hW2]
    have := Blk.new (w := w.alloc (.cells #[.string sv, .slice pe ne ce, .slice pf nf cf] 42)) (cs := #[.string f.name, .int .i64 f.arity, .slice p1 nc q1]) (t := 52)
    simp only [alloc_hs] at this
    exact this
  have B2 : Hid (Below w.heap.size w W2) := by show Below _ _ _; rw [hW2]; exact ((Below.refl _ _).alloc (Nat.le_refl _) _).alloc (by simp only [alloc_hs]; omega) _
  have S2 : Hid (W2.heap.size = w.heap.size + 1 + 1) := by show _ = _; rw [hW2]; simp only [alloc_hs]
  have HW2 : Hid (W2 = (w.alloc (.cells #[.string sv, .slice pe ne ce, .slice pf nf cf] 42)).alloc (.cells #[.string f.name, .int .i64 f.arity, .slice p1 nc q1] 52)) := hW2
  have O3 : Hid (OwnS (W2.alloc (.cells #[] 9)) (w.heap.size + 1 + 1) (.slice (some ⟨w.heap.size + 1 + 1, 0, none⟩) 0 0) []) := by
    have := OwnS.fresh (w := W2)
    rw [S2.out] at this
    exact this
  have B3 : Hid (Below (w.heap.size + 1 + 1) W2 (W2.alloc (.cells #[] 9))) := (Below.refl _ _).alloc (by rw [S2.out]; exact Nat.le_refl _) _
  clear hm hw hx hnc hW2
  go_enter Tryz.func19, Tryz.ntmps19
  go_wp2_with fail
  rw [← HW2.out]
  go_loopw [7, 8] (fun ov iv wr => ∃ k : Nat, k ≤ nc ∧ iv = .int .i64 k ∧ Hid (OwnS wr (w.heap.size + 1 + 1) ov (lsL ((cl.take k).any (looseB d)))) ∧ Hid (Below (w.heap.size + 1 + 1) W2 wr)) (fun _ iv _ => nc - (intOf iv).toNat)
  case atStart => exact ⟨0, Nat.zero_le _, rfl, by show OwnS _ _ _ _; simpa [lsL] using O3.out, B3⟩
  case round =>
    obtain ⟨k, hk, rfl, ho, hb⟩ := hrel
    have HB0 : Hid (Below w.heap.size w wr) := B2.out.trans (hb.out.mono (by omega))
    have bFr := bF.out.below hb.out (by omega)
    have x2 := bFr.cell 2 _ rfl
    have hsw : w.heap.size + 1 + 1 ≤ wr.heap.size := by have := hb.out.size; rw [S2.out] at this; exact this
    clear bFr
    by_cases hlt : k < nc
    · obtain ⟨c, hck⟩ : ∃ c, cl[k]? = some c := ⟨cl[k]'(by rw [HNC.out]; exact hlt), List.getElem?_eq_getElem _⟩
      obtain ⟨g, off, rfl, -, hgl, hat⟩ := HX.out (by intro h; rw [h] at hck; simp at hck)
      obtain ⟨cs, hcsl, hcs, hc⟩ := hat k c hck
      have HCC : Hid (∀ w', Below w.heap.size w w' → HCl w' All (HEx w' All d) cs c) := fun w' hw => hc.mono (SameOn.of_below hw) (fun _ h => h) (fun _ _ => HEx.mono (SameOn.of_below hw) (fun _ h => h))
      obtain ⟨pv, bv, rfl, -, -⟩ := hc
      have a0 := hcs 0 (by omega)
      have a1 := hcs 1 (by omega)
      rw [← HB0.out.cell (p := ⟨g, _, none⟩) hgl] at a0 a1
      simp at a0 a1
      have hki : (k : Int) < (nc : Int) := by omega
      have hk0 : (0 : Int) ≤ (k : Int) := by omega
      have HWK : Hid (wtCl (wtEx d) c ≤ 1048576) := by
        have h1 := HWC.out
        have h2 := sum_take_succ (wtCl (wtEx d)) cl k c hck
        have h3 := sum_take_le (wtCl (wtEx d)) cl (k + 1)
        unfold wtS at h1
        show _ ≤ _
        omega
      have HT : Hid ((cl.take (k + 1)).any (looseB d) = ((cl.take k).any (looseB d) || looseB d c)) := by show _ = _; rw [List.take_add_one, hck]; simp
      obtain ⟨pu, qu, hu⟩ := ho.out.slice
      clear hcs hat hcsl
      cases hbt : (cl.take k).any (looseB d) with
      | true =>
        rw [hbt] at ho hu HT
        have HO1 : Hid (OwnS wr (w.heap.size + 1 + 1) u7 (lsL ((cl.take (k + 1)).any (looseB d)))) := by show OwnS _ _ _ _; rw [HT.out]; simpa using ho.out
        have hl : (lsL true).length = 1 := rfl
        rw [hl] at hu
        subst hu
        clear ho HT hbt
        go_wp2_with fail
        exact ⟨⟨k + 1, by omega, by go_num, HO1, hb⟩, by simp [intOf]; omega⟩
      | false =>
        rw [hbt, Bool.false_or] at HT
        rw [hbt] at ho hu
        have hl : (lsL false).length = 0 := rfl
        rw [hl] at hu
        subst hu
        clear hbt
        go_wp2_with fail
        refine (specClauseFree_any _ d _ c (HCC.out _ HB0.out) HWK.out).mono ?_
        rintro e w1 ⟨u1, rfl, o1, hb1⟩
        have HSP := sortC_pos d c
        obtain ⟨pz, qz, rfl⟩ := o1.slice
        have K1 : Hid (Below wr.heap.size wr w1) := hb1
        have HO1 : Hid (OwnS w1 (w.heap.size + 1 + 1) (.slice pu 0 qu) []) := ho.out.next hb1
        have HB1 : Hid (Below (w.heap.size + 1 + 1) W2 w1) := hb.out.trans (hb1.mono hsw)
        have s1 : w.heap.size + 1 + 1 ≤ w1.heap.size := Nat.le_trans hsw hb1.size
        clear o1 hb1 a0 a1 x2
        generalize (sortS (cfV d c)).length = nz at *
        cases hz : looseB d c with
        | false =>
          rw [hz] at HSP HT
          have hzz : ¬ (0 : Int) < (nz : Int) := by have := of_decide_eq_false HSP; omega
          have HO2 : Hid (OwnS w1 (w.heap.size + 1 + 1) (.slice pu 0 qu) (lsL ((cl.take (k + 1)).any (looseB d)))) := by show OwnS _ _ _ _; rw [HT.out]; exact HO1.out
          clear HSP HT
          go_wp2_with fail
          exact ⟨⟨k + 1, by omega, by go_num, HO2, HB1⟩, by simp [intOf]; omega⟩
        | true =>
          rw [hz] at HSP HT
          have hzz : (0 : Int) < (nz : Int) := by have := of_decide_eq_true HSP; omega
          have HO2 : Hid (OwnS (w1.alloc (.cells #[.string ⟨#[108, 111, 111, 115, 101]⟩] 9)) (w.heap.size + 1 + 1) (.slice pu 0 qu) []) := HO1.out.next ((Below.refl _ _).alloc (Nat.le_refl _) _)
          clear HSP
          go_wp2_with (at_builtin; refine wpList_append_own _ rfl _ _ 48 rfl (w.heap.size + 1 + 1) 9 i0 (.string ⟨#[]⟩) 1 16 Tryz.underlying48 hi hz0 hz1 hz2 rfl (by decide) (.slice pu 0 qu) 0 [] rfl HO2.out.1 ⟨w1.heap.size, 0, none⟩ 1 1 (strs [⟨#[108, 111, 111, 115, 101]⟩]) rfl (by simp [strs]) (one_str w1 _ _ rfl) (strs_oneCell _) (by unfold maxLen; omega) (by omega) (by rw [alloc_hs]; omega) ?_; intro v7 w7 ho7 hg7 _)
          have HO7 : Hid (OwnS w7 (w.heap.size + 1 + 1) v7 (lsL ((cl.take (k + 1)).any (looseB d)))) := by
            show OwnS _ _ _ _
            rw [HT.out]
            exact OwnS.of (l := []) (m := [⟨#[108, 111, 111, 115, 101]⟩]) ho7 (by simp) (by simp [strs]) (Nat.le_trans (by rw [alloc_hs]; omega) hg7.size)
          have HB7 : Hid (Below (w.heap.size + 1 + 1) W2 w7) := (HB1.out.alloc s1 _).trans (owns_below HO2.out.1 hg7 (by rw [alloc_hs]; omega))
          clear ho7 hg7
          go_wp2_with fail
          exact ⟨⟨k + 1, by omega, by go_num, HO7, HB7⟩, by simp [intOf]; omega⟩
    · have HO1 : Hid (OwnS wr (w.heap.size + 1 + 1) u7 (lsL (cl.any (looseB d)))) := by
        have := ho.out
        rwa [List.take_of_length_le (by rw [HNC.out]; omega)] at this
      generalize hL0 : lsL (cl.any (looseB d)) = L0 at *
      have OL0 : Hid (∀ c ∈ L0, okS c) := fun c hc => okS_loose (by rw [hL0]; exact hc)
      have HL0 : Hid (lsL (cl.any (looseB d)) = L0) := hL0
      have LL0 : L0.length ≤ 1 := by rw [← hL0]; unfold lsL; split <;> simp
      clear ho hL0
      go_wp2_with fail
      clear x2 HB0 hsw hlt
      go_loopw [7, 9] (fun ov iv wx => ∃ k : Nat, k ≤ nc ∧ iv = .int .i64 k ∧ Hid (OwnS wx (w.heap.size + 1 + 1) ov (foldC ms m d (bodiesOf (cl.take k)) L0)) ∧ Hid (Below (w.heap.size + 1 + 1) W2 wx)) (fun _ iv _ => nc - (intOf iv).toNat)
      case atStart => exact ⟨0, Nat.zero_le _, rfl, by show OwnS _ _ _ _; simpa [bodiesOf, foldC] using HO1.out, hb⟩
      case round =>
        obtain ⟨a, ha, rfl, ho, hbx⟩ := hrel
        clear HO1 hb
        have HB0 : Hid (Below w.heap.size w wr) := B2.out.trans (hbx.out.mono (by omega))
        have bFr := bF.out.below hbx.out (by omega)
        have x2 := bFr.cell 2 _ rfl
        have hsw : w.heap.size + 1 + 1 ≤ wr.heap.size := by have := hbx.out.size; rw [S2.out] at this; exact this
        clear bFr
        by_cases hlt : a < nc
        · obtain ⟨c, hck⟩ : ∃ c, cl[a]? = some c := ⟨cl[a]'(by rw [HNC.out]; exact hlt), List.getElem?_eq_getElem _⟩
          obtain ⟨g, off, rfl, -, hgl, hat⟩ := HX.out (by intro h; rw [h] at hck; simp at hck)
          obtain ⟨cs, hcsl, hcs, pv, bv, rfl, rp, rb⟩ := hat a c hck
          obtain ⟨pp, qp, rfl, -⟩ := rp
          obtain ⟨pb, qb, rfl, hclb, hcmb, hxb⟩ := rb
          have HXB : Hid (c.2 ≠ [] → ∃ g off, pb = some ⟨g, off, none⟩ ∧ All g ∧ g < w.heap.size ∧ ∀ i x, c.2[i]? = some x → ∃ cs, cs.length = 6 ∧ (∀ j, j < 6 → w.cell? ⟨g, off + i * 6 + j, none⟩ = cs[j]?) ∧ HEx w All d cs x) := hxb
          have hnbb : c.2.length ≤ 9223372036854775807 := by unfold maxLen at hcmb; omega
          have HA0 : Hid (w.cell? ⟨g, off + a * 2, none⟩ = some (.slice pp c.1.length qp) ∧ w.cell? ⟨g, off + a * 2 + 1, none⟩ = some (.slice pb c.2.length qb)) := ⟨by simpa using hcs 0 (by omega), by simpa using hcs 1 (by omega)⟩
          have HGL : Hid (g < w.heap.size) := hgl
          have hki : (a : Int) < (nc : Int) := by omega
          have hk0 : (0 : Int) ≤ (a : Int) := by omega
          have HBO : Hid (bodiesOf (cl.take (a + 1)) = bodiesOf (cl.take a) ++ c.2) := bodiesOf_snoc cl a c hck
          have HSB : Hid ((((bodiesOf (cl.take a) ++ c.2).map fun y => 1 + wtEx d y).sum) ≤ 1048576) := by
            have h1 := sumB d cl
            have h2 := HWC.out
            have h3 : ((bodiesOf (cl.take (a + 1))).map fun y => 1 + wtEx d y).sum ≤ ((bodiesOf cl).map fun y => 1 + wtEx d y).sum := by
              have e : bodiesOf cl = bodiesOf (cl.take (a + 1)) ++ bodiesOf (cl.drop (a + 1)) := by
                unfold bodiesOf
                rw [← List.flatMap_append, List.take_append_drop]
              rw [e, List.map_append, List.sum_append]; omega
            rw [HBO.out] at h3
            show _ ≤ _
            omega
          generalize hnbo : c.2.length = nb at *
          have HNB : Hid (c.2.length = nb) := hnbo
          clear hcs hat hcsl hxb hck hnbo hclb hcmb x2
          have bFr := bF.out.below hbx.out (by omega)
          have x2 := bFr.cell 2 _ rfl
          clear bFr
          go_wp2_with fail
          clear x2
          go_loopw [7, 10] (fun ov iv wx => ∃ j : Nat, j ≤ nb ∧ iv = .int .i64 j ∧ Hid (OwnS wx (w.heap.size + 1 + 1) ov (foldC ms m d (bodiesOf (cl.take a) ++ c.2.take j) L0)) ∧ Hid (Below (w.heap.size + 1 + 1) W2 wx)) (fun _ iv _ => nb - (intOf iv).toNat)
          case atStart => exact ⟨0, Nat.zero_le _, rfl, by show OwnS _ _ _ _; simpa using ho.out, hbx⟩
          case round =>
            obtain ⟨j, hj, rfl, ho2, hb2⟩ := hrel
            clear ho hbx HB0 hsw
            have HB0 : Hid (Below w.heap.size w wr) := B2.out.trans (hb2.out.mono (by omega))
            have bFr := bF.out.below hb2.out (by omega)
            have bMr := bM.out.below hb2.out (by omega)
            have x2 := bFr.cell 2 _ rfl
            have m0 := bMr.cell 0 _ rfl
            have m1 := bMr.cell 1 _ rfl
            have m2 := bMr.cell 2 _ rfl
            have a0 := (HB0.out.cell (p := ⟨g, off + a * 2, none⟩) HGL.out).trans HA0.out.1
            have a1 := (HB0.out.cell (p := ⟨g, off + a * 2 + 1, none⟩) HGL.out).trans HA0.out.2
            have hsw : w.heap.size + 1 + 1 ≤ wr.heap.size := by have := hb2.out.size; rw [S2.out] at this; exact this
            clear bFr bMr
            by_cases hlj : j < nb
            · obtain ⟨y, hyk⟩ : ∃ y, c.2[j]? = some y := ⟨c.2[j]'(by rw [HNB.out]; exact hlj), List.getElem?_eq_getElem _⟩
              obtain ⟨g5, o5, rfl, -, hgl5, hat5⟩ := HXB.out (by intro h; rw [h] at hyk; simp at hyk)
              obtain ⟨cs5, hcsl5, hcs5, hy⟩ := hat5 j y hyk
              have HY : Hid (∀ w', Below w.heap.size w w' → HEx w' All d cs5 y) := fun w' hw => hy.mono (SameOn.of_below hw) (fun _ h => h)
              obtain ⟨z0, z1, z2, z3, z4, z5, rfl⟩ := len6 hcsl5
              have b0 := hcs5 0 (by omega)
              have b1 := hcs5 1 (by omega)
              have b2 := hcs5 2 (by omega)
              have b3 := hcs5 3 (by omega)
              have b4 := hcs5 4 (by omega)
              have b5 := hcs5 5 (by omega)
              rw [← HB0.out.cell (p := ⟨g5, _, none⟩) hgl5] at b0 b1 b2 b3 b4 b5
              simp at b0 b1 b2 b3 b4 b5
              have hji : (j : Int) < (nb : Int) := by omega
              have hj0 : (0 : Int) ≤ (j : Int) := by omega
              have HJ : Hid (foldC ms m d (bodiesOf (cl.take a) ++ c.2.take (j + 1)) L0 = onceS (foldC ms m d (bodiesOf (cl.take a) ++ c.2.take j) L0) (codesX ms m d y)) := by
                show _ = _
                rw [List.take_add_one, hyk]
                simp [foldC, List.foldl_append]
              have HLK : Hid ((foldC ms m d (bodiesOf (cl.take a) ++ c.2.take j) L0).length + (codesX ms m d y).length ≤ 8388608) := by
                have h1 := foldCC_len ms m d (bodiesOf (cl.take a) ++ c.2.take j) L0
                have h2 := codesX_len ms m d y
                have h3 := HSB.out
                have h4 : ((bodiesOf (cl.take a) ++ c.2.take (j + 1)).map fun y => 1 + wtEx d y).sum ≤ ((bodiesOf (cl.take a) ++ c.2).map fun y => 1 + wtEx d y).sum := by
                  rw [List.map_append, List.map_append, List.sum_append, List.sum_append]
                  have := sum_take_le (fun y => 1 + wtEx d y) c.2 (j + 1)
                  omega
                rw [List.map_append, List.sum_append, sum_take_succ (fun y => 1 + wtEx d y) c.2 j y hyk] at h4
                have h5 : (foldC ms m d (bodiesOf (cl.take a) ++ c.2.take j) L0).length ≤ L0.length + ((bodiesOf (cl.take a) ++ c.2.take j).map fun y => 1 + wtEx d y).sum := h1
                rw [List.map_append, List.sum_append] at h5
                show _ ≤ _
                omega
              have HWY : Hid (wtEx d y ≤ 1048576) := by
                have h3 := HSB.out
                have h4 := sum_take_le (fun y => 1 + wtEx d y) c.2 (j + 1)
                rw [sum_take_succ (fun y => 1 + wtEx d y) c.2 j y hyk] at h4
                rw [List.map_append, List.sum_append] at h3
                show _ ≤ _
                omega
              have OJ : Hid (∀ q ∈ foldC ms m d (bodiesOf (cl.take a) ++ c.2.take j) L0, okS q) := fun q hq => by
                rcases foldCC_mem ms m d _ L0 q hq with h | h
                · exact OL0.out q h
                · exact okS_code h
              have CX : Hid (∀ w', Below wr.heap.size wr w' → Calls Tryz.prog 33 #[.slice p n cap, .agg #[.string sv, .slice pe ne ce, .slice pf nf cf], .agg #[z0, z1, z2, z3, z4, z5]] w' fun e w'' => ∃ u, e = .returned u ∧ OwnS w'' w'.heap.size u (codesX ms m d y) ∧ Below w'.heap.size w' w'') := fun w' hw' => by
                have hb9 : Below w.heap.size w w' := HB0.out.trans (hw'.mono HB0.out.size)
                exact l05Exp_all d d w' _ ms _ m _ y (HMS.out w' hb9) (HMM.out w' hb9) (HY.out w' hb9) HWY.out
              generalize hJ0 : foldC ms m d (bodiesOf (cl.take a) ++ c.2.take j) L0 = J at *
              generalize hY0 : codesX ms m d y = Y at *
              have OY : Hid (∀ c ∈ Y, okS c) := fun c hc => okS_code (codesX_mem ms m d y c (by rw [hY0]; exact hc))
              clear hcs5 hcsl5 hy hJ0 hY0 hat5
              go_wp2_with fail
              go_region_law
                (first
                  | (go_simp; go_at_call 33; refine (CX.out _ (by exact (Below.refl _ _).drew)).mono ?_; rintro e w6 ⟨u6, rfl, o6, hb6⟩; have K6 : Hid (Below wr.heap.size wr w6) := ⟨hb6.os, hb6.tape, hb6.output, hb6.size, hb6.block⟩; have R6 : Hid (StrR w6 u6 Y) := o6.strR OY.out; have V6 : Hid (StrV w6 u7 J) := (ho2.out.next K6.out).strV OJ.out; clear hb6 o6; dsimp only)
                  | (go_simp; go_at_call 32; refine (once_any _ _ _ J Y V6.out R6.out HLK.out).mono ?_; rintro e w9 ⟨u9, rfl, o9, hb9⟩; have K9 : Hid (Below w6.heap.size w6 w9) := hb9; have O9 : Hid (OwnS w9 w6.heap.size u9 (onceS J Y)) := o9; clear o9 hb9; dsimp only))
              all_goals
                have HO9 : Hid (OwnS w9 (w.heap.size + 1 + 1) u9 (foldC ms m d (bodiesOf (cl.take a) ++ c.2.take (j + 1)) L0)) := by
                  show OwnS _ _ _ _
                  rw [HJ.out]
                  exact O9.out.base (Nat.le_trans hsw K6.out.size)
                have HB9 : Hid (Below (w.heap.size + 1 + 1) W2 w9) := (hb2.out.trans (K6.out.mono hsw)).trans (K9.out.mono (Nat.le_trans hsw K6.out.size))
                go_wp2_with fail
                exact ⟨⟨j + 1, by omega, by go_num, HO9, HB9⟩, by simp [intOf]; omega⟩
            · have HO9 : Hid (OwnS wr (w.heap.size + 1 + 1) u7 (foldC ms m d (bodiesOf (cl.take (a + 1))) L0)) := by
                have := ho2.out
                rw [show c.2.take j = c.2 from List.take_of_length_le (by rw [HNB.out]; omega), ← HBO.out] at this
                exact this
              clear ho2
              go_wp2_with fail
              exact ⟨⟨a + 1, by omega, by go_num, HO9, hb2⟩, by simp [intOf]; omega⟩
        · have HR : Hid (OwnS wr w.heap.size u7 (funC ms m d f)) := by
            have h1 := ho.out
            rw [List.take_of_length_le (by rw [HNC.out]; omega)] at h1
            show OwnS _ _ _ _
            rw [HFC.out]
            exact h1.base (B' := w.heap.size) (by omega)
          go_wp2_with fail
          go_ret
          exact ⟨_, rfl, HR.out, HB0.out⟩
end Go.Proofs.YtigfmdfgioccjaaGreatDoor
/-
  The specification's Check, by contract.
-/
namespace Go.Proofs.YtigfmdfgioccjaaGreatDoor
open Go.ChangeShapes Go.WideShapes Go.ChangeAt Go.RowKit
set_option linter.unusedVariables false

def exportP (m : Md) (r : Rf) : List Pb := if hasF m r.name r.arity then [] else [⟨m.name, r.name, r.arity, cExport⟩]
def funP (ms : List Md) (m : Md) (d : Nat) (f : Fn') : List Pb := (funC ms m d f).map fun c => ⟨m.name, f.name, f.arity, c⟩
def modP (ms : List Md) (d : Nat) (m : Md) : List Pb := m.exports.flatMap (exportP m) ++ m.funs.flatMap (funP ms m d)
/-- What is wrong with a program. -/
def checkP (d : Nat) (ms : List Md) : List Pb := if pgOk d ms then ms.flatMap (modP ms d) else []
/-- A row of problems that is grown by append. -/
abbrev OwnP (w : World) (B : Nat) (v : Value) (l : List Pb) : Prop := OwnG 47 4 HPb w B v l
theorem info_pb : (Tryz.prog.info? 47).map (fun i => (i.zero, i.size, i.bytes)) = some (some (.agg #[.string ⟨#[]⟩, .string ⟨#[]⟩, .int .i64 0, .string ⟨#[]⟩]), 4, 56) := by kernel_rfl

theorem flat_takeG {α β : Type} (f : α → List β) (l : List α) (k : Nat) (x : α) (h : l[k]? = some x) : (l.take (k + 1)).flatMap f = (l.take k).flatMap f ++ f x ∧ ((l.take k).flatMap f).length + (f x).length ≤ (l.flatMap f).length := by
  have e1 : (l.take (k + 1)).flatMap f = (l.take k).flatMap f ++ f x := by rw [List.take_add_one, h]; simp
  refine ⟨e1, ?_⟩
  have e2 : l.flatMap f = (l.take (k + 1)).flatMap f ++ (l.drop (k + 1)).flatMap f := by rw [← List.flatMap_append, List.take_append_drop]
  rw [e2, e1, List.length_append, List.length_append]; omega
theorem funC_len (ms : List Md) (m : Md) (d : Nat) (f : Fn') : (funC ms m d f).length ≤ 1 + wtFn d f := by
  have h1 := foldCC_len ms m d (bodiesOf f.clauses) (lsL (looseF d f))
  have h2 := sumB d f.clauses
  have h3 : (lsL (looseF d f)).length ≤ 1 := by unfold lsL; split <;> simp
  have h4 : (funC ms m d f).length ≤ (lsL (looseF d f)).length + ((bodiesOf f.clauses).map fun y => 1 + wtEx d y).sum := h1
  unfold wtFn
  omega
theorem modP_len (ms : List Md) (d : Nat) (m : Md) : (modP ms d m).length ≤ wtMd d m := by
  have h1 := flat_lenG (exportP m) (fun _ => 1) m.exports (fun r _ => by
    unfold exportP
    split
    · exact Nat.zero_le _
    · exact Nat.le_refl _)
  have h2 := flat_lenG (funP ms m d) (fun f => 1 + wtFn d f) m.funs (fun f _ => by unfold funP; rw [List.length_map]; exact funC_len ms m d f)
  have h3 : ∀ l : List Rf, (l.map fun _ => 1).sum = l.length := fun l => by
    induction l with
    | nil => rfl
    | cons y l ih => simp only [List.map_cons, List.sum_cons, List.length_cons, ih]; omega
  have h4 : ∀ l : List Fn', (l.map fun f => 1 + wtFn d f).sum = l.length + (l.map (wtFn d)).sum := fun l => by
    induction l with
    | nil => rfl
    | cons y l ih => simp only [List.map_cons, List.sum_cons, List.length_cons, ih]; omega
  rw [h3] at h1
  rw [h4] at h2
  simp only [modP, List.length_append, wtMd, wtS]
  omega
theorem allP_len (ms ms' : List Md) (d : Nat) : (ms'.flatMap (modP ms d)).length ≤ wtS (wtMd d) ms' := by
  have h1 := flat_lenG (modP ms d) (wtMd d) ms' (fun m _ => modP_len ms d m)
  unfold wtS
  omega
theorem funC_okS {ms : List Md} {m : Md} {d : Nat} {f : Fn'} {c : ByteArray} (h : c ∈ funC ms m d f) : okS c := by
  rcases foldCC_mem ms m d (bodiesOf f.clauses) (lsL (looseF d f)) c h with h | h
  · exact okS_loose h
  · exact okS_code h

theorem okS_export : okS cExport := by unfold okS; decide

set_option maxHeartbeats 16000000 in
set_option maxRecDepth 100000 in
theorem specCheck_any (d : Nat) (w : World) (v : Value) (ms : List Md) (h : Rows w All 3 (HMd w All d) v ms) (hw : wtS (wtMd d) ms ≤ 1048576) :
    Calls Tryz.prog 6 #[v] w fun e w' => ∃ u, e = .returned u ∧ OwnP w' w.heap.size u (checkP d ms) ∧ Below w.heap.size w w' := by
  have HMS : Hid (∀ w', Below w.heap.size w w' → Rows w' All 3 (HMd w' All d) v ms) := fun w' hw => h.mono (SameOn.of_below hw) (fun _ h => h) (fun _ _ _ h => h.mono (SameOn.of_below hw) (fun _ h => h))
  obtain ⟨p, cap, rfl, hcl, hcm, hx⟩ := h
  have HX : Hid (ms ≠ [] → ∃ g off, p = some ⟨g, off, none⟩ ∧ All g ∧ g < w.heap.size ∧ ∀ i x, ms[i]? = some x → ∃ cs, cs.length = 3 ∧ (∀ j, j < 3 → w.cell? ⟨g, off + i * 3 + j, none⟩ = cs[j]?) ∧ HMd w All d cs x) := hx
  have HLEN : Hid ((ms.flatMap (modP ms d)).length ≤ 1048576) := Nat.le_trans (allP_len ms ms d) hw
  have HWM : Hid (∀ k m, ms[k]? = some m → wtMd d m ≤ 1048576) := fun k m hk => Nat.le_trans (by
    have h2 := sum_take_succ (wtMd d) ms k m hk
    have h3 := sum_take_le (wtMd d) ms (k + 1)
    unfold wtS
    omega) hw
  have HV : Hid (checkP d ms = if pgOk d ms then ms.flatMap (modP ms d) else []) := rfl
  have hnb : ms.length ≤ 9223372036854775807 := by unfold maxLen at hcm; omega
  generalize hn : ms.length = n at *
  have HN : Hid (ms.length = n) := hn
  have O1 : Hid (OwnP (w.alloc (.cells #[] 47)) w.heap.size (.slice (some ⟨w.heap.size, 0, none⟩) 0 0) []) := OwnG.fresh
  have B1 : Hid (Below w.heap.size w (w.alloc (.cells #[] 47))) := (Below.refl _ _).alloc (Nat.le_refl _) _
  clear hx hn hw
  go_enter Tryz.func6, Tryz.ntmps6
  go_wp2_with fail
  refine (specProgramOk_any d _ _ ms (HMS.out _ B1.out)).mono ?_
  rintro e w1 ⟨rfl, hb⟩
  have O2 : Hid (OwnP w1 w.heap.size (.slice (some ⟨w.heap.size, 0, none⟩) 0 0) []) := O1.out.next hb
  have B2 : Hid (Below w.heap.size w w1) := B1.out.trans (hb.mono B1.out.size)
  clear hb O1 B1
  cases hc : pgOk d ms with
  | false =>
    have HV2 : Hid (checkP d ms = []) := by show _ = _; rw [HV.out, hc]; rfl
    go_wp2_with fail
    go_ret
    exact ⟨_, rfl, by rw [HV2.out]; exact O2.out, B2.out⟩
  | true =>
    have HV2 : Hid (checkP d ms = ms.flatMap (modP ms d)) := by show _ = _; rw [HV.out, hc]; rfl
    clear hc HV
    go_wp2_with fail
    go_loopw [3, 4] (fun ov iv wx => ∃ a : Nat, a ≤ n ∧ iv = .int .i64 a ∧ Hid (OwnP wx w.heap.size ov ((ms.take a).flatMap (modP ms d))) ∧ Hid (Below w.heap.size w wx)) (fun _ iv _ => n - (intOf iv).toNat)
    case atStart => exact ⟨0, Nat.zero_le _, rfl, by show OwnP _ _ _ _; simpa using O2.out, B2⟩
    case round =>
      obtain ⟨a, ha, rfl, ho, hb⟩ := hrel
      clear O2 B2
      by_cases hlt : a < n
      · obtain ⟨m, hmk⟩ : ∃ m, ms[a]? = some m := ⟨ms[a]'(by rw [HN.out]; exact hlt), List.getElem?_eq_getElem _⟩
        obtain ⟨g, off, rfl, -, hgl, hat⟩ := HX.out (by intro h; rw [h] at hmk; simp at hmk)
        obtain ⟨cs, hcsl, hcs, hm⟩ := hat a m hmk
        have HMM : Hid (∀ w', Below w.heap.size w w' → HMd w' All d cs m) := fun w' hw => hm.mono (SameOn.of_below hw) (fun _ h => h)
        obtain ⟨ev, fv, rfl, hms, he, hf⟩ := hm
        obtain ⟨pe, ce, rfl, hce, hcme, hxe⟩ := he
        obtain ⟨pf, cf, rfl, hcf, hcmf, hxf⟩ := hf
        have HXE : Hid (m.exports ≠ [] → ∃ g off, pe = some ⟨g, off, none⟩ ∧ All g ∧ g < w.heap.size ∧ ∀ i x, m.exports[i]? = some x → ∃ cs, cs.length = 2 ∧ (∀ j, j < 2 → w.cell? ⟨g, off + i * 2 + j, none⟩ = cs[j]?) ∧ HRf cs x) := hxe
        have HXF : Hid (m.funs ≠ [] → ∃ g off, pf = some ⟨g, off, none⟩ ∧ All g ∧ g < w.heap.size ∧ ∀ i x, m.funs[i]? = some x → ∃ cs, cs.length = 3 ∧ (∀ j, j < 3 → w.cell? ⟨g, off + i * 3 + j, none⟩ = cs[j]?) ∧ HFn w All d cs x) := hxf
        have HWF : Hid (∀ k f, m.funs[k]? = some f → wtFn d f ≤ 1048576) := fun k f hk => Nat.le_trans (by
          have h2 := sum_take_succ (wtFn d) m.funs k f hk
          have h3 := sum_take_le (wtFn d) m.funs (k + 1)
          unfold wtMd wtS
          omega) (HWM.out a m hmk)
        have a0 := hcs 0 (by omega)
        have a1 := hcs 1 (by omega)
        have a2 := hcs 2 (by omega)
        rw [← hb.out.cell (p := ⟨g, _, none⟩) hgl] at a0 a1 a2
        simp at a0 a1 a2
        have hki : (a : Int) < (n : Int) := by omega
        have hk0 : (0 : Int) ≤ (a : Int) := by omega
        have hne : m.exports.length ≤ 9223372036854775807 := by unfold maxLen at hcme; omega
        have hnf : m.funs.length ≤ 9223372036854775807 := by unfold maxLen at hcmf; omega
        obtain ⟨HJ, HL⟩ := flat_takeG (modP ms d) ms a m hmk
        have HJJ : Hid ((ms.take (a + 1)).flatMap (modP ms d) = (ms.take a).flatMap (modP ms d) ++ (m.exports.flatMap (exportP m) ++ m.funs.flatMap (funP ms m d))) := HJ
        have HLL : Hid (((ms.take a).flatMap (modP ms d)).length + ((m.exports.flatMap (exportP m)).length + (m.funs.flatMap (funP ms m d)).length) ≤ 1048576) := by
          have h1 := HLEN.out
          have h2 : (modP ms d m).length = (m.exports.flatMap (exportP m)).length + (m.funs.flatMap (funP ms m d)).length := by simp only [modP, List.length_append]
          show _ ≤ _
          omega
        generalize hA0 : (ms.take a).flatMap (modP ms d) = A0 at *
        generalize hn1 : m.exports.length = ne at *
        have HN1 : Hid (m.exports.length = ne) := hn1
        generalize hn2 : m.funs.length = nf at *
        have HN2 : Hid (m.funs.length = nf) := hn2
        obtain ⟨W5, hW5⟩ : ∃ W5, W5 = wr.alloc (.cells #[.string m.name, .slice pe ne ce, .slice pf nf cf] 42) := ⟨_, rfl⟩
        obtain ⟨bm, hbm⟩ : ∃ bm, bm = wr.heap.size := ⟨_, rfl⟩
        have b5 : Hid (Blk W5 bm #[.string m.name, .slice pe ne ce, .slice pf nf cf] 42) := by show Blk _ _ _ _; rw [hW5, hbm]; exact Blk.new
        have HB5 : Hid (Below w.heap.size w W5) := by show Below _ _ _; rw [hW5]; exact hb.out.alloc hb.out.size _
        have HO5 : Hid (OwnP W5 w.heap.size u3 A0) := by show OwnP _ _ _ _; rw [hW5]; exact ho.out.next ((Below.refl _ _).alloc (Nat.le_refl _) _)
        have HW5 : Hid (W5 = wr.alloc (.cells #[.string m.name, .slice pe ne ce, .slice pf nf cf] 42)) := hW5
        have HBM : Hid (wr.heap.size = bm) := hbm.symm
        have HMSN : Hid (okS m.name) := hms
        clear hxe hxf hcs hcsl hat HJ HL hA0 ho hb hW5 hbm hms hn1 hn2 hmk
        go_wp2_with fail
        rw [← HW5.out, HBM.out]
        clear a0 a1 a2 HW5 HBM
        -- the exports
        go_loopw [3, 6] (fun ov iv wx => ∃ k : Nat, k ≤ ne ∧ iv = .int .i64 k ∧ Hid (OwnP wx w.heap.size ov (A0 ++ (m.exports.take k).flatMap (exportP m))) ∧ Hid (Below w.heap.size w wx) ∧ Hid (Blk wx bm #[.string m.name, .slice pe ne ce, .slice pf nf cf] 42)) (fun _ iv _ => ne - (intOf iv).toNat)
        case atStart => exact ⟨0, Nat.zero_le _, rfl, by show OwnP _ _ _ _; simpa using HO5.out, HB5, b5⟩
        case round =>
          obtain ⟨k, hk, rfl, ho, hb, bb⟩ := hrel
          clear HO5 HB5 b5
          have x0 := bb.out.cell 0 _ rfl
          have x1 := bb.out.cell 1 _ rfl
          have x2 := bb.out.cell 2 _ rfl
          by_cases hlk : k < ne
          · obtain ⟨r, hrk⟩ : ∃ r, m.exports[k]? = some r := ⟨m.exports[k]'(by rw [HN1.out]; exact hlk), List.getElem?_eq_getElem _⟩
            obtain ⟨g6, o6, rfl, -, hgl6, hat6⟩ := HXE.out (by intro h; rw [h] at hrk; simp at hrk)
            obtain ⟨cs6, hcsl6, hcs6, rfl, hrs, hri⟩ := hat6 k r hrk
            have a0 := hcs6 0 (by omega)
            have a1 := hcs6 1 (by omega)
            rw [← hb.out.cell (p := ⟨g6, _, none⟩) hgl6] at a0 a1
            simp at a0 a1
            have hki6 : (k : Int) < (ne : Int) := by omega
            have hk06 : (0 : Int) ≤ (k : Int) := by omega
            obtain ⟨HJ, HL⟩ := flat_takeG (exportP m) m.exports k r hrk
            have HJ6 : Hid ((m.exports.take (k + 1)).flatMap (exportP m) = (m.exports.take k).flatMap (exportP m) ++ exportP m r) := HJ
            have HL6 : Hid ((A0 ++ (m.exports.take k).flatMap (exportP m)).length + (exportP m r).length ≤ 1048576) := by
              have h1 := HLL.out
              show _ ≤ _
              rw [List.length_append]
              omega
            have HEP : Hid (exportP m r = if hasF m r.name r.arity then [] else [⟨m.name, r.name, r.arity, cExport⟩]) := rfl
            obtain ⟨rs, rn⟩ := r
            simp only at *
            have HPB : Hid (HPb [.string m.name, .string rs, .int .i64 rn, .string ⟨#[101, 120, 112, 111, 114, 116]⟩] ⟨m.name, rs, rn, cExport⟩) := ⟨rfl, HMSN.out, hrs, hri, okS_export⟩
            obtain ⟨W6, hW6⟩ : ∃ W6, W6 = wr.alloc (.cells #[.string rs, .int .i64 rn] 44) := ⟨_, rfl⟩
            obtain ⟨br, hbr⟩ : ∃ br, br = wr.heap.size := ⟨_, rfl⟩
            have hbl : Below wr.heap.size wr W6 := by rw [hW6]; exact (Below.refl _ _).alloc (Nat.le_refl _) _
            have br6 : Hid (Blk W6 br #[.string rs, .int .i64 rn] 44) := by show Blk _ _ _ _; rw [hW6, hbr]; exact Blk.new
            have bm6 : Hid (Blk W6 bm #[.string m.name, .slice (some ⟨g6, o6, none⟩) ne ce, .slice pf nf cf] 42) := bb.out.next hbl
            have HB6 : Hid (Below w.heap.size w W6) := hb.out.trans (hbl.mono hb.out.size)
            have HO6 : Hid (OwnP W6 w.heap.size u3 (A0 ++ (m.exports.take k).flatMap (exportP m))) := ho.out.next hbl
            have HW6 : Hid (W6 = wr.alloc (.cells #[.string rs, .int .i64 rn] 44)) := hW6
            have HBR : Hid (wr.heap.size = br) := hbr.symm
            have y0 := bm6.out.cell 0 _ rfl
            have y1 := bm6.out.cell 1 _ rfl
            have y2 := bm6.out.cell 2 _ rfl
            rw [hW6] at y0 y1 y2
            generalize hJ0 : A0 ++ (m.exports.take k).flatMap (exportP m) = J at *
            have HJ0 : Hid (A0 ++ (m.exports.take k).flatMap (exportP m) = J) := hJ0
            clear hcs6 hcsl6 hat6 HJ HL hW6 hbr hbl hJ0 hrk hrs hri ho hb bb
            go_wp2_with fail
            rw [← HW6.out]
            clear y0 y1 y2 x0 x1 x2 a0 a1
            refine (l02FindI_any d _ _ m rs rn (HMM.out _ HB6.out)).mono ?_
            rintro e w7 ⟨rfl, hb7⟩
            have K7 : Hid (Below W6.heap.size W6 w7) := hb7
            have br7 : Hid (Blk w7 br #[.string rs, .int .i64 rn] 44) := br6.out.next hb7
            have bm7 : Hid (Blk w7 bm #[.string m.name, .slice (some ⟨g6, o6, none⟩) ne ce, .slice pf nf cf] 42) := bm6.out.next hb7
            have HB7 : Hid (Below w.heap.size w w7) := HB6.out.trans (hb7.mono HB6.out.size)
            have HO7 : Hid (OwnP w7 w.heap.size u3 J) := HO6.out.next hb7
            clear hb7
            rw [HBR.out]
            have y0 := bm7.out.cell 0 _ rfl
            have r0 := br7.out.cell 0 _ rfl
            have r1 := br7.out.cell 1 _ rfl
            rcases findI_cases (sameR ⟨rs, rn⟩) m.funs with ⟨hf, hfi⟩ | ⟨q, z, hf, -, -, hfi, -⟩
            · rw [hfi]
              have HE2 : Hid (exportP m ⟨rs, rn⟩ = [⟨m.name, rs, rn, cExport⟩]) := by show _ = _; rw [HEP.out, show hasF m rs rn = false from hf]; rfl
              clear hf hfi
              go_wp2_with (at_builtin; refine wpList_append_one rfl _ _ 24 rfl _ 56 Tryz.underlying24 info_pb rfl (by decide) HO7.out #[.string m.name, .string rs, .int .i64 rn, .string ⟨#[101, 120, 112, 111, 114, 116]⟩] ⟨m.name, rs, rn, cExport⟩ HPB.out rfl (pb_oneCell _ _ HPB.out) rfl rfl (by have := HL6.out; rw [HE2.out] at this; exact this) (by decide) ?_; intro v9 w9 ho9 hb9 hap9)
              have HO9 : Hid (OwnP w9 w.heap.size v9 (A0 ++ (m.exports.take (k + 1)).flatMap (exportP m))) := by show OwnP _ _ _ _; rw [HJ6.out, ← List.append_assoc, HJ0.out, HE2.out]; exact ho9
              have HB9 : Hid (Below w.heap.size w w9) := HB7.out.trans hb9
              have b9 : Hid (Blk w9 bm #[.string m.name, .slice (some ⟨g6, o6, none⟩) ne ce, .slice pf nf cf] 42) := hap9.blk bm7.out (by decide)
              clear ho9 hb9 hap9
              go_wp2_with fail
              exact ⟨⟨k + 1, by omega, by go_num, HO9, HB9, b9⟩, by simp [intOf]; omega⟩
            · rw [hfi]
              have HO9 : Hid (OwnP w7 w.heap.size u3 (A0 ++ (m.exports.take (k + 1)).flatMap (exportP m))) := by show OwnP _ _ _ _; rw [HJ6.out, ← List.append_assoc, HJ0.out, HEP.out, show hasF m rs rn = true from hf]; simpa using HO7.out
              have hq0 : ¬ (q : Int) < 0 := by omega
              clear hf hfi
              go_wp2_with fail
              exact ⟨⟨k + 1, by omega, by go_num, HO9, HB7, bm7⟩, by simp [intOf]; omega⟩
          · have HO5 : Hid (OwnP wr w.heap.size u3 (A0 ++ m.exports.flatMap (exportP m))) := by
              have := ho.out
              rwa [show m.exports.take k = m.exports from List.take_of_length_le (by rw [HN1.out]; omega)] at this
            have HLF : Hid ((A0 ++ m.exports.flatMap (exportP m)).length + (m.funs.flatMap (funP ms m d)).length ≤ 1048576) := by
              have h1 := HLL.out
              show _ ≤ _
              rw [List.length_append]
              omega
            have HJF : Hid ((ms.take (a + 1)).flatMap (modP ms d) = (A0 ++ m.exports.flatMap (exportP m)) ++ m.funs.flatMap (funP ms m d)) := by show _ = _; rw [HJJ.out, List.append_assoc]
            generalize A0 ++ m.exports.flatMap (exportP m) = A1 at *
            clear ho HJJ HLL HXE HN1
            go_wp2_with fail
            clear x0 x1 x2 hlk hk
            -- the functions
            go_loopw [3, 8] (fun ov iv wx => ∃ k : Nat, k ≤ nf ∧ iv = .int .i64 k ∧ Hid (OwnP wx w.heap.size ov (A1 ++ (m.funs.take k).flatMap (funP ms m d))) ∧ Hid (Below w.heap.size w wx) ∧ Hid (Blk wx bm #[.string m.name, .slice pe ne ce, .slice pf nf cf] 42)) (fun _ iv _ => nf - (intOf iv).toNat)
            case atStart => exact ⟨0, Nat.zero_le _, rfl, by show OwnP _ _ _ _; simpa using HO5.out, hb, bb⟩
            case round =>
              obtain ⟨k, hk, rfl, ho, hb, bb⟩ := hrel
              clear HO5
              have x0 := bb.out.cell 0 _ rfl
              have x1 := bb.out.cell 1 _ rfl
              have x2 := bb.out.cell 2 _ rfl
              by_cases hlk : k < nf
              · obtain ⟨f, hfk⟩ : ∃ f, m.funs[k]? = some f := ⟨m.funs[k]'(by rw [HN2.out]; exact hlk), List.getElem?_eq_getElem _⟩
                obtain ⟨g6, o6, rfl, -, hgl6, hat6⟩ := HXF.out (by intro h; rw [h] at hfk; simp at hfk)
                obtain ⟨cs6, hcsl6, hcs6, hf⟩ := hat6 k f hfk
                have HFF : Hid (∀ w', Below w.heap.size w w' → HFn w' All d cs6 f) := fun w' hw => hf.mono (SameOn.of_below hw) (fun _ h => h)
                have HCELL : Hid (∀ w', Below w.heap.size w w' → ∀ j, j < 3 → w'.cell? ⟨g6, o6 + k * 3 + j, none⟩ = cs6[j]?) := fun w' hw j hj => (hw.cell (p := ⟨g6, _, none⟩) hgl6).trans (hcs6 j hj)
                obtain ⟨fv6, rfl, hfs, hfi, p6, q6, rfl, -⟩ := hf
                have a0 := HCELL.out _ hb.out 0 (by omega)
                have a1 := HCELL.out _ hb.out 1 (by omega)
                have a2 := HCELL.out _ hb.out 2 (by omega)
                simp at a0 a1 a2
                have hki6 : (k : Int) < (nf : Int) := by omega
                have hk06 : (0 : Int) ≤ (k : Int) := by omega
                obtain ⟨HJ, HL⟩ := flat_takeG (funP ms m d) m.funs k f hfk
                have HJ6 : Hid (A1 ++ (m.funs.take (k + 1)).flatMap (funP ms m d) = (A1 ++ (m.funs.take k).flatMap (funP ms m d)) ++ funP ms m d f) := by show _ = _; rw [HJ, List.append_assoc]
                have HL6 : Hid ((A1 ++ (m.funs.take k).flatMap (funP ms m d)).length + (funP ms m d f).length ≤ 1048576) := by
                  have h1 := HLF.out
                  show _ ≤ _
                  rw [List.length_append]
                  omega
                have HFP : Hid (funP ms m d f = (funC ms m d f).map fun c => ⟨m.name, f.name, f.arity, c⟩) := rfl
                have HPB : Hid (∀ c, c ∈ funC ms m d f → HPb [.string m.name, .string f.name, .int .i64 f.arity, .string c] ⟨m.name, f.name, f.arity, c⟩) := fun c hc => ⟨rfl, HMSN.out, hfs, hfi, funC_okS hc⟩
                have CF : Hid (∀ w', Below wr.heap.size wr w' → Calls Tryz.prog 19 #[.slice (some ⟨g, off, none⟩) n cap, .agg #[.string m.name, .slice pe ne ce, .slice (some ⟨g6, o6, none⟩) nf cf], .agg #[.string f.name, .int .i64 f.arity, .slice p6 f.clauses.length q6]] w' fun e w'' => ∃ u, e = .returned u ∧ OwnS w'' w'.heap.size u (funC ms m d f) ∧ Below w'.heap.size w' w'') := fun w' hw' => by
                  have hb9 : Below w.heap.size w w' := hb.out.trans (hw'.mono hb.out.size)
                  exact l05Fun_any d w' _ ms _ m _ f (HMS.out w' hb9) (HMM.out w' hb9) (HFF.out w' hb9) (HWF.out k f hfk)
                generalize hJ0 : A1 ++ (m.funs.take k).flatMap (funP ms m d) = J at *
                clear hcs6 hcsl6 hat6 HJ HL hJ0 hfs hfi
                go_wp2_with fail
                go_region_law
                  (first
                    | (go_simp; go_at_call 19; refine (CF.out _ (by exact (Below.refl _ _).drew)).mono ?_; rintro e w7 ⟨u7, rfl, o7, hb7⟩; have K7 : Hid (Below wr.heap.size wr w7) := ⟨hb7.os, hb7.tape, hb7.output, hb7.size, hb7.block⟩; have O7 : Hid (w7.ownsRow 0 9 1 u7 (funC ms m d f).length (strs (funC ms m d f))) := owns_base o7.1; clear hb7 o7; dsimp only))
                all_goals
                  obtain ⟨p7, q7, rfl, hcm7⟩ := owns_slice O7.out
                  have hn7 : (funC ms m d f).length ≤ 9223372036854775807 := by unfold maxLen at hcm7; omega
                  generalize hC0 : funC ms m d f = C at *
                  generalize hnC : C.length = nC at *
                  have HNC : Hid (C.length = nC) := hnC
                  have HO7 : Hid (OwnP w7 w.heap.size u3 J) := ho.out.next K7.out
                  have HB7 : Hid (Below w.heap.size w w7) := hb.out.trans (K7.out.mono hb.out.size)
                  have b7 : Hid (Blk w7 bm #[.string m.name, .slice pe ne ce, .slice (some ⟨g6, o6, none⟩) nf cf] 42) := bb.out.next K7.out
                  clear x0 x1 x2 a0 a1 a2 ho hb bb K7 hC0 hnC CF hcm7
                  go_wp2_with fail
                  -- the codes
                  go_loopw [3, 10] (fun ov iv wx => ∃ j : Nat, j ≤ nC ∧ iv = .int .i64 j ∧ Hid (OwnP wx w.heap.size ov (J ++ (C.take j).map fun c => ⟨m.name, f.name, f.arity, c⟩)) ∧ Hid (Below w.heap.size w wx) ∧ Hid (Blk wx bm #[.string m.name, .slice pe ne ce, .slice (some ⟨g6, o6, none⟩) nf cf] 42) ∧ Hid (wx.ownsRow 0 9 1 (.slice p7 nC q7) nC (strs C))) (fun _ iv _ => nC - (intOf iv).toNat)
                  case atStart => exact ⟨0, Nat.zero_le _, rfl, by show OwnP _ _ _ _; simpa using HO7.out, HB7, b7, O7⟩
                  case round =>
                    obtain ⟨j, hj, rfl, ho, hb, bb, oc⟩ := hrel
                    clear HO7 HB7 b7 O7
                    by_cases hlj : j < nC
                    · obtain ⟨c, hcj⟩ : ∃ c, C[j]? = some c := ⟨C[j]'(by rw [HNC.out]; exact hlj), List.getElem?_eq_getElem _⟩
                      obtain ⟨g8, rfl⟩ := owns_some oc.out (by omega)
                      have a8' : (strs C)[j]? = some (.string c) := by simp [strs, hcj]
                      have a8 := (oc.out.cellAt j (by omega)).trans a8'
                      have x0 := bb.out.cell 0 _ rfl
                      have x1 := bb.out.cell 1 _ rfl
                      have x2 := bb.out.cell 2 _ rfl
                      have a0 := HCELL.out _ hb.out 0 (by omega)
                      have a1 := HCELL.out _ hb.out 1 (by omega)
                      simp at a0 a1
                      have hji : (j : Int) < (nC : Int) := by omega
                      have hj0 : (0 : Int) ≤ (j : Int) := by omega
                      have HPC := HPB.out c (List.mem_of_getElem? hcj)
                      have HPC2 : Hid (HPb [.string m.name, .string f.name, .int .i64 f.arity, .string c] ⟨m.name, f.name, f.arity, c⟩) := HPC
                      have HJ9 : Hid (J ++ ((C.take (j + 1)).map fun c => (⟨m.name, f.name, f.arity, c⟩ : Pb)) = (J ++ (C.take j).map fun c => ⟨m.name, f.name, f.arity, c⟩) ++ [⟨m.name, f.name, f.arity, c⟩]) := by
                        show _ = _
                        rw [List.take_add_one, hcj]; simp
                      have HL9 : Hid ((J ++ ((C.take j).map fun c => (⟨m.name, f.name, f.arity, c⟩ : Pb))).length + 1 ≤ 1048576) := by
                        have h1 := HL6.out
                        rw [HFP.out, List.length_map, HNC.out] at h1
                        show _ ≤ _
                        rw [List.length_append, List.length_map, List.length_take]
                        omega
                      generalize (J ++ ((C.take j).map fun c => (⟨m.name, f.name, f.arity, c⟩ : Pb))) = J9 at *
                      clear HPC hcj
                      have HOA : Hid (OwnP (wr.alloc (.cells #[.string m.name, .string f.name, .int .i64 f.arity, .string c] 47)).drew w.heap.size u3 J9) := ho.out.next ((Below.refl _ _).alloc (Nat.le_refl _) _).drew
                      have HGA : Hid ((wr.alloc (.cells #[.string m.name, .string f.name, .int .i64 f.arity, .string c] 47)).drew.heap[wr.heap.size]? = some (Obj.cells #[.string m.name, .string f.name, .int .i64 f.arity, .string c] 47 (0, 0))) := heap_alloc_new wr _
                      have HBA : Hid (Below w.heap.size w (wr.alloc (.cells #[.string m.name, .string f.name, .int .i64 f.arity, .string c] 47)).drew) := (hb.out.alloc hb.out.size _).drew
                      have HAA : Hid (ApartE 47 wr (wr.alloc (.cells #[.string m.name, .string f.name, .int .i64 f.arity, .string c] 47)).drew) := ApartE.of_below ((Below.refl _ _).alloc (Nat.le_refl _) _).drew
                      have NXT : Hid (∀ w9, Below w.heap.size (wr.alloc (.cells #[.string m.name, .string f.name, .int .i64 f.arity, .string c] 47)).drew w9 → ApartE 47 (wr.alloc (.cells #[.string m.name, .string f.name, .int .i64 f.arity, .string c] 47)).drew w9 → w9.cell? ⟨bm, 0, none⟩ = some (.string m.name) ∧ w9.cell? ⟨bm, 2, none⟩ = some (.slice (some ⟨g6, o6, none⟩) nf cf) ∧ w9.cell? ⟨g6, o6 + k * 3, none⟩ = some (.string f.name) ∧ w9.cell? ⟨g6, o6 + k * 3 + 1, none⟩ = some (.int .i64 f.arity) ∧ w9.cell? ⟨g8, j, none⟩ = some (.string c)) := fun w9 hb9 hap9 => by
                        have q0 := (HAA.out.trans hap9).blk bb.out (by decide)
                        have q1 := HCELL.out w9 (HBA.out.trans hb9)
                        have q2 := (HAA.out.trans hap9).owns oc.out (by decide)
                        exact ⟨q0.cell 0 _ rfl, q0.cell 2 _ rfl, by simpa using q1 0 (by omega), by simpa using q1 1 (by omega), (q2.cellAt j (by omega)).trans a8'⟩
                      clear x1
                      go_wp2_with fail
                      go_region_held3 (fun w' => w'.cell? ⟨bm, 0, none⟩ = some (.string m.name) ∧ w'.cell? ⟨bm, 2, none⟩ = some (.slice (some ⟨g6, o6, none⟩) nf cf) ∧ w'.cell? ⟨g6, o6 + k * 3, none⟩ = some (.string f.name) ∧ w'.cell? ⟨g6, o6 + k * 3 + 1, none⟩ = some (.int .i64 f.arity) ∧ w'.cell? ⟨g8, j, none⟩ = some (.string c))
                        (first | go_keep | (go_split_ands; refine ⟨?_, ?_, ?_, ?_, ?_⟩ <;> exact cell_next ((Below.refl _ _).alloc (Nat.le_refl _) _) (by assumption)) | exact nx9)
                        (first
                          | (refine step_append_blk (by rfl) _ _ _ (by rfl) _ 56 Tryz.underlying24 info_pb rfl (by decide) HOA.out wr.heap.size #[.string m.name, .string f.name, .int .i64 f.arity, .string c] HGA.out ⟨m.name, f.name, f.arity, c⟩ HPC2.out rfl (pb_oneCell _ _ HPC2.out) (by rfl) (by rfl) HL9.out (by decide) ?_; intro v9 w9 ho9 hb9 hap9; have nx9 := NXT.out w9 hb9 hap9))
                      all_goals
                        have HO9 : Hid (OwnP w9 w.heap.size v9 (J ++ (C.take (j + 1)).map fun c => ⟨m.name, f.name, f.arity, c⟩)) := by show OwnP _ _ _ _; rw [HJ9.out]; exact ho9
                        have HB9 : Hid (Below w.heap.size w w9) := HBA.out.trans hb9
                        have b9 : Hid (Blk w9 bm #[.string m.name, .slice pe ne ce, .slice (some ⟨g6, o6, none⟩) nf cf] 42) := (HAA.out.trans hap9).blk bb.out (by decide)
                        have oc9 : Hid (w9.ownsRow 0 9 1 (.slice (some ⟨g8, 0, none⟩) nC q7) nC (strs C)) := (HAA.out.trans hap9).owns oc.out (by decide)
                        clear ho9 hb9 hap9
                        go_wp2_with fail
                        exact ⟨⟨j + 1, by omega, by go_num, HO9, HB9, b9, oc9⟩, by simp [intOf]; omega⟩
                    · have HO9 : Hid (OwnP wr w.heap.size u3 (A1 ++ (m.funs.take (k + 1)).flatMap (funP ms m d))) := by
                        have h1 := ho.out
                        rw [show C.take j = C from List.take_of_length_le (by rw [HNC.out]; omega)] at h1
                        show OwnP _ _ _ _
                        rw [HJ6.out, HFP.out]
                        exact h1
                      clear ho
                      go_wp2_with fail
                      exact ⟨⟨k + 1, by omega, by go_num, HO9, hb, bb⟩, by simp [intOf]; omega⟩
              · have HO9 : Hid (OwnP wr w.heap.size u3 ((ms.take (a + 1)).flatMap (modP ms d))) := by
                  have h1 := ho.out
                  rw [show m.funs.take k = m.funs from List.take_of_length_le (by rw [HN2.out]; omega)] at h1
                  show OwnP _ _ _ _
                  rw [HJF.out]
                  exact h1
                clear ho
                go_wp2_with fail
                exact ⟨⟨a + 1, by omega, by go_num, HO9, hb⟩, by simp [intOf]; omega⟩
      · have HR : Hid (OwnP wr w.heap.size u3 (checkP d ms)) := by
          have h1 := ho.out
          rw [show ms.take a = ms from List.take_of_length_le (by rw [HN.out]; omega)] at h1
          show OwnP _ _ _ _
          rw [HV2.out]
          exact h1
        clear ho
        go_wp2_with fail
        go_ret
        exact ⟨_, rfl, HR.out, hb.out⟩
end Go.Proofs.YtigfmdfgioccjaaGreatDoor
/-
  Going through expressions with a function that is told each: what it may write, and the state that it leads from one to the next.
-/
namespace Go.Proofs.YtigfmdfgioccjaaGreatDoor
open Go.ChangeShapes Go.WideShapes Go.ChangeAt Go.RowKit
set_option linter.unusedVariables false

/-- An expression and all within, in the order in which the program tells them. -/
def preX : Nat → Ex → List Ex
  | 0, _ => []
  | d + 1, x => x :: (x.kids.flatMap (preX d) ++ x.clauses.flatMap fun c => c.1.flatMap (preX d) ++ c.2.flatMap (preX d))

/-- From w to w' nothing has turned but blocks of M and new ones; what may be written then is M'. -/
structure Mv (M M' : Nat → Prop) (w w' : World) : Prop where
  os : w'.os = w.os
  tape : w'.tape = w.tape
  output : w'.output = w.output
  size : w.heap.size ≤ w'.heap.size
  block : ∀ g, g < w.heap.size → ¬ M g → w'.heap[g]? = w.heap[g]?
  more : ∀ g, M' g → M g ∨ w.heap.size ≤ g
theorem Mv.refl (M : Nat → Prop) (w : World) : Mv M M w w := ⟨rfl, rfl, rfl, Nat.le_refl _, fun _ _ _ => rfl, fun _ h => Or.inl h⟩
theorem Mv.trans {M M' M'' : Nat → Prop} {a b c : World} (h : Mv M M' a b) (k : Mv M' M'' b c) : Mv M M'' a c :=
  ⟨k.os.trans h.os, k.tape.trans h.tape, k.output.trans h.output, Nat.le_trans h.size k.size, fun g hg hm => by
    refine (k.block g (Nat.lt_of_lt_of_le hg h.size) (fun e => ?_)).trans (h.block g hg hm)
    rcases h.more g e with e | e
    · exact hm e
    · omega, fun g hg => by
    rcases k.more g hg with e | e
    · exact h.more g e
    · exact Or.inr (Nat.le_trans h.size e)⟩
theorem Mv.of_below {M : Nat → Prop} {a b : World} (h : Below a.heap.size a b) : Mv M M a b := ⟨h.os, h.tape, h.output, h.size, fun g hg _ => h.block g hg, fun _ h => Or.inl h⟩
theorem Mv.below {M M' : Nat → Prop} {a b : World} {N : Nat} (h : Mv M M' a b) (hM : ∀ g, M g → N ≤ g) (hN : N ≤ a.heap.size) : Below N a b :=
  ⟨h.os, h.tape, h.output, h.size, fun g hg => h.block g (by omega) (fun e => by have := hM g e; omega)⟩
theorem Mv.sameOn {M M' S : Nat → Prop} {a b : World} (h : Mv M M' a b) (hS : ∀ g, S g → ¬ M g) : SameOn S a b := ⟨h.size, fun g hs hg => h.block g hg (hS g hs)⟩
theorem Mv.blk {M M' : Nat → Prop} {a b : World} {g : Nat} {cs : Array Value} {t : TypeId} (h : Mv M M' a b) (hb : Blk a g cs t) (hM : ¬ M g) : Blk b g cs t := (h.block g hb.lt hM).trans hb

section
variable {σ : Type}
/-- The state behind a list, where each step is allowed. -/
def Runs (ok : σ → Ex → Prop) (st : σ → Ex → σ) : σ → List Ex → Prop
  | _, [] => True
  | s, x :: l => ok s x ∧ Runs ok st (st s x) l
theorem Runs.append {ok : σ → Ex → Prop} {st : σ → Ex → σ} : ∀ {s : σ} {a b : List Ex}, Runs ok st s (a ++ b) ↔ Runs ok st s a ∧ Runs ok st (a.foldl st s) b
  | s, [], b => by simp [Runs]
  | s, x :: a, b => by simp [Runs, Runs.append (s := st s x) (a := a) (b := b), and_assoc]
theorem Runs.take {ok : σ → Ex → Prop} {st : σ → Ex → σ} {s : σ} {α : Type} {f : α → List Ex} {l : List α} (k : Nat) (x : α) (h : Runs ok st s (l.flatMap f)) (hk : l[k]? = some x) :
    Runs ok st (((l.take k).flatMap f).foldl st s) (f x) ∧ (((l.take (k + 1)).flatMap f).foldl st s) = (f x).foldl st (((l.take k).flatMap f).foldl st s) := by
  have e1 : (l.take (k + 1)).flatMap f = (l.take k).flatMap f ++ f x := by rw [List.take_add_one, hk]; simp
  have e2 : l.flatMap f = (l.take (k + 1)).flatMap f ++ (l.drop (k + 1)).flatMap f := by rw [← List.flatMap_append, List.take_append_drop]
  rw [e2, e1, List.append_assoc, Runs.append, Runs.append] at h
  exact ⟨h.2.1, by rw [e1, List.foldl_append]⟩

/-- A function F with the captured box tb, told an expression: the state of what it holds (I) goes from s to st s x; it writes into blocks of M alone, none of which is one of S, where the expressions lie. -/
structure Tells (F : FuncId) (tb : Nat) (I : World → (Nat → Prop) → σ → Prop) (ok : σ → Ex → Prop) (st : σ → Ex → σ) (S : Nat → Prop) : Prop where
  off : ∀ w M s, I w M s → (∀ g, S g → ¬ M g) ∧ (∀ g, M g → g < w.heap.size) ∧ (∀ g, S g → g < w.heap.size)
  next : ∀ w w' M s, I w M s → Below w.heap.size w w' → I w' M s
  call : ∀ w M s d cs x, I w M s → HEx w S d cs x → ok s x → Calls Tryz.prog F #[.agg cs.toArray, .pointer (some ⟨tb, 0, none⟩)] w fun e w' => e = .returned (.tuple #[]) ∧ ∃ M', I w' M' (st s x) ∧ Mv M M' w w'
end
end Go.Proofs.YtigfmdfgioccjaaGreatDoor
/-
  The program's eachExp and eachOf, with the function impl.eachCall$1.
-/
namespace Go.Proofs.YtigfmdfgioccjaaGreatDoor
open Go.ChangeShapes Go.WideShapes Go.ChangeAt Go.RowKit
set_option linter.unusedVariables false
set_option maxRecDepth 100000

section
variable {σ : Type} {tb : Nat} {I : World → (Nat → Prop) → σ → Prop} {ok : σ → Ex → Prop} {st : σ → Ex → σ} {S : Nat → Prop}
abbrev FVC (tb : Nat) : Value := .func (.func 94) #[] #[.pointer (some ⟨tb, 0, none⟩)]
theorem shapeC {w : World} {S : Nat → Prop} {d : Nat} {cs : List Value} {x : Ex} (h : HEx w S d cs x) : ∃ sk sn st se p1 n1 q1 p2 n2 q2, cs = [.int .i64 sk, .int .i64 sn, .string st, .string se, .slice p1 n1 q1, .slice p2 n2 q2] := by
  cases d with
  | zero => exact h.elim
  | succ d =>
    obtain ⟨kv, cv, rfl, _, _, _, _, ⟨p1, c1, rfl, _⟩, ⟨p2, c2, rfl, _⟩⟩ := h
    exact ⟨_, _, _, _, _, _, _, _, _, _, rfl⟩
def EeTC (tb : Nat) (I : World → (Nat → Prop) → σ → Prop) (ok : σ → Ex → Prop) (st : σ → Ex → σ) (S : Nat → Prop) (d : Nat) : Prop := ∀ (w : World) (M : Nat → Prop) (s : σ) (cs : List Value) (x : Ex), HEx w S d cs x → I w M s → Runs ok st s (preX d x) →
    Calls Tryz.prog 113 #[.agg cs.toArray, FVC tb] w fun e w' => e = .returned (.tuple #[]) ∧ ∃ M', I w' M' ((preX d x).foldl st s) ∧ Mv M M' w w'
def EoTC (tb : Nat) (I : World → (Nat → Prop) → σ → Prop) (ok : σ → Ex → Prop) (st : σ → Ex → σ) (S : Nat → Prop) (d : Nat) : Prop := ∀ (w : World) (M : Nat → Prop) (s : σ) (v : Value) (es : List Ex), Rows w S 6 (HEx w S d) v es → I w M s → Runs ok st s (es.flatMap (preX d)) →
    Calls Tryz.prog 93 #[v, FVC tb] w fun e w' => e = .returned (.tuple #[]) ∧ ∃ M', I w' M' ((es.flatMap (preX d)).foldl st s) ∧ Mv M M' w w'

set_option maxHeartbeats 8000000 in
theorem eachOfC_of (T : Tells 94 tb I ok st S) {d : Nat} (hE : EeTC tb I ok st S d) : EoTC tb I ok st S d := by
  intro w M s v es hr hv hK
  obtain ⟨p, cap, rfl, hcl, hcm, hx⟩ := hr
  have hnb : es.length ≤ 9223372036854775807 := by unfold maxLen at hcm; omega
  have HX : Hid (es ≠ [] → ∃ g off, p = some ⟨g, off, none⟩ ∧ S g ∧ g < w.heap.size ∧ ∀ i x, es[i]? = some x → ∃ cs, cs.length = 6 ∧ (∀ j, j < 6 → w.cell? ⟨g, off + i * 6 + j, none⟩ = cs[j]?) ∧ HEx w S d cs x) := hx
  have HV : Hid (I w M s) := hv
  have HK : Hid (Runs ok st s (es.flatMap (preX d))) := hK
  have HOF : Hid (∀ g, S g → ¬ M g) := (T.off w M s hv).1
  generalize hn : es.length = n at *
  have HN : Hid (es.length = n) := hn
  clear hx hv hK hn
  go_enter Tryz.func93, Tryz.ntmps93
  go_wp2_with fail
  go_loopw [8] (fun iv wr => ∃ k : Nat, k ≤ n ∧ iv = .int .i64 k ∧ Hid (∃ M', I wr M' (((es.take k).flatMap (preX d)).foldl st s) ∧ Mv M M' w wr)) (fun iv _ => n - (intOf iv).toNat)
  case atStart => exact ⟨0, Nat.zero_le _, rfl, ⟨M, by simpa using HV.out, Mv.refl _ _⟩⟩
  case round =>
    obtain ⟨k, hk, rfl, HVk⟩ := hrel
    obtain ⟨Mk, ik, mk⟩ := HVk.out
    have IK : Hid (I wr Mk (((es.take k).flatMap (preX d)).foldl st s)) := ik
    have MK : Hid (Mv M Mk w wr) := mk
    clear HVk ik mk
    by_cases hlt : k < n
    · obtain ⟨x, hxk⟩ : ∃ x, es[k]? = some x := ⟨es[k]'(by rw [HN.out]; exact hlt), List.getElem?_eq_getElem _⟩
      obtain ⟨g, off, rfl, hgm, hgl, hat⟩ := HX.out (by intro h; rw [h] at hxk; simp at hxk)
      obtain ⟨cs, hcsl, hcs, r1⟩ := hat k x hxk
      have SK : Hid (SameOn S w wr) := MK.out.sameOn HOF.out
      have E1 : Hid (HEx wr S d cs x) := r1.mono SK.out (fun _ h => h)
      obtain ⟨c0, c1, c2, c3, c4, c5, rfl⟩ := len6 hcsl
      have hge : wr.heap[g]? = w.heap[g]? := SK.out.2 g hgm hgl
      have a0 := (World.cell?_of_block (a := ⟨g, off + k * 6 + 0, none⟩) hge).trans (hcs 0 (by omega))
      have a1 := (World.cell?_of_block (a := ⟨g, off + k * 6 + 1, none⟩) hge).trans (hcs 1 (by omega))
      have a2 := (World.cell?_of_block (a := ⟨g, off + k * 6 + 2, none⟩) hge).trans (hcs 2 (by omega))
      have a3 := (World.cell?_of_block (a := ⟨g, off + k * 6 + 3, none⟩) hge).trans (hcs 3 (by omega))
      have a4 := (World.cell?_of_block (a := ⟨g, off + k * 6 + 4, none⟩) hge).trans (hcs 4 (by omega))
      have a5 := (World.cell?_of_block (a := ⟨g, off + k * 6 + 5, none⟩) hge).trans (hcs 5 (by omega))
      simp at a0 a1 a2 a3 a4 a5
      obtain ⟨hr1, hj1⟩ := Runs.take k x HK.out hxk
      have HR1 : Hid (Runs ok st (((es.take k).flatMap (preX d)).foldl st s) (preX d x)) := hr1
      have HJ1 : Hid ((((es.take (k + 1)).flatMap (preX d)).foldl st s) = (preX d x).foldl st (((es.take k).flatMap (preX d)).foldl st s)) := hj1
      generalize ((es.take k).flatMap (preX d)).foldl st s = sk at *
      have hki : (k : Int) < (n : Int) := by omega
      have hk0 : (0 : Int) ≤ (k : Int) := by omega
      clear hat hcs hcsl r1 hge hr1 hj1
      obtain ⟨sk', sn, st0, se, p1, n1, q1, p2, n2, q2, hsh⟩ := shapeC E1.out
      simp only [List.cons.injEq, and_true] at hsh
      obtain ⟨rfl, rfl, rfl, rfl, rfl, rfl⟩ := hsh
      have HBA : Hid (Below wr.heap.size wr (wr.alloc (.cells #[.int .i64 sk', .int .i64 sn, .string st0, .string se, .slice p1 n1 q1, .slice p2 n2 q2] 73))) := (Below.refl _ _).alloc (Nat.le_refl _) _
      go_wp2_with fail
      refine (hE _ Mk sk _ x (E1.out.mono (SameOn.of_below HBA.out) (fun _ h => h)) (T.next _ _ _ _ IK.out HBA.out) HR1.out).mono ?_
      rintro e w1 ⟨rfl, M1, i1, m1⟩
      have HI1 : Hid (∃ M', I w1 M' (((es.take (k + 1)).flatMap (preX d)).foldl st s) ∧ Mv M M' w w1) := ⟨M1, by rw [HJ1.out]; exact i1, (MK.out.trans (Mv.of_below HBA.out)).trans m1⟩
      clear i1 m1
      go_wp2_with fail
      exact ⟨⟨k + 1, by omega, by go_num, HI1⟩, by simp [intOf]; omega⟩
    · have HS : Hid (∃ M', I wr M' ((es.flatMap (preX d)).foldl st s) ∧ Mv M M' w wr) := ⟨Mk, by
        have := IK.out
        rwa [show es.take k = es from List.take_of_length_le (by rw [HN.out]; omega)] at this, MK.out⟩
      go_wp2_with fail
      go_end0
      exact ⟨rfl, HS.out⟩

set_option maxHeartbeats 8000000 in
theorem eachExpC_of (T : Tells 94 tb I ok st S) {d : Nat} (hO : EoTC tb I ok st S d) : EeTC tb I ok st S (d + 1) := by
  intro w M s cs x h hv hK
  have HEX : Hid (HEx w S (d + 1) cs x) := h
  obtain ⟨kv, cv, rfl, -, -, -, -, f0, f1⟩ := h
  have hpre : preX (d + 1) x = x :: (x.kids.flatMap (preX d) ++ x.clauses.flatMap fun c => c.1.flatMap (preX d) ++ c.2.flatMap (preX d)) := rfl
  rw [hpre] at hK ⊢
  simp only [List.foldl_cons, List.foldl_append]
  obtain ⟨hk0, hK⟩ := hK
  rw [Runs.append] at hK
  have HK0 : Hid (ok s x) := hk0
  have HK1 : Hid (Runs ok st (st s x) (x.kids.flatMap (preX d))) := hK.1
  have HK2 : Hid (Runs ok st ((x.kids.flatMap (preX d)).foldl st (st s x)) (x.clauses.flatMap fun c => c.1.flatMap (preX d) ++ c.2.flatMap (preX d))) := hK.2
  have HX0 : Hid (∀ w' d', HEx w' S d' [.int .i64 x.kind, .int .i64 x.n, .string x.text, .string x.mod, kv, cv] x → True) := fun _ _ _ => trivial
  have HOF : Hid ((∀ g, S g → ¬ M g) ∧ (∀ g, M g → g < w.heap.size)) := ⟨(T.off w M s hv).1, (T.off w M s hv).2.1⟩
  have F0 : Hid (Rows w S 6 (HEx w S d) kv x.kids) := f0
  obtain ⟨p, cap, rfl, -⟩ := id f0
  obtain ⟨pc, capc, rfl, hcl', hcm', hxc⟩ := f1
  have hnc : x.clauses.length ≤ 9223372036854775807 := by unfold maxLen at hcm'; omega
  have HXC : Hid (x.clauses ≠ [] → ∃ g off, pc = some ⟨g, off, none⟩ ∧ S g ∧ g < w.heap.size ∧ ∀ i c, x.clauses[i]? = some c → ∃ cs, cs.length = 2 ∧ (∀ j, j < 2 → w.cell? ⟨g, off + i * 2 + j, none⟩ = cs[j]?) ∧ HCl w S (HEx w S d) cs c) := hxc
  generalize hx1 : x.kind = kx at *
  generalize hx2 : x.n = nx at *
  generalize hx3 : x.text = tx at *
  generalize hx4 : x.mod = mx at *
  generalize hx5 : x.kids = ks at *
  generalize hx6 : x.clauses = cl at *
  clear hx1 hx2 hx3 hx4 hx5 hx6 HX0
  generalize hm : cl.length = nc at *
  have HNC : Hid (cl.length = nc) := hm
  have HBA : Hid (Below w.heap.size w (w.alloc (.cells #[.int .i64 kx, .int .i64 nx, .string tx, .string mx, .slice p ks.length cap, .slice pc nc capc] 73))) := (Below.refl _ _).alloc (Nat.le_refl _) _
  have HV : Hid (I (w.alloc (.cells #[.int .i64 kx, .int .i64 nx, .string tx, .string mx, .slice p ks.length cap, .slice pc nc capc] 73)) M s) := T.next _ _ _ _ hv HBA.out
  have bA : Hid (Blk (w.alloc (.cells #[.int .i64 kx, .int .i64 nx, .string tx, .string mx, .slice p ks.length cap, .slice pc nc capc] 73)) w.heap.size #[.int .i64 kx, .int .i64 nx, .string tx, .string mx, .slice p ks.length cap, .slice pc nc capc] 73) := Blk.new
  have nA : Hid (¬ M w.heap.size) := fun e => by have := HOF.out.2 _ e; omega
  clear f0 hxc hm hpre hv hK hk0
  go_enter Tryz.func113, Tryz.ntmps113
  go_wp2_with fail
  refine (T.call _ M s (d + 1) _ x HV.out (HEX.out.mono (SameOn.of_below HBA.out) (fun _ h => h)) HK0.out).mono ?_
  rintro e w1 ⟨rfl, M1, i1, m1⟩
  have HV1 : Hid (I w1 M1 (st s x)) := i1
  have HM1 : Hid (Mv M M1 w w1) := (Mv.of_below HBA.out).trans m1
  have b1 : Hid (Blk w1 w.heap.size #[.int .i64 kx, .int .i64 nx, .string tx, .string mx, .slice p ks.length cap, .slice pc nc capc] 73) := m1.blk bA.out nA.out
  have n1' : Hid (¬ M1 w.heap.size) := fun e => by
    rcases m1.more _ e with e | e
    · exact nA.out e
    · rw [alloc_hs] at e; omega
  have x4 := b1.out.cell 4 _ rfl
  clear i1 m1 HV bA
  go_wp2_with fail
  refine (hO _ M1 (st s x) _ ks (Rows.mono F0.out (HM1.out.sameOn HOF.out.1) (fun _ h => h) (fun _ _ _ h => h.mono (HM1.out.sameOn HOF.out.1) (fun _ h => h))) HV1.out HK1.out).mono ?_
  rintro e w2 ⟨rfl, M2, i2, m2⟩
  have HV2 : Hid (I w2 M2 ((ks.flatMap (preX d)).foldl st (st s x))) := i2
  have HM2 : Hid (Mv M M2 w w2) := HM1.out.trans m2
  have b2 : Hid (Blk w2 w.heap.size #[.int .i64 kx, .int .i64 nx, .string tx, .string mx, .slice p ks.length cap, .slice pc nc capc] 73) := m2.blk b1.out n1'.out
  have x5 := b2.out.cell 5 _ rfl
  clear i2 m2 x4 b1 HV1 HM1 n1'
  generalize hs2 : (ks.flatMap (preX d)).foldl st (st s x) = s2 at *
  have HS2 : Hid ((ks.flatMap (preX d)).foldl st (st s x) = s2) := hs2
  clear hs2
  go_wp2_with fail
  go_loopw [16] (fun iv wr => ∃ k : Nat, k ≤ nc ∧ iv = .int .i64 k ∧ Hid (∃ M', I wr M' (((cl.take k).flatMap fun c => c.1.flatMap (preX d) ++ c.2.flatMap (preX d)).foldl st s2) ∧ Mv M M' w wr)) (fun iv _ => nc - (intOf iv).toNat)
  case atStart => exact ⟨0, Nat.zero_le _, rfl, ⟨M2, by simpa using HV2.out, HM2.out⟩⟩
  case round =>
    obtain ⟨k, hk, rfl, HVk⟩ := hrel
    obtain ⟨Mk, ik, mk⟩ := HVk.out
    have IK : Hid (I wr Mk (((cl.take k).flatMap fun c => c.1.flatMap (preX d) ++ c.2.flatMap (preX d)).foldl st s2)) := ik
    have MK : Hid (Mv M Mk w wr) := mk
    clear x5 HV2 HM2 b2 HVk ik mk
    by_cases hlt : k < nc
    · obtain ⟨c, hck⟩ : ∃ c, cl[k]? = some c := ⟨cl[k]'(by rw [HNC.out]; exact hlt), List.getElem?_eq_getElem _⟩
      obtain ⟨g, off, rfl, hgm, hgl, hat⟩ := HXC.out (by intro h; rw [h] at hck; simp at hck)
      obtain ⟨cs, hcsl, hcs, pv, bv, rfl, rp, rb⟩ := hat k c hck
      have SK : Hid (SameOn S w wr) := MK.out.sameOn HOF.out.1
      have RP : Hid (Rows wr S 6 (HEx wr S d) pv c.1) := Rows.mono rp SK.out (fun _ h => h) (fun _ _ _ h => h.mono SK.out (fun _ h => h))
      have RB : Hid (Rows wr S 6 (HEx wr S d) bv c.2) := Rows.mono rb SK.out (fun _ h => h) (fun _ _ _ h => h.mono SK.out (fun _ h => h))
      obtain ⟨pp, capp, rfl, -⟩ := rp
      obtain ⟨pb, capb, rfl, -⟩ := rb
      have hge : wr.heap[g]? = w.heap[g]? := SK.out.2 g hgm hgl
      have a0 := (World.cell?_of_block (a := ⟨g, off + k * 2 + 0, none⟩) hge).trans (hcs 0 (by omega))
      have a1 := (World.cell?_of_block (a := ⟨g, off + k * 2 + 1, none⟩) hge).trans (hcs 1 (by omega))
      simp at a0 a1
      obtain ⟨hr1, hj1⟩ := Runs.take k c HK2.out hck
      rw [Runs.append] at hr1
      rw [List.foldl_append] at hj1
      generalize ((cl.take k).flatMap fun c => c.1.flatMap (preX d) ++ c.2.flatMap (preX d)).foldl st s2 = sk at *
      have HR1 : Hid (Runs ok st sk (c.1.flatMap (preX d))) := hr1.1
      have HR2 : Hid (Runs ok st ((c.1.flatMap (preX d)).foldl st sk) (c.2.flatMap (preX d))) := hr1.2
      have HJ1 : Hid (((cl.take (k + 1)).flatMap fun c => c.1.flatMap (preX d) ++ c.2.flatMap (preX d)).foldl st s2 = (c.2.flatMap (preX d)).foldl st ((c.1.flatMap (preX d)).foldl st sk)) := hj1
      have hki : (k : Int) < (nc : Int) := by omega
      have hk0 : (0 : Int) ≤ (k : Int) := by omega
      have HOK : Hid ((∀ g, S g → ¬ Mk g) ∧ ¬ Mk wr.heap.size) := ⟨(T.off wr Mk sk IK.out).1, fun e => by have := (T.off wr Mk sk IK.out).2.1 _ e; omega⟩
      have HBC : Hid (Below wr.heap.size wr (wr.alloc (.cells #[.slice pp c.1.length capp, .slice pb c.2.length capb] 69))) := (Below.refl _ _).alloc (Nat.le_refl _) _
      have bC : Hid (Blk (wr.alloc (.cells #[.slice pp c.1.length capp, .slice pb c.2.length capb] 69)) wr.heap.size #[.slice pp c.1.length capp, .slice pb c.2.length capb] 69) := Blk.new
      clear hat hcs hcsl hge hr1 hj1
      go_wp2_with fail
      refine (hO _ Mk sk _ c.1 (Rows.mono RP.out (SameOn.of_below HBC.out) (fun _ h => h) (fun _ _ _ h => h.mono (SameOn.of_below HBC.out) (fun _ h => h))) (T.next _ _ _ _ IK.out HBC.out) HR1.out).mono ?_
      rintro e w3 ⟨rfl, M3, i3, m3⟩
      have HV3 : Hid (I w3 M3 ((c.1.flatMap (preX d)).foldl st sk)) := i3
      have HM3 : Hid (Mv Mk M3 wr w3) := (Mv.of_below HBC.out).trans m3
      have b3 : Blk w3 wr.heap.size #[.slice pp c.1.length capp, .slice pb c.2.length capb] 69 := m3.blk bC.out HOK.out.2
      have y1 := b3.cell 1 _ rfl
      clear i3 m3 bC b3 a0 a1
      go_wp2_with fail
      refine (hO _ M3 ((c.1.flatMap (preX d)).foldl st sk) _ c.2 (Rows.mono RB.out (HM3.out.sameOn HOK.out.1) (fun _ h => h) (fun _ _ _ h => h.mono (HM3.out.sameOn HOK.out.1) (fun _ h => h))) HV3.out HR2.out).mono ?_
      rintro e w4 ⟨rfl, M4, i4, m4⟩
      have HI4 : Hid (∃ M', I w4 M' (((cl.take (k + 1)).flatMap fun c => c.1.flatMap (preX d) ++ c.2.flatMap (preX d)).foldl st s2) ∧ Mv M M' w w4) := ⟨M4, by rw [HJ1.out]; exact i4, (MK.out.trans HM3.out).trans m4⟩
      clear i4 m4
      go_wp2_with fail
      exact ⟨⟨k + 1, by omega, by go_num, HI4⟩, by simp [intOf]; omega⟩
    · have HS : Hid (∃ M', I wr M' ((cl.flatMap fun c => c.1.flatMap (preX d) ++ c.2.flatMap (preX d)).foldl st s2) ∧ Mv M M' w wr) := ⟨Mk, by
        have := IK.out
        rwa [show cl.take k = cl from List.take_of_length_le (by rw [HNC.out]; omega)] at this, MK.out⟩
      go_wp2_with fail
      go_end0
      exact ⟨rfl, by rw [HS2.out]; exact HS.out⟩

theorem eachExpC_all (T : Tells 94 tb I ok st S) : ∀ d, EeTC tb I ok st S d
  | 0 => fun w M s cs x h _ _ => h.elim
  | d + 1 => eachExpC_of T (eachOfC_of T (eachExpC_all T d))
theorem eachOfC_all (T : Tells 94 tb I ok st S) (d : Nat) : EoTC tb I ok st S d := eachOfC_of T (eachExpC_all T d)
end
end Go.Proofs.YtigfmdfgioccjaaGreatDoor
/-
  The function that is told each call: what is wrong with it, once.
-/
namespace Go.Proofs.YtigfmdfgioccjaaGreatDoor
open Go.ChangeShapes Go.WideShapes Go.ChangeAt Go.RowKit
set_option linter.unusedVariables false
set_option maxRecDepth 100000

/-- What the function holds: the program, the module, the function that is gone through, and the list. -/
structure CbI (d b0 : Nat) (pv : Value) (mc fc : Array Value) (ms : List Md) (m : Md) (w : World) (v : Value) (s : List Pb) : Prop where
  p : Blk w b0 #[pv] 56
  mb : Blk w (b0 + 1) mc 42
  f : Blk w (b0 + 1 + 1) fc 52
  l : Blk w (b0 + 1 + 1 + 1 + 1) #[v] 24
  own : OwnP w (b0 + 1 + 1 + 1) v s
  rows : Rows w (fun g => g < b0) 3 (HMd w (fun g => g < b0) d) pv ms
  mod : HMd w (fun g => g < b0) d mc.toList m
def MvB (b0 : Nat) (v : Value) (g : Nat) : Prop := g = b0 + 1 + 1 + 1 + 1 ∨ v.ownBlock = some g
theorem CbI.next {d b0 : Nat} {pv : Value} {mc fc : Array Value} {ms : List Md} {m : Md} {w w' : World} {v : Value} {s : List Pb} (h : CbI d b0 pv mc fc ms m w v s) (hb : Below w.heap.size w w') : CbI d b0 pv mc fc ms m w' v s :=
  ⟨h.p.next hb, h.mb.next hb, h.f.next hb, h.l.next hb, h.own.next hb, h.rows.mono (SameOn.of_below hb) (fun _ h => h) (fun _ _ _ h => h.mono (SameOn.of_below hb) (fun _ h => h)), h.mod.mono (SameOn.of_below hb) (fun _ h => h)⟩
def stC (ms : List Md) (m : Md) (fs : ByteArray) (fn : Int) (s : List Pb) (x : Ex) : List Pb := if wrongB ms m x && !(s.any (samePb ⟨m.name, fs, fn, codeOf x⟩)) then s ++ [⟨m.name, fs, fn, codeOf x⟩] else s
theorem viaDraw {w V : World} {o : Obj} (h : Below (w.alloc o).drew.heap.size (w.alloc o).drew V) : Below w.heap.size w V ∧ Below (w.alloc o).heap.size (w.alloc o) V := by
  have k : Below (w.alloc o).heap.size (w.alloc o) V := ⟨h.os, h.tape, h.output, h.size, h.block⟩
  exact ⟨((Below.refl _ _).alloc (Nat.le_refl _) _).trans (k.mono (by rw [alloc_hs]; omega)), k⟩
theorem pbSet {w : World} {b : Nat} {a0 a1 a2 a3 c0 c1 c2 c3 : Value} {t : TypeId} (h : Blk w b #[a0, a1, a2, a3] t) : Blk ((((w.setCell ⟨b, 0, none⟩ c0).setCell ⟨b, 1, none⟩ c1).setCell ⟨b, 2, none⟩ c2).setCell ⟨b, 3, none⟩ c3) b #[c0, c1, c2, c3] t :=
  (((h.same rfl).same rfl).same rfl).same rfl
theorem pbSetB {w v : World} {N b : Nat} {c0 c1 c2 c3 : Value} (h : Below N v w) (hb : N ≤ b) : Below N v ((((w.setCell ⟨b, 0, none⟩ c0).setCell ⟨b, 1, none⟩ c1).setCell ⟨b, 2, none⟩ c2).setCell ⟨b, 3, none⟩ c3) :=
  (((h.setCell hb _).setCell hb _).setCell hb _).setCell hb _
theorem okS_codeOf (x : Ex) : okS (codeOf x) := by unfold codeOf; split <;> (unfold okS; decide)

set_option maxHeartbeats 16000000 in
theorem cb_any (d dx b0 : Nat) (pv : Value) (pe : Option Addr) (ne ce : Nat) (pf : Option Addr) (nf cf : Nat) (fs : ByteArray) (fn : Int) (pc : Option Addr) (nc cc : Nat) (ms : List Md) (m : Md) (w : World) (v : Value) (s : List Pb) (cs : List Value) (x : Ex)
    (h : CbI d b0 pv #[.string m.name, .slice pe ne ce, .slice pf nf cf] #[.string fs, .int .i64 fn, .slice pc nc cc] ms m w v s) (hx : HEx w All dx cs x) (hok : okS m.name ∧ okS fs ∧ okI fn) (hl : s.length + 1 ≤ 1048576) :
    Calls Tryz.prog 68 #[.agg cs.toArray, .pointer (some ⟨b0, 0, none⟩), .pointer (some ⟨b0 + 1, 0, none⟩), .pointer (some ⟨b0 + 1 + 1, 0, none⟩), .pointer (some ⟨b0 + 1 + 1 + 1 + 1, 0, none⟩)] w fun e w' => e = .returned (.tuple #[]) ∧ ∃ v', CbI d b0 pv #[.string m.name, .slice pe ne ce, .slice pf nf cf] #[.string fs, .int .i64 fn, .slice pc nc cc] ms m w' v' (stC ms m fs fn s x) ∧ Mv (MvB b0 v) (MvB b0 v') w w' := by
  cases dx with
  | zero => exact hx.elim
  | succ dx =>
  have HXX : Hid (∀ w', Below w.heap.size w w' → HEx w' All (dx + 1) cs x) := fun w' hw => hx.mono (SameOn.of_below hw) (fun _ h => h)
  have HI : Hid (CbI d b0 pv #[.string m.name, .slice pe ne ce, .slice pf nf cf] #[.string fs, .int .i64 fn, .slice pc nc cc] ms m w v s) := h
  have HST : Hid (stC ms m fs fn s x = if wrongB ms m x && !(s.any (samePb ⟨m.name, fs, fn, codeOf x⟩)) then s ++ [⟨m.name, fs, fn, codeOf x⟩] else s) := rfl
  have HPB : Hid (HPb [.string m.name, .string fs, .int .i64 fn, .string (codeOf x)] ⟨m.name, fs, fn, codeOf x⟩) := ⟨rfl, hok.1, hok.2.1, hok.2.2, okS_codeOf x⟩
  have CC : Hid (∀ w', Below w.heap.size w w' → Calls Tryz.prog 69 #[.agg #[pv], .agg #[.string m.name, .slice pe ne ce, .slice pf nf cf], .agg cs.toArray] w' fun e w'' => e = .returned (.tuple #[.string (codeOf x), .bool (wrongB ms m x)]) ∧ Below w'.heap.size w' w'') := fun w' hw => by
    have h1 := h.next hw
    exact callProblem_any d (dx + 1) w' pv ms _ m cs x (h1.rows.mono ⟨Nat.le_refl _, fun _ _ _ => rfl⟩ (fun _ _ => trivial) (fun _ _ _ h => h.mono ⟨Nat.le_refl _, fun _ _ _ => rfl⟩ (fun _ _ => trivial))) (h1.mod.mono ⟨Nat.le_refl _, fun _ _ _ => rfl⟩ (fun _ _ => trivial)) (HXX.out w' hw)
  obtain ⟨kx, nx, tx, mx, ks, cl⟩ := x
  obtain ⟨kv, cv, rfl, -, -, -, -, ⟨p1, q1, rfl, -⟩, ⟨p2, q2, rfl, -⟩⟩ := hx
  simp only [Ex.kind, Ex.n, Ex.text, Ex.mod, Ex.kids, Ex.clauses] at *
  generalize hX : Ex.mk kx nx tx mx ks cl = X at *
  generalize codeOf X = CO at *
  generalize wrongB ms m X = WB at *
  generalize ks.length = nk at *
  generalize cl.length = nd at *
  obtain ⟨W1, hW1⟩ : ∃ W1, W1 = w.alloc (.cells #[.int .i64 kx, .int .i64 nx, .string tx, .string mx, .slice p1 nk q1, .slice p2 nd q2] 73) := ⟨_, rfl⟩
  have B1 : Hid (Below w.heap.size w W1) := by show Below _ _ _; rw [hW1]; exact (Below.refl _ _).alloc (Nat.le_refl _) _
  have bE : Hid (Blk W1 w.heap.size #[.int .i64 kx, .int .i64 nx, .string tx, .string mx, .slice p1 nk q1, .slice p2 nd q2] 73) := by show Blk _ _ _ _; rw [hW1]; exact Blk.new
  have I1 : Hid (CbI d b0 pv #[.string m.name, .slice pe ne ce, .slice pf nf cf] #[.string fs, .int .i64 fn, .slice pc nc cc] ms m W1 v s) := h.next B1.out
  have HW1 : Hid (W1 = w.alloc (.cells #[.int .i64 kx, .int .i64 nx, .string tx, .string mx, .slice p1 nk q1, .slice p2 nd q2] 73)) := hW1
  have y0 := I1.out.p.cell 0 _ rfl
  have y1 := I1.out.mb.cell 0 _ rfl
  have y2 := I1.out.mb.cell 1 _ rfl
  have y3 := I1.out.mb.cell 2 _ rfl
  rw [hW1] at y0 y1 y2 y3
  clear h hX hW1 hok
  go_enter Tryz.func68, Tryz.ntmps68
  go_wp2_with fail
  rw [← HW1.out]
  clear y0 y1 y2 y3
  refine (CC.out _ B1.out).mono ?_
  rintro e w2 ⟨rfl, hb⟩
  have B2 : Hid (Below w.heap.size w w2) := B1.out.trans (hb.mono B1.out.size)
  have I2 : Hid (CbI d b0 pv #[.string m.name, .slice pe ne ce, .slice pf nf cf] #[.string fs, .int .i64 fn, .slice pc nc cc] ms m w2 v s) := I1.out.next hb
  clear hb
  have y1 := I2.out.mb.cell 0 _ rfl
  have y2 := I2.out.mb.cell 1 _ rfl
  have y3 := I2.out.mb.cell 2 _ rfl
  have z1 := I2.out.f.cell 0 _ rfl
  have z2 := I2.out.f.cell 1 _ rfl
  have z3 := I2.out.f.cell 2 _ rfl
  obtain ⟨TM, hTM⟩ : ∃ TM : Nat → Array Value, TM = fun bx => #[.agg #[.int .i64 kx, .int .i64 nx, .string tx, .string mx, .slice p1 nk q1, .slice p2 nd q2], .pointer (some ⟨b0, 0, none⟩), .pointer (some ⟨b0 + 1, 0, none⟩), .pointer (some ⟨b0 + 1 + 1, 0, none⟩), .pointer (some ⟨b0 + 1 + 1 + 1 + 1, 0, none⟩), .pointer (some ⟨w.heap.size, 0, none⟩), .string CO, .bool WB, .pointer (some ⟨bx, 0, none⟩), .tuple #[.string CO, .bool WB], .agg #[pv], .agg #[.string m.name, .slice pe ne ce, .slice pf nf cf], .agg #[.int .i64 kx, .int .i64 nx, .string tx, .string mx, .slice p1 nk q1, .slice p2 nd q2], .tuple #[.string CO, .bool WB], .string CO, .bool WB, .agg #[.string m.name, .slice pe ne ce, .slice pf nf cf], .agg #[.string fs, .int .i64 fn, .slice pc nc cc], .agg #[.string fs, .int .i64 fn], .string CO, .agg #[.string m.name, .string fs, .int .i64 fn, .string CO], undef, undef, undef, undef, undef, undef, undef, undef, undef, undef, undef] := ⟨_, rfl⟩
  have HTM : Hid (TM = fun bx => #[.agg #[.int .i64 kx, .int .i64 nx, .string tx, .string mx, .slice p1 nk q1, .slice p2 nd q2], .pointer (some ⟨b0, 0, none⟩), .pointer (some ⟨b0 + 1, 0, none⟩), .pointer (some ⟨b0 + 1 + 1, 0, none⟩), .pointer (some ⟨b0 + 1 + 1 + 1 + 1, 0, none⟩), .pointer (some ⟨w.heap.size, 0, none⟩), .string CO, .bool WB, .pointer (some ⟨bx, 0, none⟩), .tuple #[.string CO, .bool WB], .agg #[pv], .agg #[.string m.name, .slice pe ne ce, .slice pf nf cf], .agg #[.int .i64 kx, .int .i64 nx, .string tx, .string mx, .slice p1 nk q1, .slice p2 nd q2], .tuple #[.string CO, .bool WB], .string CO, .bool WB, .agg #[.string m.name, .slice pe ne ce, .slice pf nf cf], .agg #[.string fs, .int .i64 fn, .slice pc nc cc], .agg #[.string fs, .int .i64 fn], .string CO, .agg #[.string m.name, .string fs, .int .i64 fn, .string CO], undef, undef, undef, undef, undef, undef, undef, undef, undef, undef, undef]) := hTM
  clear hTM
  have IA : Hid (CbI d b0 pv #[.string m.name, .slice pe ne ce, .slice pf nf cf] #[.string fs, .int .i64 fn, .slice pc nc cc] ms m (w2.alloc (.cells #[.string ⟨#[]⟩, .string ⟨#[]⟩, .int .i64 0, .string ⟨#[]⟩] 47)) v s) := I2.out.next ((Below.refl _ _).alloc (Nat.le_refl _) _)
  have ya1 := IA.out.mb.cell 0 _ rfl
  have ya2 := IA.out.mb.cell 1 _ rfl
  have ya3 := IA.out.mb.cell 2 _ rfl
  have za1 := IA.out.f.cell 0 _ rfl
  have za2 := IA.out.f.cell 1 _ rfl
  have za3 := IA.out.f.cell 2 _ rfl
  go_wp2_with fail
  refine Code.wp_mono (Q := Exit.then (fun a' w' => Hid (∃ bx, Blk w' bx #[.string m.name, .string fs, .int .i64 fn, .string CO] 47 ∧ Below w2.heap.size w2 w' ∧ a' = ⟨TM bx, []⟩)) (fun _ _ _ => False)) ?rest ?reg
  case reg =>
   go_region_law
     (first
       | (go_simp; go_at_call 40; refine (refOf_any _ _ _ _ _ _).mono ?_; rintro e w5 ⟨rfl, hb5⟩; have mark5 : True := trivial; (first | (have h1 : Below (w2.alloc (.cells #[.string ⟨#[]⟩, .string ⟨#[]⟩, .int .i64 0, .string ⟨#[]⟩] 47)).drew.heap.size (w2.alloc (.cells #[.string ⟨#[]⟩, .string ⟨#[]⟩, .int .i64 0, .string ⟨#[]⟩] 47)).drew w5 := (by with_reducible exact hb5); have K5 : Hid (Below w2.heap.size w2 w5) := (viaDraw h1).1; have BX5 : Hid (Blk w5 w2.heap.size #[.string ⟨#[]⟩, .string ⟨#[]⟩, .int .i64 0, .string ⟨#[]⟩] 47) := Blk.next Blk.new (viaDraw h1).2; clear h1) | (have h1 : Below w2.drew.heap.size w2.drew w5 := (by with_reducible exact hb5); have K5 : Hid (Below w2.heap.size w2 w5) := ⟨h1.os, h1.tape, h1.output, h1.size, h1.block⟩; clear h1)); have m1 := cell_next K5.out y1; have m2 := cell_next K5.out y2; have m3 := cell_next K5.out y3; have ma1 : (w5.alloc (.cells #[.string ⟨#[]⟩, .string ⟨#[]⟩, .int .i64 0, .string ⟨#[]⟩] 47)).cell? ⟨b0 + 1, 0, none⟩ = _ := cell_next ((Below.refl _ _).alloc (Nat.le_refl _) _) m1; have ma2 : (w5.alloc (.cells #[.string ⟨#[]⟩, .string ⟨#[]⟩, .int .i64 0, .string ⟨#[]⟩] 47)).cell? ⟨b0 + 1, 1, none⟩ = _ := cell_next ((Below.refl _ _).alloc (Nat.le_refl _) _) m2; have ma3 : (w5.alloc (.cells #[.string ⟨#[]⟩, .string ⟨#[]⟩, .int .i64 0, .string ⟨#[]⟩] 47)).cell? ⟨b0 + 1, 2, none⟩ = _ := cell_next ((Below.refl _ _).alloc (Nat.le_refl _) _) m3; clear hb5; dsimp only)
       | (go_simp; go_at_call 41; have _ := mark5; refine (problemOf_any _ m.name pe pf ne ce nf cf fs fn CO).mono ?_; rintro e w6 ⟨rfl, hb6⟩; (first | (have h1 : Below w5.heap.size w5 w6 := (by with_reducible exact hb6); have K6 : Hid (Below w2.heap.size w2 w6) := K5.out.trans (h1.mono K5.out.size); (first | (have BX6 : Hid (Blk w6 w2.heap.size #[.string ⟨#[]⟩, .string ⟨#[]⟩, .int .i64 0, .string ⟨#[]⟩] 47) := BX5.out.next h1) | skip); clear h1) | (have h1 : Below (w5.alloc (.cells #[.string ⟨#[]⟩, .string ⟨#[]⟩, .int .i64 0, .string ⟨#[]⟩] 47)).heap.size (w5.alloc (.cells #[.string ⟨#[]⟩, .string ⟨#[]⟩, .int .i64 0, .string ⟨#[]⟩] 47)) w6 := (by with_reducible exact hb6); have K6 : Hid (Below w2.heap.size w2 w6) := (K5.out.alloc K5.out.size _).trans (h1.mono (by rw [alloc_hs]; have := K5.out.size; omega)); have BX6 : Hid (Blk w6 w5.heap.size #[.string ⟨#[]⟩, .string ⟨#[]⟩, .int .i64 0, .string ⟨#[]⟩] 47) := Blk.next Blk.new h1; clear h1)); (try (have x0 := BX6.out.cell 0 _ rfl; have g0 := BX6.out.frozen 0; have x1 := BX6.out.cell 1 _ rfl; have g1 := BX6.out.frozen 1; have x2 := BX6.out.cell 2 _ rfl; have g2 := BX6.out.frozen 2; have x3 := BX6.out.cell 3 _ rfl; have g3 := BX6.out.frozen 3)); clear hb6; dsimp only))
   all_goals
     first
       | (refine ⟨w6.heap.size, by with_reducible exact Blk.new, K6.out.alloc K6.out.size _, ?_⟩; rw [HTM.out])
       | (refine ⟨w5.heap.size, by with_reducible exact pbSet BX6.out, by with_reducible exact pbSetB K6.out K5.out.size, ?_⟩; rw [HTM.out])
       | (refine ⟨w2.heap.size, by with_reducible exact pbSet BX6.out, by with_reducible exact pbSetB K6.out (Nat.le_refl _), ?_⟩; rw [HTM.out])
  case rest =>
    rintro e a' V hp
    cases e with
    | normal =>
     obtain ⟨bx, hbF, hKF, rfl⟩ := hp.out
     have bF : Hid (Blk V bx #[.string m.name, .string fs, .int .i64 fn, .string CO] 47) := hbF
     have KF : Hid (Below w2.heap.size w2 V) := hKF
     clear hp hbF hKF y1 y2 y3 z1 z2 z3 ya1 ya2 ya3 za1 za2 za3
     rw [HTM.out]
     dsimp only
     have B3 : Hid (Below w.heap.size w V) := B2.out.trans (KF.out.mono B2.out.size)
     have I3 : Hid (CbI d b0 pv #[.string m.name, .slice pe ne ce, .slice pf nf cf] #[.string fs, .int .i64 fn, .slice pc nc cc] ms m V v s) := I2.out.next KF.out
     have l0 := I3.out.l.cell 0 _ rfl
     have f0 := bF.out.cell 0 _ rfl
     have f1 := bF.out.cell 1 _ rfl
     have f2 := bF.out.cell 2 _ rfl
     have f3 := bF.out.cell 3 _ rfl
     cases hWB : WB with
     | false =>
       have HS2 : Hid (stC ms m fs fn s X = s) := by show _ = _; rw [HST.out, hWB]; rfl
       go_wp2_with fail
       go_end0
       exact ⟨rfl, v, by rw [HS2.out]; exact I3.out, Mv.of_below B3.out⟩
     | true =>
       go_wp2_with fail
       refine (containsP_any _ _ s ⟨m.name, fs, fn, CO⟩ I3.out.own.rows).mono ?_
       rintro e w7 ⟨rfl, hb⟩
       have B7 : Hid (Below w.heap.size w w7) := B3.out.trans (hb.mono B3.out.size)
       have I7 : Hid (CbI d b0 pv #[.string m.name, .slice pe ne ce, .slice pf nf cf] #[.string fs, .int .i64 fn, .slice pc nc cc] ms m w7 v s) := I3.out.next hb
       have bF7 : Hid (Blk w7 bx #[.string m.name, .string fs, .int .i64 fn, .string CO] 47) := bF.out.next hb
       clear l0 f0 f1 f2 f3 hb
       cases hSP : s.any (samePb ⟨m.name, fs, fn, CO⟩) with
       | true =>
         have HS2 : Hid (stC ms m fs fn s X = s) := by show _ = _; rw [HST.out, hWB, hSP]; rfl
         go_wp2_with fail
         go_end0
         exact ⟨rfl, v, by rw [HS2.out]; exact I7.out, Mv.of_below B7.out⟩
       | false =>
         have HS2 : Hid (stC ms m fs fn s X = s ++ [⟨m.name, fs, fn, CO⟩]) := by show _ = _; rw [HST.out, hWB, hSP]; rfl
         have l0 := I7.out.l.cell 0 _ rfl
         have f0 := bF7.out.cell 0 _ rfl
         have f1 := bF7.out.cell 1 _ rfl
         have f2 := bF7.out.cell 2 _ rfl
         have f3 := bF7.out.cell 3 _ rfl
         have F9 : Hid (∀ w9, ApartE 47 w7 w9 → Blk w9 (b0 + 1 + 1 + 1 + 1) #[v] 24) := fun w9 hap => hap.blk I7.out.l (by decide)
         go_wp2_with (at_builtin; refine wpList_append_lies rfl _ _ 24 rfl _ 56 Tryz.underlying24 info_pb rfl (by decide) I7.out.own #[.string m.name, .string fs, .int .i64 fn, .string CO] ⟨m.name, fs, fn, CO⟩ HPB.out rfl (pb_oneCell _ _ HPB.out) rfl rfl hl (by decide) ?_; intro g9 q9 w9 ho9 hb9 hap9 hg9 hk9; have c9 : w9.cell? ⟨b0 + 1 + 1 + 1 + 1, 0, none⟩ = some v := (F9.out w9 hap9).cell 0 _ rfl; have z9 : w9.frozen? ⟨b0 + 1 + 1 + 1 + 1, 0, none⟩ = false := (F9.out w9 hap9).frozen 0)
         have hl9 : Blk w9 (b0 + 1 + 1 + 1 + 1) #[v] 24 := F9.out w9 hap9
         have hsz7 : b0 + 1 + 1 + 1 ≤ w7.heap.size := I7.out.own.2
         have hbz : Below (b0 + 1 + 1 + 1) w7 (w9.setCell ⟨b0 + 1 + 1 + 1 + 1, 0, none⟩ (.slice (some ⟨g9, 0, none⟩) (s.length + 1) q9)) := hb9.setCell (by show _ ≤ b0 + 1 + 1 + 1 + 1; omega) _
         have hsm : SameOn (fun g => g < b0) w7 (w9.setCell ⟨b0 + 1 + 1 + 1 + 1, 0, none⟩ (.slice (some ⟨g9, 0, none⟩) (s.length + 1) q9)) := ⟨hbz.size, fun g hg _ => hbz.block g (by omega)⟩
         have HIZ : CbI d b0 pv #[.string m.name, .slice pe ne ce, .slice pf nf cf] #[.string fs, .int .i64 fn, .slice pc nc cc] ms m (w9.setCell ⟨b0 + 1 + 1 + 1 + 1, 0, none⟩ (.slice (some ⟨g9, 0, none⟩) (s.length + 1) q9)) (.slice (some ⟨g9, 0, none⟩) (s.length + 1) q9) (s ++ [⟨m.name, fs, fn, CO⟩]) :=
           ⟨(hap9.blk I7.out.p (by decide)).other (by show b0 ≠ b0 + 1 + 1 + 1 + 1; omega), (hap9.blk I7.out.mb (by decide)).other (by show b0 + 1 ≠ b0 + 1 + 1 + 1 + 1; omega), (hap9.blk I7.out.f (by decide)).other (by show b0 + 1 + 1 ≠ b0 + 1 + 1 + 1 + 1; omega), hl9.same rfl, ho9.setCell hl9 (by decide), I7.out.rows.mono hsm (fun _ h => h) (fun _ _ _ h => h.mono hsm (fun _ h => h)), I7.out.mod.mono hsm (fun _ h => h)⟩
         have HMZ : Mv (MvB b0 v) (MvB b0 (.slice (some ⟨g9, 0, none⟩) (s.length + 1) q9)) w (w9.setCell ⟨b0 + 1 + 1 + 1 + 1, 0, none⟩ (.slice (some ⟨g9, 0, none⟩) (s.length + 1) q9)) := by
           have hs7 := B7.out.size
           refine ⟨hbz.os.trans B7.out.os, hbz.tape.trans B7.out.tape, hbz.output.trans B7.out.output, Nat.le_trans hs7 hbz.size, fun g hg hm => ?_, fun g hg => ?_⟩
           · refine (Below.heap_setCell _ _ _ _ (fun e1 => hm (Or.inl e1))).trans ((hk9 g (by omega) (fun e1 => hm (Or.inr e1.symm))).trans (B7.out.block g hg))
           · rcases hg with hg | hg
             · exact Or.inl (Or.inl hg)
             · simp [Value.ownBlock] at hg
               subst hg
               rcases hg9 with h9 | h9
               · exact Or.inl (Or.inr h9)
               · exact Or.inr (by omega)
         go_end0
         exact ⟨rfl, _, by rw [HS2.out]; exact HIZ, HMZ⟩
    | _ => exact hp.elim
end Go.Proofs.YtigfmdfgioccjaaGreatDoor
