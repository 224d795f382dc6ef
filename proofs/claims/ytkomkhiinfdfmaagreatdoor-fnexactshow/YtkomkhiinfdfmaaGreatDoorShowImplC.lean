/-
  The program's Show, by contract: a case.
-/
import Derived.Test.YtkomkhiinfdfmaaGreatDoorShowImplB
import Derived.Deep.AppendLies
import Derived.Deep.RegionHeldLaw
namespace Go.Proofs.YtkomkhiinfdfmaaGreatDoor
open Go.ChangeShapes Go.WideShapes Go.ChangeAt Go.RowKit
set_option linter.unusedVariables false

theorem cell_grown {w w' : World} {a : Addr} {v x : Value} (hg : w.grownBy w' v.ownBlock) (hne : some a.block ≠ v.ownBlock) (h : w.cell? a = some x) : w'.cell? a = some x := by
  have hl : a.block < w.heap.size := by
    unfold World.cell? at h
    split at h
    · rename_i heq; exact (Array.getElem?_eq_some_iff.1 heq).1
    · cases h
  exact (World.cell?_of_block (hg.block a.block hl hne)).trans h

set_option maxHeartbeats 16000000 in
set_option maxRecDepth 100000 in
theorem caseText_of {d : Nat} (hE : InC d) (hB : BtC d) : CtC d := by
  intro w nx tx mx kv cv ks cl f0 f1 hk1 s2 s3 hwt hpw
  have hIc : ∀ c ∈ cl, (∀ y ∈ c.1, exI d y) ∧ ∀ y ∈ c.2, exI d y := fun c hc => by
    obtain ⟨_, pp, bb, _, g0, g1⟩ := rows_mem f1 c hc
    exact ⟨fun y hy => by obtain ⟨_, hv⟩ := rows_mem g0 y hy; exact hv.ints, fun y hy => by obtain ⟨_, hv⟩ := rows_mem g1 y hy; exact hv.ints⟩
  obtain ⟨i, hi, hz0, hz1, hz2⟩ := info_parts info_str
  obtain ⟨p, cap, rfl, hcl, hcm, hx⟩ := f0
  obtain ⟨q, cap', rfl, hcl', hcm', hyy⟩ := f1
  have hnl : cl.length ≤ 1048576 := Nat.le_trans (len_wtS (wtCl (wtEx d)) _) (by omega)
  have hnb : cl.length ≤ 9223372036854775807 := by omega
  have HP : Hid (PowAt w) := hpw
  obtain ⟨z, rfl⟩ : ∃ z, ks = [z] := by
    match ks, hk1 with
    | [z], _ => exact ⟨z, rfl⟩
  obtain ⟨g1, o1, rfl, -, hg1, hat1⟩ := hx (by simp)
  obtain ⟨zs, hzl, hzc, rz⟩ := hat1 0 z rfl
  have sz : shp d z = true := by simpa using s2
  have wz : wtEx d z ≤ 1048576 := by have : wtS (wtEx d) [z] = 1 + wtEx d z := by simp [wtS]
                                     omega
  have lz := ex_bd rz sz wz false
  have EZ : ∀ w', Below w.heap.size w w' → HEx w' All d zs z := fun w' hw => rz.mono (SameOn.of_below hw) (fun _ h => h)
  obtain ⟨z0, z1, z2, z3, z4, z5, rfl⟩ := len6 hzl
  have LJ : Hid ((joinT [59, 32] (cl.map (clTxt (exTxt d)))).length ≤ 52428800) := by
    have := joinT_wt (clTxt (exTxt d)) (wtCl (wtEx d)) 40 50 [59, 32] (by decide) cl (fun c hcc => by
      have := List.all_eq_true.1 s3 c hcc
      simp only [Bool.and_eq_true, decide_eq_true_eq] at this
      exact clTxt_len _ _ c this.1 (fun y hy b => exTxt_len d y b ((hIc c hcc).1 y hy) (List.all_eq_true.1 this.2.1 y hy)) (fun y hy b => exTxt_len d y b ((hIc c hcc).2 y hy) (List.all_eq_true.1 this.2.2 y hy)))
    show _ ≤ _
    omega
  have BX : Hid (∀ (k : Nat) (c : Cl), cl[k]? = some c → ∃ y0, c.1 = [y0] ∧ shp d y0 = true ∧ wtEx d y0 ≤ 1048576 ∧ c.2.all (shp d) = true ∧ wtS (wtEx d) c.2 ≤ 1048576) := fun k c hk => by
    have h3 := List.all_eq_true.1 s3 c (List.mem_of_getElem? hk)
    simp only [Bool.and_eq_true, decide_eq_true_eq] at h3
    obtain ⟨h4, h5, h6⟩ := h3
    have h7 := wtS_at (wtCl (wtEx d)) cl k c hk
    obtain ⟨ps, bs⟩ := c
    match ps, h4 with
    | [y0], _ =>
      have h8 : wtS (wtEx d) [y0] = 1 + wtEx d y0 := by simp [wtS]
      have h9 : wtCl (wtEx d) ([y0], bs) = wtS (wtEx d) [y0] + wtS (wtEx d) bs := rfl
      rw [h9] at h7
      show ∃ _, _
      exact ⟨y0, rfl, by simpa using h5, by omega, h6, by show wtS (wtEx d) bs ≤ _; omega⟩
  simp only [List.length_cons, List.length_nil] at *
  generalize hn : cl.length = n at *
  have HN : Hid (cl.length = n) := hn
  have HX : Hid (cl ≠ [] → ∃ g off, q = some ⟨g, off, none⟩ ∧ All g ∧ g < w.heap.size ∧ ∀ i x, cl[i]? = some x → ∃ cs, cs.length = 2 ∧ (∀ j, j < 2 → w.cell? ⟨g, off + i * 2 + j, none⟩ = cs[j]?) ∧ HCl w All (HEx w All d) cs x) := hyy
  obtain ⟨W0, hW0⟩ : ∃ W0, W0 = w.alloc (.cells #[.int .i64 10, .int .i64 nx, .string tx, .string mx, .slice (some ⟨g1, o1, none⟩) 1 cap, .slice q n cap'] 114) := ⟨_, rfl⟩
  have bA : Hid (Blk W0 w.heap.size #[.int .i64 10, .int .i64 nx, .string tx, .string mx, .slice (some ⟨g1, o1, none⟩) 1 cap, .slice q n cap'] 114) := by show Blk _ _ _ _; rw [hW0]; exact Blk.new
  have B0 : Hid (Below w.heap.size w W0) := by show Below _ _ _; rw [hW0]; exact (Below.refl _ _).alloc (Nat.le_refl _) _
  have hs0 : W0.heap.size = w.heap.size + 1 := by rw [hW0]; simp
  have HW0 : Hid (W0 = w.alloc (.cells #[.int .i64 10, .int .i64 nx, .string tx, .string mx, .slice (some ⟨g1, o1, none⟩) 1 cap, .slice q n cap'] 114)) := hW0
  have O0 : Hid (OwnS (W0.alloc (.cells #[] 9)) W0.heap.size (.slice (some ⟨w.heap.size + 1, 0, none⟩) 0 0) []) := by
    have := OwnS.fresh (w := W0)
    show OwnS _ _ _ _
    rwa [hs0] at this ⊢
  have BL0 : Hid (Below W0.heap.size W0 (W0.alloc (.cells #[] 9))) := (Below.refl _ _).alloc (Nat.le_refl _) _
  clear hyy hn hx hat1 hW0 hIc rz s2 s3 hpw hwt
  go_enter Tryz.func130, Tryz.ntmps130
  go_wp2_with fail
  rw [← HW0.out]
  go_loopw [3, 10] (fun ov iv wr => ∃ (k : Nat), k ≤ n ∧ iv = .int .i64 k ∧ Hid (OwnS wr W0.heap.size ov ((cl.take k).map fun c => strOf (clTxt (exTxt d) c))) ∧ Below W0.heap.size W0 wr) (fun _ iv _ => n - (intOf iv).toNat)
  case atStart => exact ⟨0, Nat.zero_le _, rfl, O0.out, BL0.out⟩
  case round =>
    obtain ⟨k, hk, rfl, ho, hb0⟩ := hrel
    have HB0 : Hid (Below W0.heap.size W0 wr) := hb0
    have hbw : Below w.heap.size w wr := B0.out.trans (hb0.mono B0.out.size)
    have HBW : Hid (Below w.heap.size w wr) := hbw
    by_cases hlt : k < n
    · obtain ⟨c, hck⟩ : ∃ c, cl[k]? = some c := ⟨cl[k]'(by rw [HN.out]; exact hlt), List.getElem?_eq_getElem _⟩
      obtain ⟨g, off, rfl, -, hgl, hat⟩ := HX.out (by intro h; rw [h] at hck; simp at hck)
      obtain ⟨cs, hcsl, hcs, pv, bv, rfl, r1, r2⟩ := hat k c hck
      obtain ⟨y, hc1, sy, wy, sb, wb⟩ := BX.out k c hck
      rw [hc1] at r1
      have F2 : ∀ w', Below w.heap.size w w' → Rows w' All 6 (HEx w' All d) bv c.2 := fun w' hw => r2.mono (SameOn.of_below hw) (fun _ h => h) (fun _ _ _ h => h.mono (SameOn.of_below hw) (fun _ h => h))
      have hI2 : ∀ y ∈ c.2, exI d y := fun y hy => by obtain ⟨_, hv⟩ := rows_mem r2 y hy; exact hv.ints
      obtain ⟨p2, q2, rfl, hq2, hq2m, hx2⟩ := r1
      obtain ⟨g2, o2, rfl, -, hg2, hat2⟩ := hx2 (by simp)
      obtain ⟨ys, hyl, hyc, ry⟩ := hat2 0 y rfl
      have ly := ex_bd ry sy wy false
      have EY : ∀ w', Below w.heap.size w w' → HEx w' All d ys y := fun w' hw => ry.mono (SameOn.of_below hw) (fun _ h => h)
      obtain ⟨y0, y1, y2, y3, y4, y5, rfl⟩ := len6 hyl
      obtain ⟨pb, qb, rfl, -, -, -⟩ := r2
      have lb := exs_bd hI2 sb wb true
      obtain ⟨XA, hXA⟩ : ∃ XA, XA = strOf (exTxt d y false) := ⟨_, rfl⟩
      obtain ⟨XB, hXB⟩ : ∃ XB, XB = strOf (joinT [44, 32] (c.2.map fun y => exTxt d y true)) := ⟨_, rfl⟩
      have CA : Hid (∀ w', Below w.heap.size w w' → Calls Tryz.prog 110 #[.agg #[y0, y1, y2, y3, y4, y5]] w' fun e w'' => e = .returned (.string XA) ∧ Below w'.heap.size w' w'') := fun w' hw => by rw [hXA]; exact hE _ _ y (EY _ hw) sy wy (powAt_below HP.out hw)
      have CC : Hid (∀ w', Below w.heap.size w w' → Calls Tryz.prog 81 #[.slice pb c.2.length qb] w' fun e w'' => e = .returned (.string XB) ∧ Below w'.heap.size w' w'') := fun w' hw => by rw [hXB]; exact hB _ _ c.2 (F2 _ hw) sb wb (powAt_below HP.out hw)
      have HCX : Hid ((XA ++ ⟨#[32, 45, 62, 32]⟩ ++ XB).data.toList = clTxt (exTxt d) c) := by
        show _ = _
        rw [hXA, hXB]
        simp only [clTxt, hc1, ByteArray.data_append, Array.toList_append, strOf_data]
      have lxa : XA.size ≤ 52428840 := by rw [hXA]; exact ly
      have lxb : XB.size ≤ 52428800 := by rw [hXB, strOf_size]; exact lb
      have hc1 : XA.size + (⟨#[32, 45, 62, 32]⟩ : ByteArray).size ≤ 9223372036854775807 := by show XA.size + 4 ≤ _; omega
      have hc1' : XA.size + 4 ≤ 9223372036854775807 := by omega
      have hc2 : (XA ++ ⟨#[32, 45, 62, 32]⟩ : ByteArray).size + XB.size ≤ 9223372036854775807 := by rw [ByteArray.size_append]; show XA.size + 4 + XB.size ≤ _; omega
      have hc2' : XA.size + 4 + XB.size ≤ 9223372036854775807 := by omega
      have HJ : Hid ((cl.take (k + 1)).map (fun c => strOf (clTxt (exTxt d) c)) = (cl.take k).map (fun c => strOf (clTxt (exTxt d) c)) ++ [(XA ++ ⟨#[32, 45, 62, 32]⟩ ++ XB)]) := by
        show _ = _
        rw [List.take_add_one, hck]
        simp only [List.map_append, Option.toList_some, List.map_cons, List.map_nil]
        rw [← HCX.out, strOf_self]
      have lj : ((cl.take k).map fun c => strOf (clTxt (exTxt d) c)).length = k := by
        rw [List.length_map, List.length_take, HN.out]
        omega
      generalize hJ0 : ((cl.take k).map fun c => strOf (clTxt (exTxt d) c)) = J at *
      generalize hnb2 : c.2.length = nb at *
      have a0 := hcs 0 (by omega)
      have a1 := hcs 1 (by omega)
      rw [← hbw.cell (p := ⟨g, _, none⟩) hgl] at a0 a1
      simp at a0 a1
      have hki : (k : Int) < (n : Int) := by omega
      have hk0 : (0 : Int) ≤ (k : Int) := by omega
      obtain ⟨W1, hW1⟩ : ∃ W1, W1 = wr.alloc (.cells #[.slice (some ⟨g2, o2, none⟩) 1 q2, .slice pb nb qb] 61) := ⟨_, rfl⟩
      have HW1 : Hid (W1 = wr.alloc (.cells #[.slice (some ⟨g2, o2, none⟩) 1 q2, .slice pb nb qb] 61)) := hW1
      have K1 : Hid (Below wr.heap.size wr W1) := by show Below _ _ _; rw [hW1]; exact (Below.refl _ _).alloc (Nat.le_refl _) _
      have BW1 : Hid (Below w.heap.size w W1) := HBW.out.trans (K1.out.mono HBW.out.size)
      have BV1 : Hid (Below W0.heap.size W0 W1) := HB0.out.trans (K1.out.mono HB0.out.size)
      have bC : Blk W1 wr.heap.size #[.slice (some ⟨g2, o2, none⟩) 1 q2, .slice pb nb qb] 61 := by rw [hW1]; exact Blk.new
      have O1 : Hid (OwnS W1 W0.heap.size u3 J) := ho.out.next K1.out
      have x0 := bC.cell 0 _ rfl
      have x1 := bC.cell 1 _ rfl
      have yc0 := hyc 0 (by omega)
      have yc1 := hyc 1 (by omega)
      have yc2 := hyc 2 (by omega)
      have yc3 := hyc 3 (by omega)
      have yc4 := hyc 4 (by omega)
      have yc5 := hyc 5 (by omega)
      rw [← BW1.out.cell (p := ⟨g2, _, none⟩) hg2] at yc0 yc1 yc2 yc3 yc4 yc5
      simp at yc0 yc1 yc2 yc3 yc4 yc5
      have NN : Hid (some wr.heap.size ≠ u3.ownBlock ∧ some g2 ≠ u3.ownBlock) := ⟨fun e => by have := (ho.out.off e.symm).2; omega, fun e => by have := (ho.out.off e.symm).1; omega⟩
      clear hb0 hbw hcs hat hcsl F2 hI2 hx2 hat2 hyc ry EY hXA hXB lb ly hJ0 hW1 bC hc1 sb wb sy wy hnb2
      go_wp2_with fail
      rw [← HW1.out]
      go_region_held_law (fun w' => w'.cell? ⟨wr.heap.size, 0, none⟩ = some (.slice (some ⟨g2, o2, none⟩) 1 q2) ∧ w'.cell? ⟨wr.heap.size, 1, none⟩ = some (.slice pb nb qb) ∧ w'.cell? ⟨g2, o2, none⟩ = some y0 ∧ w'.cell? ⟨g2, o2 + 1, none⟩ = some y1 ∧ w'.cell? ⟨g2, o2 + 2, none⟩ = some y2 ∧ w'.cell? ⟨g2, o2 + 3, none⟩ = some y3 ∧ w'.cell? ⟨g2, o2 + 4, none⟩ = some y4 ∧ w'.cell? ⟨g2, o2 + 5, none⟩ = some y5)
        (first | go_keep | (go_split_ands; refine ⟨?_, ?_, ?_, ?_, ?_, ?_, ?_, ?_⟩ <;> exact cell_next hb (by assumption)) | (go_split_ands; refine ⟨?_, ?_, ?_, ?_, ?_, ?_, ?_, ?_⟩ <;> exact cell_next ((Below.refl _ _).alloc (Nat.le_refl _) _) (by assumption)) | (go_split_ands; refine ⟨?_, ?_, ?_, ?_, ?_, ?_, ?_, ?_⟩ <;> first | exact cell_grown hgrow NN.out.1 (by assumption) | exact cell_grown hgrow NN.out.2 (by assumption)))
        (first
          | (refine step_append_lies _ (by rfl) _ _ _ (by rfl) W0.heap.size 9 i _ 1 16 Tryz.underlying46 hi hz0 hz1 hz2 rfl (by omega) u3 J.length (strs J) (by rfl) O6.out.1 ⟨w5.heap.size, 0, none⟩ 1 1 (strs [(XA ++ ⟨#[32, 45, 62, 32]⟩ ++ XB)]) (by rfl) (by rfl) N6.out (strs_oneCell _) (by omega) (by unfold maxLen; omega) (by omega) O6.out.2 (w5.heap.size + 1) (by simp) ?_; intro gg cap2 w7 hown hgrow hat7 hlt7)
          | (go_at_call 110; refine (CA.out _ (by exact BW1.out.drew)).mono ?_; rintro e w4 ⟨rfl, hb⟩; have K4 : Hid (Below W1.heap.size W1 w4) := ⟨hb.os, hb.tape, hb.output, hb.size, hb.block⟩)
          | (go_at_call 81; refine (CC.out _ (BW1.out.trans (K4.out.mono BW1.out.size))).mono ?_; rintro e w5 ⟨rfl, hb⟩; have K5 : Hid (Below w4.heap.size w4 w5) := hb; have K6 : Hid (Below W1.heap.size W1 (w5.alloc (.cells #[.string (XA ++ ⟨#[32, 45, 62, 32]⟩ ++ XB)] 9))) := (K4.out.trans (K5.out.mono K4.out.size)).alloc (K4.out.trans (K5.out.mono K4.out.size)).size _; have O6 : Hid (OwnS (w5.alloc (.cells #[.string (XA ++ ⟨#[32, 45, 62, 32]⟩ ++ XB)] 9)) W0.heap.size u3 J) := O1.out.next K6.out; have N6 : Hid (∀ j u, (strs [(XA ++ ⟨#[32, 45, 62, 32]⟩ ++ XB)])[j]? = some u → (w5.alloc (.cells #[.string (XA ++ ⟨#[32, 45, 62, 32]⟩ ++ XB)] 9)).cell? ((⟨w5.heap.size, 0, none⟩ : Addr).add j) = some u) := one_strS w5 _ _ rfl))
      all_goals
        go_split_ands
        have HO2 : Hid (OwnS w7 W0.heap.size (.slice (some ⟨gg, 0, none⟩) (k + 1) cap2) (J ++ [(XA ++ ⟨#[32, 45, 62, 32]⟩ ++ XB)])) := by
          have := OwnS.of (l := J) (m := [(XA ++ ⟨#[32, 45, 62, 32]⟩ ++ XB)]) hown (by simp) rfl (Nat.le_trans O6.out.2 hgrow.size)
          rwa [lj] at this
        have HB2 : Hid (Below W0.heap.size W0 w7) := (BV1.out.trans (K6.out.mono BV1.out.size)).trans (O6.out.below hgrow)
        clear hown hgrow hat7 hlt7
        go_wp2_with fail
        exact ⟨⟨k + 1, by omega, by go_num, by show OwnS _ _ _ _; rw [HJ.out]; exact HO2.out, HB2.out⟩, by simp [intOf]; omega⟩
    · have HS : Hid (OwnS wr W0.heap.size u3 (cl.map fun c => strOf (clTxt (exTxt d) c))) := by
        have := ho.out
        rwa [List.take_of_length_le (by rw [HN.out]; omega)] at this
      have HE : Hid ((cl.map fun c => strOf (clTxt (exTxt d) c)).map (·.data.toList) = cl.map (clTxt (exTxt d))) := by
        show _ = _
        rw [List.map_map]
        exact List.map_congr_left fun y _ => strOf_data _
      have HL : Hid ((cl.map fun c => strOf (clTxt (exTxt d) c)).length ≤ 140737488355328) := by
        show _ ≤ _
        rw [List.length_map, HN.out]; omega
      have HV : Hid (kidT (exTxt d) [z] 0 = exTxt d z false) := rfl
      have lzz : (strOf (exTxt d z false)).size ≤ 52428840 := lz
      obtain ⟨XJ, hXJ⟩ : ∃ XJ, XJ = strOf (joinT [59, 32] (cl.map (clTxt (exTxt d)))) := ⟨_, rfl⟩
      have HXJ : Hid (XJ.data.toList = joinT [59, 32] (cl.map (clTxt (exTxt d)))) := by show _ = _; rw [hXJ, strOf_data]
      have lxj : XJ.size ≤ 52428800 := by rw [hXJ, strOf_size]; exact LJ.out
      obtain ⟨XZ, hXZ⟩ : ∃ XZ, XZ = strOf (exTxt d z false) := ⟨_, rfl⟩
      have HXZ : Hid (XZ.data.toList = exTxt d z false) := by show _ = _; rw [hXZ, strOf_data]
      have lxz : XZ.size ≤ 52428840 := by rw [hXZ]; exact lz
      have CJ : Hid (∀ w', Below wr.heap.size wr w' → Calls Tryz.prog 38 #[u3, .string ⟨#[59, 32]⟩] w' fun e w'' => e = .returned (.string XJ) ∧ Below w'.heap.size w' w'') := fun w' hw => by
        have := joinOwn w' W0.heap.size u3 _ ⟨#[59, 32]⟩ (HS.out.next hw) HL.out (by rw [HE.out]; have := LJ.out; show (joinT [59, 32] _).length ≤ _; omega)
        rw [HE.out] at this
        rw [hXJ]
        exact this
      have CZ : Hid (∀ w', Below wr.heap.size wr w' → Calls Tryz.prog 110 #[.agg #[z0, z1, z2, z3, z4, z5]] w' fun e w'' => e = .returned (.string XZ) ∧ Below w'.heap.size w' w'') := fun w' hw => by
        rw [hXZ]
        have hww := HBW.out.trans (hw.mono HBW.out.size)
        exact hE _ _ z (EZ _ hww) sz wz (powAt_below HP.out hww)
      have hlw := Nat.lt_of_lt_of_le bA.out.lt hb0.size
      have e4 := (bA.out.next hb0).cell 4 _ rfl
      have zc0 := hzc 0 (by omega)
      have zc1 := hzc 1 (by omega)
      have zc2 := hzc 2 (by omega)
      have zc3 := hzc 3 (by omega)
      have zc4 := hzc 4 (by omega)
      have zc5 := hzc 5 (by omega)
      rw [← hbw.cell (p := ⟨g1, _, none⟩) hg1] at zc0 zc1 zc2 zc3 zc4 zc5
      simp at zc0 zc1 zc2 zc3 zc4 zc5
      clear hb0 hbw EZ lz lzz hXJ hXZ hzc HS HE HL
      go_wp2_with fail
      refine (CZ.out _ (Below.refl _ _)).mono ?_
      rintro e w1 ⟨rfl, hb1⟩
      have K1 : Hid (Below wr.heap.size wr w1) := hb1
      clear hb1
      go_wp2_with fail
      refine (CJ.out _ K1.out).mono ?_
      rintro e w2 ⟨rfl, hb2⟩
      have HB4 : Hid (Below w.heap.size w w2) := (HBW.out.trans (K1.out.mono HBW.out.size)).trans (hb2.mono (HBW.out.trans (K1.out.mono HBW.out.size)).size)
      clear hb2
      go_wp2_with fail
      go_ret
      exact ⟨ret_strOf (by rw [HV.out]; simp [ByteArray.data_append, HXZ.out, HXJ.out]), HB4.out⟩
end Go.Proofs.YtkomkhiinfdfmaaGreatDoor
