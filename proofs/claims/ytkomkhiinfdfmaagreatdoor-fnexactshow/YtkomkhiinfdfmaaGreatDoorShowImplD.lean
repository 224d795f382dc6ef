/-
  The program's Show, by contract: a function.
-/
import Derived.Test.YtkomkhiinfdfmaaGreatDoorShowImplC
import Derived.Test.YtkomkhiinfdfmaaGreatDoorShowMath2
import Derived.Deep.RegionHeld3
namespace Go.Proofs.YtkomkhiinfdfmaaGreatDoor
open Go.ChangeShapes Go.WideShapes Go.ChangeAt Go.RowKit
set_option linter.unusedVariables false

theorem ix_all : ∀ d, IxC d
  | 0 => fun w cs x h _ _ _ => h.elim
  | d + 1 => expText_of (innerText_of (ix_all d)) (innerTexts_of (innerText_of (ix_all d))) (caseText_of (innerText_of (ix_all d)) (bodyText_of (ix_all d)))
theorem it_all (d : Nat) : ItC d := innerTexts_of (innerText_of (ix_all d))
theorem bt_all (d : Nat) : BtC d := bodyText_of (ix_all d)

set_option maxHeartbeats 16000000 in
set_option maxRecDepth 100000 in
theorem funText_any (d : Nat) (w : World) (cs : List Value) (f : Fn') (h : HFn w All d cs f) (hs : fnShp d f) (hwt : wtFn d f ≤ 1048576) (hpw : PowAt w) :
    Calls Tryz.prog 39 #[.agg cs.toArray] w fun e w' => e = .returned (.string (strOf (funT d f))) ∧ Below w.heap.size w w' := by
  have hIc := h.ints
  have hfl := funT_len hs hIc
  obtain ⟨cv, rfl, -, -, f1⟩ := h
  obtain ⟨nm, ar, cl⟩ := f
  obtain ⟨hnm, -, hcs⟩ := hs
  have hw : wtFn d ⟨nm, ar, cl⟩ = nm.size + wtS (wtCl (wtEx d)) cl := rfl
  rw [hw] at hwt
  clear hw
  simp only at *
  obtain ⟨i, hi, hz0, hz1, hz2⟩ := info_parts info_str
  obtain ⟨q, cap', rfl, hcl', hcm', hyy⟩ := f1
  have hnl : cl.length ≤ 1048576 := Nat.le_trans (len_wtS (wtCl (wtEx d)) _) (by omega)
  have hnb : cl.length ≤ 9223372036854775807 := by omega
  have HP : Hid (PowAt w) := hpw
  have HF : Hid (funT d ⟨nm, ar, cl⟩ = joinT [59, 10] (cl.map (lineT d nm)) ++ [46]) := rfl
  have LJ : Hid ((joinT [59, 10] (cl.map (lineT d nm))).length ≤ 52428801) := by
    show _ ≤ _
    rw [HF.out, List.length_append] at hfl
    omega
  have BX : Hid (∀ (k : Nat) (c : Cl), cl[k]? = some c → c.1.all (shp d) = true ∧ wtS (wtEx d) c.1 ≤ 1048576 ∧ c.2.all (shp d) = true ∧ wtS (wtEx d) c.2 ≤ 1048576) := fun k c hk => by
    have h3 := hcs c (List.mem_of_getElem? hk)
    have h7 := wtS_at (wtCl (wtEx d)) cl k c hk
    have h9 : wtCl (wtEx d) c = wtS (wtEx d) c.1 + wtS (wtEx d) c.2 := rfl
    exact ⟨h3.1, by omega, h3.2, by omega⟩
  generalize hn : cl.length = n at *
  have HN : Hid (cl.length = n) := hn
  have HX : Hid (cl ≠ [] → ∃ g off, q = some ⟨g, off, none⟩ ∧ All g ∧ g < w.heap.size ∧ ∀ i x, cl[i]? = some x → ∃ cs, cs.length = 2 ∧ (∀ j, j < 2 → w.cell? ⟨g, off + i * 2 + j, none⟩ = cs[j]?) ∧ HCl w All (HEx w All d) cs x) := hyy
  obtain ⟨W0, hW0⟩ : ∃ W0, W0 = w.alloc (.cells #[.string nm, .int .i64 ar, .slice q n cap'] 57) := ⟨_, rfl⟩
  have bA : Hid (Blk W0 w.heap.size #[.string nm, .int .i64 ar, .slice q n cap'] 57) := by show Blk _ _ _ _; rw [hW0]; exact Blk.new
  have B0 : Hid (Below w.heap.size w W0) := by show Below _ _ _; rw [hW0]; exact (Below.refl _ _).alloc (Nat.le_refl _) _
  have hs0 : W0.heap.size = w.heap.size + 1 := by rw [hW0]; simp
  have HW0 : Hid (W0 = w.alloc (.cells #[.string nm, .int .i64 ar, .slice q n cap'] 57)) := hW0
  have O0 : Hid (OwnS (W0.alloc (.cells #[] 9)) W0.heap.size (.slice (some ⟨w.heap.size + 1, 0, none⟩) 0 0) []) := by
    have := OwnS.fresh (w := W0)
    show OwnS _ _ _ _
    rwa [hs0] at this ⊢
  have BL0 : Hid (Below W0.heap.size W0 (W0.alloc (.cells #[] 9))) := (Below.refl _ _).alloc (Nat.le_refl _) _
  clear hyy hn hW0 hIc hcs hpw hwt hfl
  go_enter Tryz.func39, Tryz.ntmps39
  go_wp2_with fail
  rw [← HW0.out]
  go_loopw [3, 10] (fun ov iv wr => ∃ (k : Nat), k ≤ n ∧ iv = .int .i64 k ∧ Hid (OwnS wr W0.heap.size ov ((cl.take k).map fun c => strOf (lineT d nm c))) ∧ Below W0.heap.size W0 wr) (fun _ iv _ => n - (intOf iv).toNat)
  case atStart => exact ⟨0, Nat.zero_le _, rfl, O0.out, BL0.out⟩
  case round =>
    obtain ⟨k, hk, rfl, ho, hb0⟩ := hrel
    have HB0 : Hid (Below W0.heap.size W0 wr) := hb0
    have hbw : Below w.heap.size w wr := B0.out.trans (hb0.mono B0.out.size)
    have HBW : Hid (Below w.heap.size w wr) := hbw
    by_cases hlt : k < n
    · obtain ⟨c, hck⟩ : ∃ c, cl[k]? = some c := ⟨cl[k]'(by rw [HN.out]; exact hlt), List.getElem?_eq_getElem _⟩
      obtain ⟨g, off, rfl, -, hgl, hat⟩ := HX.out (by intro h; rw [h] at hck; simp at hck)
      obtain ⟨cs, hcsl, hcs, pv, bv, rfl, r1, r2⟩ := hat k c hck
      obtain ⟨sp, wp, sb, wb⟩ := BX.out k c hck
      have F1 : ∀ w', Below w.heap.size w w' → Rows w' All 6 (HEx w' All d) pv c.1 := fun w' hw => r1.mono (SameOn.of_below hw) (fun _ h => h) (fun _ _ _ h => h.mono (SameOn.of_below hw) (fun _ h => h))
      have F2 : ∀ w', Below w.heap.size w w' → Rows w' All 6 (HEx w' All d) bv c.2 := fun w' hw => r2.mono (SameOn.of_below hw) (fun _ h => h) (fun _ _ _ h => h.mono (SameOn.of_below hw) (fun _ h => h))
      have hI1 : ∀ y ∈ c.1, exI d y := fun y hy => by obtain ⟨_, hv⟩ := rows_mem r1 y hy; exact hv.ints
      have hI2 : ∀ y ∈ c.2, exI d y := fun y hy => by obtain ⟨_, hv⟩ := rows_mem r2 y hy; exact hv.ints
      obtain ⟨pp, qp, rfl, -, -, -⟩ := r1
      obtain ⟨pb, qb, rfl, -, -, -⟩ := r2
      have la := exs_bd hI1 sp wp false
      have lb := exs_bd hI2 sb wb true
      obtain ⟨XA, hXA⟩ : ∃ XA, XA = strOf (joinT [44, 32] (c.1.map fun y => exTxt d y false)) := ⟨_, rfl⟩
      obtain ⟨XB, hXB⟩ : ∃ XB, XB = strOf (joinT [44, 32] (c.2.map fun y => exTxt d y true)) := ⟨_, rfl⟩
      have CA : Hid (∀ w', Below w.heap.size w w' → Calls Tryz.prog 80 #[.slice pp c.1.length qp] w' fun e w'' => e = .returned (.string XA) ∧ Below w'.heap.size w' w'') := fun w' hw => by rw [hXA]; exact it_all d _ _ c.1 (F1 _ hw) sp wp (powAt_below HP.out hw)
      have CC : Hid (∀ w', Below w.heap.size w w' → Calls Tryz.prog 81 #[.slice pb c.2.length qb] w' fun e w'' => e = .returned (.string XB) ∧ Below w'.heap.size w' w'') := fun w' hw => by rw [hXB]; exact bt_all d _ _ c.2 (F2 _ hw) sb wb (powAt_below HP.out hw)
      have HCX : Hid ((nm ++ ⟨#[40]⟩ ++ XA ++ ⟨#[41, 32, 45, 62, 32]⟩ ++ XB).data.toList = lineT d nm c) := by
        show _ = _
        rw [hXA, hXB]
        simp only [lineT, ByteArray.data_append, Array.toList_append, strOf_data]
      have lxa : XA.size ≤ 52428800 := by rw [hXA, strOf_size]; exact la
      have lxb : XB.size ≤ 52428800 := by rw [hXB, strOf_size]; exact lb
      have z1 : (⟨#[40]⟩ : ByteArray).size = 1 := rfl
      have z5 : (⟨#[41, 32, 45, 62, 32]⟩ : ByteArray).size = 5 := rfl
      have nn0 : ¬ (9223372036854775807 < nm.size + (⟨#[40]⟩ : ByteArray).size) := by simp only [z1]; omega
      have nn1 : ¬ (9223372036854775807 < (nm ++ (⟨#[40]⟩ : ByteArray)).size + XA.size) := by simp only [ByteArray.size_append, z1]; omega
      have nn2 : ¬ (9223372036854775807 < (nm ++ (⟨#[40]⟩ : ByteArray) ++ XA).size + (⟨#[41, 32, 45, 62, 32]⟩ : ByteArray).size) := by simp only [ByteArray.size_append, z1, z5]; omega
      have nn3 : ¬ (9223372036854775807 < (nm ++ (⟨#[40]⟩ : ByteArray) ++ XA ++ (⟨#[41, 32, 45, 62, 32]⟩ : ByteArray)).size + XB.size) := by simp only [ByteArray.size_append, z1, z5]; omega
      have nn4 : ¬ (9223372036854775807 < nm.size + 1) := by omega
      have nn5 : ¬ (9223372036854775807 < nm.size + 1 + XA.size) := by omega
      have nn6 : ¬ (9223372036854775807 < nm.size + 1 + XA.size + 5) := by omega
      have nn7 : ¬ (9223372036854775807 < nm.size + 1 + XA.size + 5 + XB.size) := by omega
      have nn8 : ¬ (9223372036854775807 < nm.size + (⟨#[40]⟩ : ByteArray).size + XA.size) := by simp only [z1]; omega
      have nn9 : ¬ (9223372036854775807 < nm.size + (⟨#[40]⟩ : ByteArray).size + XA.size + (⟨#[41, 32, 45, 62, 32]⟩ : ByteArray).size) := by simp only [z1, z5]; omega
      have nn10 : ¬ (9223372036854775807 < nm.size + (⟨#[40]⟩ : ByteArray).size + XA.size + (⟨#[41, 32, 45, 62, 32]⟩ : ByteArray).size + XB.size) := by simp only [z1, z5]; omega
      clear z1 z5
      have HJ : Hid ((cl.take (k + 1)).map (fun c => strOf (lineT d nm c)) = (cl.take k).map (fun c => strOf (lineT d nm c)) ++ [(nm ++ ⟨#[40]⟩ ++ XA ++ ⟨#[41, 32, 45, 62, 32]⟩ ++ XB)]) := by
        show _ = _
        rw [List.take_add_one, hck]
        simp only [List.map_append, Option.toList_some, List.map_cons, List.map_nil]
        rw [← HCX.out, strOf_self]
      have lj : ((cl.take k).map fun c => strOf (lineT d nm c)).length = k := by
        rw [List.length_map, List.length_take, HN.out]
        omega
      generalize hJ0 : ((cl.take k).map fun c => strOf (lineT d nm c)) = J at *
      generalize hnb1 : c.1.length = np at *
      generalize hnb2 : c.2.length = nb at *
      have a0 := hcs 0 (by omega)
      have a1 := hcs 1 (by omega)
      rw [← hbw.cell (p := ⟨g, _, none⟩) hgl] at a0 a1
      simp at a0 a1
      have hki : (k : Int) < (n : Int) := by omega
      have hk0 : (0 : Int) ≤ (k : Int) := by omega
      obtain ⟨W1, hW1⟩ : ∃ W1, W1 = wr.alloc (.cells #[.slice pp np qp, .slice pb nb qb] 61) := ⟨_, rfl⟩
      have HW1 : Hid (W1 = wr.alloc (.cells #[.slice pp np qp, .slice pb nb qb] 61)) := hW1
      have K1 : Hid (Below wr.heap.size wr W1) := by show Below _ _ _; rw [hW1]; exact (Below.refl _ _).alloc (Nat.le_refl _) _
      have BW1 : Hid (Below w.heap.size w W1) := HBW.out.trans (K1.out.mono HBW.out.size)
      have BV1 : Hid (Below W0.heap.size W0 W1) := HB0.out.trans (K1.out.mono HB0.out.size)
      have bC : Blk W1 wr.heap.size #[.slice pp np qp, .slice pb nb qb] 61 := by rw [hW1]; exact Blk.new
      have O1 : Hid (OwnS W1 W0.heap.size u3 J) := ho.out.next K1.out
      have x0 := bC.cell 0 _ rfl
      have x1 := bC.cell 1 _ rfl
      have x2 := (bA.out.next BV1.out).cell 0 _ rfl
      have NN : Hid (some wr.heap.size ≠ u3.ownBlock ∧ some w.heap.size ≠ u3.ownBlock) := ⟨fun e => by have := (ho.out.off e.symm).2; omega, fun e => by have := (ho.out.off e.symm).1; omega⟩
      clear hb0 hbw hcs hat hcsl F1 F2 hI1 hI2 hXA hXB la lb hJ0 hW1 bC sp wp sb wb hnb1 hnb2
      go_wp2_with fail
      rw [← HW1.out]
      go_region_held3 (fun w' => w'.cell? ⟨wr.heap.size, 0, none⟩ = some (.slice pp np qp) ∧ w'.cell? ⟨wr.heap.size, 1, none⟩ = some (.slice pb nb qb) ∧ w'.cell? ⟨w.heap.size, 0, none⟩ = some (.string nm))
        (first | go_keep | (go_split_ands; refine ⟨?_, ?_, ?_⟩ <;> exact cell_next hb (by assumption)) | (go_split_ands; refine ⟨?_, ?_, ?_⟩ <;> exact cell_next ((Below.refl _ _).alloc (Nat.le_refl _) _) (by assumption)) | (go_split_ands; refine ⟨?_, ?_, ?_⟩ <;> first | exact cell_grown hgrow NN.out.1 (by assumption) | exact cell_grown hgrow NN.out.2 (by assumption)))
        (first
          | (refine step_append_lies _ (by rfl) _ _ _ (by rfl) W0.heap.size 9 i _ 1 16 Tryz.underlying46 hi hz0 hz1 hz2 rfl (by omega) u3 J.length (strs J) (by rfl) O6.out.1 ⟨w5.heap.size, 0, none⟩ 1 1 (strs [(nm ++ ⟨#[40]⟩ ++ XA ++ ⟨#[41, 32, 45, 62, 32]⟩ ++ XB)]) (by rfl) (by rfl) N6.out (strs_oneCell _) (by omega) (by unfold maxLen; omega) (by omega) O6.out.2 (w5.heap.size + 1) (by simp) ?_; intro gg cap2 w7 hown hgrow hat7 hlt7)
          | (go_at_call 80; refine (CA.out _ (by exact BW1.out.drew)).mono ?_; rintro e w4 ⟨rfl, hb⟩; have K4 : Hid (Below W1.heap.size W1 w4) := ⟨hb.os, hb.tape, hb.output, hb.size, hb.block⟩)
          | (go_at_call 81; refine (CC.out _ (BW1.out.trans (K4.out.mono BW1.out.size))).mono ?_; rintro e w5 ⟨rfl, hb⟩; have K5 : Hid (Below w4.heap.size w4 w5) := hb; have K6 : Hid (Below W1.heap.size W1 (w5.alloc (.cells #[.string (nm ++ ⟨#[40]⟩ ++ XA ++ ⟨#[41, 32, 45, 62, 32]⟩ ++ XB)] 9))) := (K4.out.trans (K5.out.mono K4.out.size)).alloc (K4.out.trans (K5.out.mono K4.out.size)).size _; have O6 : Hid (OwnS (w5.alloc (.cells #[.string (nm ++ ⟨#[40]⟩ ++ XA ++ ⟨#[41, 32, 45, 62, 32]⟩ ++ XB)] 9)) W0.heap.size u3 J) := O1.out.next K6.out; have N6 : Hid (∀ j u, (strs [(nm ++ ⟨#[40]⟩ ++ XA ++ ⟨#[41, 32, 45, 62, 32]⟩ ++ XB)])[j]? = some u → (w5.alloc (.cells #[.string (nm ++ ⟨#[40]⟩ ++ XA ++ ⟨#[41, 32, 45, 62, 32]⟩ ++ XB)] 9)).cell? ((⟨w5.heap.size, 0, none⟩ : Addr).add j) = some u) := one_strS w5 _ _ rfl))
      all_goals
        go_split_ands
        have HO2 : Hid (OwnS w7 W0.heap.size (.slice (some ⟨gg, 0, none⟩) (k + 1) cap2) (J ++ [(nm ++ ⟨#[40]⟩ ++ XA ++ ⟨#[41, 32, 45, 62, 32]⟩ ++ XB)])) := by
          have := OwnS.of (l := J) (m := [(nm ++ ⟨#[40]⟩ ++ XA ++ ⟨#[41, 32, 45, 62, 32]⟩ ++ XB)]) hown (by simp) rfl (Nat.le_trans O6.out.2 hgrow.size)
          rwa [lj] at this
        have HB2 : Hid (Below W0.heap.size W0 w7) := (BV1.out.trans (K6.out.mono BV1.out.size)).trans (O6.out.below hgrow)
        clear hown hgrow hat7 hlt7
        go_wp2_with fail
        exact ⟨⟨k + 1, by omega, by go_num, by show OwnS _ _ _ _; rw [HJ.out]; exact HO2.out, HB2.out⟩, by simp [intOf]; omega⟩
    · have HS : Hid (OwnS wr W0.heap.size u3 (cl.map fun c => strOf (lineT d nm c))) := by
        have := ho.out
        rwa [List.take_of_length_le (by rw [HN.out]; omega)] at this
      have HE : Hid ((cl.map fun c => strOf (lineT d nm c)).map (·.data.toList) = cl.map (lineT d nm)) := by
        show _ = _
        rw [List.map_map]
        exact List.map_congr_left fun y _ => strOf_data _
      have HL : Hid ((cl.map fun c => strOf (lineT d nm c)).length ≤ 140737488355328) := by
        show _ ≤ _
        rw [List.length_map, HN.out]; omega
      obtain ⟨XJ, hXJ⟩ : ∃ XJ, XJ = strOf (joinT [59, 10] (cl.map (lineT d nm))) := ⟨_, rfl⟩
      have HXJ : Hid (XJ.data.toList = joinT [59, 10] (cl.map (lineT d nm))) := by show _ = _; rw [hXJ, strOf_data]
      have lxj : XJ.size ≤ 52428801 := by rw [hXJ, strOf_size]; exact LJ.out
      have CJ : Hid (Calls Tryz.prog 38 #[u3, .string ⟨#[59, 10]⟩] wr fun e w'' => e = .returned (.string XJ) ∧ Below wr.heap.size wr w'') := by
        have := joinOwn wr W0.heap.size u3 _ ⟨#[59, 10]⟩ HS.out HL.out (by rw [HE.out]; have := LJ.out; show (joinT [59, 10] _).length ≤ _; omega)
        rw [HE.out] at this
        rw [hXJ]
        exact this
      clear hb0 hbw hXJ HS HE HL
      go_wp2_with fail
      refine CJ.out.mono ?_
      rintro e w2 ⟨rfl, hb2⟩
      have HB4 : Hid (Below w.heap.size w w2) := HBW.out.trans (hb2.mono HBW.out.size)
      clear hb2
      go_wp2_with fail
      go_ret
      exact ⟨ret_strOf (by rw [HF.out]; simp [ByteArray.data_append, HXJ.out]), HB4.out⟩
end Go.Proofs.YtkomkhiinfdfmaaGreatDoor
