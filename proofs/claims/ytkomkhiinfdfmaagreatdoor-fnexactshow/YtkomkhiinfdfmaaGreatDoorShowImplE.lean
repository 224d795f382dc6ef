/-
  The program's Show, by contract: a module.
-/
import Derived.Test.YtkomkhiinfdfmaaGreatDoorShowImplD
import Derived.Test.YtkomkhiinfdfmaaGreatDoorShowSpec3
import Derived.Test.YtkomkhiinfdfmaaGreatDoorModOkImplD
namespace Go.Proofs.YtkomkhiinfdfmaaGreatDoor
open Go.ChangeShapes Go.WideShapes Go.ChangeAt Go.RowKit
set_option linter.unusedVariables false

theorem OwnS.fresh2 {w : World} {a b : ByteArray} : OwnS (w.alloc (.cells #[.string a, .string b] 9)) w.heap.size (.slice (some ⟨w.heap.size, 0, none⟩) 2 2) [a, b] := by
  refine ⟨⟨by simp [strs], .inr ⟨w.heap.size, 2, #[.string a, .string b], rfl, Nat.le_refl _, ?_, Nat.le_refl _, by unfold maxLen; omega, rfl, rfl⟩⟩, by simp⟩
  exact Blk.new (w := w) (cs := #[.string a, .string b]) (t := 9)

set_option maxHeartbeats 16000000 in
set_option maxRecDepth 100000 in
/-- THE PROGRAM's Show. -/
theorem implShow_any (d : Nat) (w : World) (cs : List Value) (m : Md) (hT : Tabs w) (hpw : PowAt w) (h : HMd w All d cs m) (hwt : wtMd d m ≤ 1048576) :
    Calls Tryz.prog 8 #[.agg cs.toArray] w fun e w' => e = .returned (.string (strOf (showT d m))) ∧ Below w.heap.size w w' := by
  have HMM : ∀ w', Below w.heap.size w w' → HMd w' All d cs m := fun w' hw => h.mono (SameOn.of_below hw) (fun _ h => h)
  have HT : Hid (Tabs w) := hT
  have HP : Hid (PowAt w) := hpw
  obtain ⟨ev, fv, rfl, hs, f0, f1⟩ := h
  have BL : Hid (∀ (cs : Array Value) (t : TypeId), Below w.heap.size w (w.alloc (.cells cs t))) := fun cs t => (Below.refl _ _).alloc (Nat.le_refl _) _
  clear hT hpw
  cases hok : mdOk d m with
  | false =>
    have HV : Hid (showT d m = []) := by show _ = _; simp [showT, hok]
    obtain ⟨pe, ce, rfl, -, -, -⟩ := f0
    obtain ⟨pf, cf, rfl, -, -, -⟩ := f1
    obtain ⟨ms, es, fs⟩ := m
    simp only at *
    go_enter Tryz.func8, Tryz.ntmps8
    go_wp2_with fail
    refine (implModuleOk_any d _ _ ⟨ms, es, fs⟩ (HT.out.below (BL.out _ _)) (HMM _ (BL.out _ _))).mono ?_
    rintro e w1 ⟨rfl, hb⟩
    rw [hok]
    have HB : Hid (Below w.heap.size w w1) := (BL.out _ _).trans (hb.mono (BL.out _ _).size)
    clear hb
    go_wp2_with fail
    go_ret
    exact ⟨by rw [HV.out]; rfl, HB.out⟩
  | true =>
  have HV : Hid (showT d m = joinT [10] (modT1 m :: modT2 m :: m.funs.map (funT d)) ++ [10]) := by show _ = _; rw [mdTxt_join]; simp [showT, hok]
  have hfs := fnShp_of hok
  have hIf : ∀ f ∈ m.funs, ∀ c ∈ f.clauses, (∀ y ∈ c.1, exI d y) ∧ ∀ y ∈ c.2, exI d y := fun f hf => by obtain ⟨_, hv⟩ := rows_mem f1 f hf; exact hv.ints
  have hIr : ∀ r ∈ m.exports, okI r.arity := fun r hr => by obtain ⟨_, hv⟩ := rows_mem f0 r hr; exact hv.2.2
  obtain ⟨i, hi, hz0, hz1, hz2⟩ := info_parts info_str
  obtain ⟨ms, es, fs⟩ := m
  have hwm : wtMd d ⟨ms, es, fs⟩ = ms.size + wtS wtRf es + wtS (wtFn d) fs := rfl
  rw [hwm] at hwt
  simp only at *
  have wms : ms.size ≤ 1048576 := by omega
  have wes : wtS wtRf es ≤ 1048576 := by omega
  have wfs : wtS (wtFn d) fs ≤ 1048576 := by omega
  obtain ⟨pe, ce, rfl, hce, hcme, hxe⟩ := f0
  obtain ⟨pf, cf, rfl, hcf, hcmf, hxf⟩ := f1
  have hne : es.length ≤ 1048576 := Nat.le_trans (len_wtS wtRf es) wes
  have hnf : fs.length ≤ 1048576 := Nat.le_trans (len_wtS (wtFn d) fs) wfs
  have LE : Hid ((joinT [44, 32] (es.map refT)).length ≤ 52428800) := by
    have h1 := joinT_wt refT wtRf 22 50 [44, 32] (by decide) es (fun r hr => refT_len (hIr r hr))
    show _ ≤ _
    omega
  have RX : Hid (∀ (k : Nat) (r : Rf), es[k]? = some r → r.name.size ≤ 1048576 ∧ okI r.arity) := fun k r hk => by
    have h1 := wtS_at wtRf es k r hk
    have h2 : r.name.size ≤ wtRf r := by unfold wtRf; omega
    exact ⟨by omega, hIr r (List.mem_of_getElem? hk)⟩
  have FX : Hid (∀ (k : Nat) (f : Fn'), fs[k]? = some f → fnShp d f ∧ wtFn d f ≤ 1048576) := fun k f hk => ⟨hfs f (List.mem_of_getElem? hk), Nat.le_trans (wtS_at (wtFn d) fs k f hk) wfs⟩
  have LF : Hid ((joinT [10] (modT1 ⟨ms, es, fs⟩ :: modT2 ⟨ms, es, fs⟩ :: fs.map (funT d))).length ≤ 140000000000) := by
    have h1 := flat_len (fun f => funT d f ++ [10]) (wtFn d) 50 fs (fun f hf => by
      have h8 := funT_len (hfs f hf) (hIf f hf)
      have h9 : wtFn d f = f.name.size + wtS (wtCl (wtEx d)) f.clauses := rfl
      simp only [List.length_append, List.length_cons, List.length_nil]
      omega)
    have h2 : (joinT [10] (modT1 ⟨ms, es, fs⟩ :: modT2 ⟨ms, es, fs⟩ :: fs.map (funT d))).length + 1 = (mdTxt d ⟨ms, es, fs⟩).length := by rw [← mdTxt_join]; simp
    have h3 := LE.out
    unfold mdTxt mdHead at h2
    generalize joinT [10] (modT1 ⟨ms, es, fs⟩ :: modT2 ⟨ms, es, fs⟩ :: fs.map (funT d)) = Z at h2 ⊢
    unfold modT1 modT2 at h2
    simp only [List.length_append, List.length_cons, List.length_nil, bsize] at h2
    show _ ≤ _
    omega
  generalize hn1 : es.length = ne at *
  generalize hn2 : fs.length = nf at *
  have HNE : Hid (es.length = ne) := hn1
  have HNF : Hid (fs.length = nf) := hn2
  have HXE : Hid (es ≠ [] → ∃ g off, pe = some ⟨g, off, none⟩ ∧ All g ∧ g < w.heap.size ∧ ∀ i x, es[i]? = some x → ∃ cs, cs.length = 2 ∧ (∀ j, j < 2 → w.cell? ⟨g, off + i * 2 + j, none⟩ = cs[j]?) ∧ HRf cs x) := hxe
  have HXF : Hid (fs ≠ [] → ∃ g off, pf = some ⟨g, off, none⟩ ∧ All g ∧ g < w.heap.size ∧ ∀ i x, fs[i]? = some x → ∃ cs, cs.length = 3 ∧ (∀ j, j < 3 → w.cell? ⟨g, off + i * 3 + j, none⟩ = cs[j]?) ∧ HFn w All d cs x) := hxf
  obtain ⟨W0, hW0⟩ : ∃ W0, W0 = w.alloc (.cells #[.string ms, .slice pe ne ce, .slice pf nf cf] 31) := ⟨_, rfl⟩
  have bA : Hid (Blk W0 w.heap.size #[.string ms, .slice pe ne ce, .slice pf nf cf] 31) := by show Blk _ _ _ _; rw [hW0]; exact Blk.new
  have B0 : Hid (Below w.heap.size w W0) := by show Below _ _ _; rw [hW0]; exact (Below.refl _ _).alloc (Nat.le_refl _) _
  have HW0 : Hid (W0 = w.alloc (.cells #[.string ms, .slice pe ne ce, .slice pf nf cf] 31)) := hW0
  have HM0 : Hid (HMd W0 All d [.string ms, .slice pe ne ce, .slice pf nf cf] ⟨ms, es, fs⟩) := HMM _ B0.out
  clear hxe hxf hn1 hn2 hW0 HMM hfs hIf hIr hwt hwm hs
  go_enter Tryz.func8, Tryz.ntmps8
  go_wp2_with fail
  rw [← HW0.out]
  refine (implModuleOk_any d _ _ ⟨ms, es, fs⟩ (HT.out.below B0.out) HM0.out).mono ?_
  rintro e w1 ⟨rfl, hb1⟩
  rw [hok]
  have K1 : Hid (Below W0.heap.size W0 w1) := hb1
  have B1 : Hid (Below w.heap.size w w1) := B0.out.trans (hb1.mono B0.out.size)
  have b1 : Hid (Blk w1 w.heap.size #[.string ms, .slice pe ne ce, .slice pf nf cf] 31) := bA.out.next hb1
  have m0 := b1.out.cell 0 _ rfl
  have m1 := b1.out.cell 1 _ rfl
  have m2 := b1.out.cell 2 _ rfl
  have O1 : Hid (OwnS (w1.alloc (.cells #[] 9)) w1.heap.size (.slice (some ⟨w1.heap.size, 0, none⟩) 0 0) []) := OwnS.fresh
  have BL1 : Hid (Below w1.heap.size w1 (w1.alloc (.cells #[] 9))) := (Below.refl _ _).alloc (Nat.le_refl _) _
  have c1 : (w1.alloc (.cells #[] 9)).cell? ⟨w.heap.size, 1, none⟩ = _ := cell_next BL1.out m1
  clear hb1
  go_wp2_with fail
  go_loopw [3, 16] (fun ov iv wr => ∃ (k : Nat), k ≤ ne ∧ iv = .int .i64 k ∧ Hid (OwnS wr w1.heap.size ov ((es.take k).map fun r => strOf (refT r))) ∧ Below w1.heap.size w1 wr) (fun _ iv _ => ne - (intOf iv).toNat)
  case atStart => exact ⟨0, Nat.zero_le _, rfl, O1.out, BL1.out⟩
  case round =>
    obtain ⟨k, hk, rfl, ho, hb0⟩ := hrel
    have HB0 : Hid (Below w1.heap.size w1 wr) := hb0
    have hbw : Below w.heap.size w wr := B1.out.trans (hb0.mono B1.out.size)
    have HBW : Hid (Below w.heap.size w wr) := hbw
    by_cases hlt : k < ne
    · obtain ⟨r, hrk⟩ : ∃ r, es[k]? = some r := ⟨es[k]'(by rw [HNE.out]; exact hlt), List.getElem?_eq_getElem _⟩
      obtain ⟨g, off, rfl, -, hgl, hat⟩ := HXE.out (by intro h; rw [h] at hrk; simp at hrk)
      obtain ⟨cs, hcsl, hcs, rfl, -, -⟩ := hat k r hrk
      obtain ⟨hrs, hri⟩ := RX.out k r hrk
      have a0 := hcs 0 (by omega)
      have a1 := hcs 1 (by omega)
      rw [← hbw.cell (p := ⟨g, _, none⟩) hgl] at a0 a1
      simp at a0 a1
      have hki : (k : Int) < (ne : Int) := by omega
      have hk0 : (0 : Int) ≤ (k : Int) := by omega
      have HJ : Hid ((es.take (k + 1)).map (fun r => strOf (refT r)) = (es.take k).map (fun r => strOf (refT r)) ++ [strOf (refT r)]) := by
        show _ = _
        rw [List.take_add_one, hrk]
        simp
      have lj : ((es.take k).map fun r => strOf (refT r)).length = k := by
        rw [List.length_map, List.length_take, HNE.out]
        omega
      generalize hJ0 : ((es.take k).map fun r => strOf (refT r)) = J at *
      have BA : Hid (Below w1.heap.size w1 (wr.alloc (.cells #[.string r.name, .int .i64 r.arity] 54))) := HB0.out.alloc HB0.out.size _
      have OA : Hid (OwnS (wr.alloc (.cells #[.string r.name, .int .i64 r.arity] 54)) w1.heap.size u3 J) := ho.out.next ((Below.refl _ _).alloc (Nat.le_refl _) _)
      have BAW : Hid (Below w.heap.size w (wr.alloc (.cells #[.string r.name, .int .i64 r.arity] 54))) := HBW.out.alloc HBW.out.size _
      clear hb0 hbw hcs hat hcsl hJ0
      go_wp2_with fail
      refine (refText_any _ r hrs hri (powAt_below HP.out BAW.out)).mono ?_
      rintro e w4 ⟨rfl, hb4⟩
      have B4 : Hid (Below w1.heap.size w1 w4) := BA.out.trans (hb4.mono BA.out.size)
      have O4 : Hid (OwnS w4 w1.heap.size u3 J) := OA.out.next hb4
      generalize hX : strOf (refT r) = X at *
      have B5 : Hid (Below w1.heap.size w1 (w4.alloc (.cells #[.string X] 9))) := B4.out.alloc B4.out.size _
      have O5 : Hid (OwnS (w4.alloc (.cells #[.string X] 9)) w1.heap.size u3 J) := O4.out.next ((Below.refl _ _).alloc (Nat.le_refl _) _)
      have N1 : Hid (∀ j u, (strs [X])[j]? = some u → (w4.alloc (.cells #[.string X] 9)).cell? ((⟨w4.heap.size, 0, none⟩ : Addr).add j) = some u) := one_strS w4 X _ rfl
      clear hb4
      go_wp2_with (first | (at_builtin; refine wpList_append_own _ rfl _ _ 46 rfl w1.heap.size 9 i (.string ⟨#[]⟩) 1 16 Tryz.underlying46 hi hz0 hz1 hz2 rfl (by decide) u3 _ _ rfl O5.out.1 _ 1 1 (strs [X]) rfl rfl N1.out (strs_oneCell _) (by unfold maxLen; omega) (by omega) O5.out.2 ?_))
      intro u2 w2 hown2 hgr2 _
      have HO2 : Hid (OwnS w2 w1.heap.size u2 (J ++ [X])) := OwnS.of hown2 (by rw [List.length_append, lj]; rfl) rfl (Nat.le_trans O5.out.2 hgr2.size)
      have HB2 : Hid (Below w1.heap.size w1 w2) := B5.out.trans (O5.out.below hgr2)
      clear hown2 hgr2
      go_wp2_with fail
      exact ⟨⟨k + 1, by omega, by go_num, by show OwnS _ _ _ _; rw [HJ.out]; exact HO2.out, HB2.out⟩, by simp [intOf]; omega⟩
    · have HS : Hid (OwnS wr w1.heap.size u3 (es.map fun r => strOf (refT r))) := by
        have := ho.out
        rwa [List.take_of_length_le (by rw [HNE.out]; omega)] at this
      have HE : Hid ((es.map fun r => strOf (refT r)).map (·.data.toList) = es.map refT) := by
        show _ = _
        rw [List.map_map]
        exact List.map_congr_left fun y _ => strOf_data _
      have HL : Hid ((es.map fun r => strOf (refT r)).length ≤ 140737488355328) := by
        show _ ≤ _
        rw [List.length_map, HNE.out]; omega
      obtain ⟨XJ, hXJ⟩ : ∃ XJ, XJ = strOf (joinT [44, 32] (es.map refT)) := ⟨_, rfl⟩
      have HXJ : Hid (XJ.data.toList = joinT [44, 32] (es.map refT)) := by show _ = _; rw [hXJ, strOf_data]
      have lxj : XJ.size ≤ 52428800 := by rw [hXJ, strOf_size]; exact LE.out
      have z8 : (⟨#[45, 109, 111, 100, 117, 108, 101, 40]⟩ : ByteArray).size = 8 := rfl
      have z2 : (⟨#[41, 46]⟩ : ByteArray).size = 2 := rfl
      have z9 : (⟨#[45, 101, 120, 112, 111, 114, 116, 40, 91]⟩ : ByteArray).size = 9 := rfl
      have z3 : (⟨#[93, 41, 46]⟩ : ByteArray).size = 3 := rfl
      have nn0 : ¬ (9223372036854775807 < (⟨#[45, 109, 111, 100, 117, 108, 101, 40]⟩ : ByteArray).size + ms.size) := by simp only [z8]; omega
      have nn1 : ¬ (9223372036854775807 < ((⟨#[45, 109, 111, 100, 117, 108, 101, 40]⟩ : ByteArray) ++ ms).size + (⟨#[41, 46]⟩ : ByteArray).size) := by simp only [ByteArray.size_append, z8, z2]; omega
      have nn2 : ¬ (9223372036854775807 < 8 + ms.size) := by omega
      have nn3 : ¬ (9223372036854775807 < 8 + ms.size + 2) := by omega
      have nn4 : ¬ (9223372036854775807 < (⟨#[45, 109, 111, 100, 117, 108, 101, 40]⟩ : ByteArray).size + ms.size + (⟨#[41, 46]⟩ : ByteArray).size) := by simp only [z8, z2]; omega
      have nn5 : ¬ (9223372036854775807 < (⟨#[45, 101, 120, 112, 111, 114, 116, 40, 91]⟩ : ByteArray).size + XJ.size) := by simp only [z9]; omega
      have nn6 : ¬ (9223372036854775807 < ((⟨#[45, 101, 120, 112, 111, 114, 116, 40, 91]⟩ : ByteArray) ++ XJ).size + (⟨#[93, 41, 46]⟩ : ByteArray).size) := by simp only [ByteArray.size_append, z9, z3]; omega
      have nn7 : ¬ (9223372036854775807 < 9 + XJ.size) := by omega
      have nn8 : ¬ (9223372036854775807 < 9 + XJ.size + 3) := by omega
      have nn9 : ¬ (9223372036854775807 < (⟨#[45, 101, 120, 112, 111, 114, 116, 40, 91]⟩ : ByteArray).size + XJ.size + (⟨#[93, 41, 46]⟩ : ByteArray).size) := by simp only [z9, z3]; omega
      clear z8 z2 z9 z3
      have CJ : Hid (∀ w', Below wr.heap.size wr w' → Calls Tryz.prog 38 #[u3, .string ⟨#[44, 32]⟩] w' fun e w'' => e = .returned (.string XJ) ∧ Below w'.heap.size w' w'') := fun w' hw => by
        have := joinOwn w' w1.heap.size u3 _ ⟨#[44, 32]⟩ (HS.out.next hw) HL.out (by rw [HE.out]; have := LE.out; show (joinT [44, 32] _).length ≤ _; omega)
        rw [HE.out] at this
        rw [hXJ]
        exact this
      have d0 := cell_next hb0 m0
      have d2 := cell_next hb0 m2
      clear hb0 hbw hXJ HS HE HL
      go_wp2_with fail
      go_region_held3 (fun w' => w'.cell? ⟨w.heap.size, 0, none⟩ = some (.string ms) ∧ w'.cell? ⟨w.heap.size, 2, none⟩ = some (.slice pf nf cf))
        (first | go_keep | (go_split_ands; refine ⟨?_, ?_⟩ <;> exact cell_next hb (by assumption)) | (go_split_ands; refine ⟨?_, ?_⟩ <;> exact cell_next ((Below.refl _ _).alloc (Nat.le_refl _) _) (by assumption)))
        (first
          | (go_at_call 38; refine (CJ.out _ (by exact (Below.refl _ _).drew)).mono ?_; rintro e w5 ⟨rfl, hb⟩; have K5 : Hid (Below wr.heap.size wr w5) := ⟨hb.os, hb.tape, hb.output, hb.size, hb.block⟩))
      all_goals
        go_split_ands
        have B5 : Hid (Below w.heap.size w w5) := HBW.out.trans (K5.out.mono HBW.out.size)
        have e2 : (w5.alloc (.cells #[.string ((⟨#[45, 109, 111, 100, 117, 108, 101, 40]⟩ : ByteArray) ++ ms ++ (⟨#[41, 46]⟩ : ByteArray)), .string ((⟨#[45, 101, 120, 112, 111, 114, 116, 40, 91]⟩ : ByteArray) ++ XJ ++ (⟨#[93, 41, 46]⟩ : ByteArray))] 9)).cell? ⟨w.heap.size, 2, none⟩ = some (.slice pf nf cf) := cell_next ((Below.refl _ _).alloc (Nat.le_refl _) _) (cell_next K5.out d2)
        have O7 : Hid (OwnS (w5.alloc (.cells #[.string ((⟨#[45, 109, 111, 100, 117, 108, 101, 40]⟩ : ByteArray) ++ ms ++ (⟨#[41, 46]⟩ : ByteArray)), .string ((⟨#[45, 101, 120, 112, 111, 114, 116, 40, 91]⟩ : ByteArray) ++ XJ ++ (⟨#[93, 41, 46]⟩ : ByteArray))] 9)) w5.heap.size (.slice (some ⟨w5.heap.size, 0, none⟩) 2 2) [((⟨#[45, 109, 111, 100, 117, 108, 101, 40]⟩ : ByteArray) ++ ms ++ (⟨#[41, 46]⟩ : ByteArray)), ((⟨#[45, 101, 120, 112, 111, 114, 116, 40, 91]⟩ : ByteArray) ++ XJ ++ (⟨#[93, 41, 46]⟩ : ByteArray))]) := OwnS.fresh2
        have BL7 : Hid (Below w5.heap.size w5 (w5.alloc (.cells #[.string ((⟨#[45, 109, 111, 100, 117, 108, 101, 40]⟩ : ByteArray) ++ ms ++ (⟨#[41, 46]⟩ : ByteArray)), .string ((⟨#[45, 101, 120, 112, 111, 114, 116, 40, 91]⟩ : ByteArray) ++ XJ ++ (⟨#[93, 41, 46]⟩ : ByteArray))] 9))) := (Below.refl _ _).alloc (Nat.le_refl _) _
        have HX1 : Hid (((⟨#[45, 109, 111, 100, 117, 108, 101, 40]⟩ : ByteArray) ++ ms ++ (⟨#[41, 46]⟩ : ByteArray)).data.toList = modT1 ⟨ms, es, fs⟩) := by show _ = _; simp only [modT1, ByteArray.data_append, Array.toList_append]
        have HX2 : Hid (((⟨#[45, 101, 120, 112, 111, 114, 116, 40, 91]⟩ : ByteArray) ++ XJ ++ (⟨#[93, 41, 46]⟩ : ByteArray)).data.toList = modT2 ⟨ms, es, fs⟩) := by show _ = _; simp only [modT2, ByteArray.data_append, Array.toList_append, HXJ.out]
        generalize ((⟨#[45, 109, 111, 100, 117, 108, 101, 40]⟩ : ByteArray) ++ ms ++ (⟨#[41, 46]⟩ : ByteArray)) = XM at *
        generalize ((⟨#[45, 101, 120, 112, 111, 114, 116, 40, 91]⟩ : ByteArray) ++ XJ ++ (⟨#[93, 41, 46]⟩ : ByteArray)) = XE at *
        clear nn0 nn1 nn2 nn3 nn4 nn5 nn6 nn7 nn8 nn9 CJ K5 d0 d2 m0 m1 m2 c1
        go_wp2_with fail
        go_loopw [6, 38] (fun ov iv wq => ∃ (k : Nat), k ≤ nf ∧ iv = .int .i64 k ∧ Hid (OwnS wq w5.heap.size ov (XM :: XE :: (fs.take k).map fun f => strOf (funT d f))) ∧ Below w5.heap.size w5 wq) (fun _ iv _ => nf - (intOf iv).toNat)
        case atStart => exact ⟨0, Nat.zero_le _, rfl, O7.out, BL7.out⟩
        case round =>
          obtain ⟨j, hj, rfl, ho7, hb7⟩ := hrel
          have HB7 : Hid (Below w5.heap.size w5 wr) := hb7
          have hbw : Below w.heap.size w wr := B5.out.trans (hb7.mono B5.out.size)
          have HBV : Hid (Below w.heap.size w wr) := hbw
          by_cases hlt7 : j < nf
          · obtain ⟨f, hfk⟩ : ∃ f, fs[j]? = some f := ⟨fs[j]'(by rw [HNF.out]; exact hlt7), List.getElem?_eq_getElem _⟩
            obtain ⟨g, off, rfl, -, hgl, hat⟩ := HXF.out (by intro h; rw [h] at hfk; simp at hfk)
            obtain ⟨cs, hcsl, hcs, r1⟩ := hat j f hfk
            obtain ⟨hfs, hfw⟩ := FX.out j f hfk
            have EF : ∀ w', Below w.heap.size w w' → HFn w' All d cs f := fun w' hw => r1.mono (SameOn.of_below hw) (fun _ h => h)
            obtain ⟨fv, rfl, -, -, fr⟩ := r1
            obtain ⟨pc, qc, rfl, -, -, -⟩ := fr
            generalize hnc : f.clauses.length = nc at *
            have a0 := hcs 0 (by omega)
            have a1 := hcs 1 (by omega)
            have a2 := hcs 2 (by omega)
            rw [← hbw.cell (p := ⟨g, _, none⟩) hgl] at a0 a1 a2
            simp at a0 a1 a2
            have hki7 : (j : Int) < (nf : Int) := by omega
            have hk07 : (0 : Int) ≤ (j : Int) := by omega
            have HJ : Hid ((XM :: XE :: (fs.take (j + 1)).map fun f => strOf (funT d f)) = (XM :: XE :: (fs.take j).map fun f => strOf (funT d f)) ++ [strOf (funT d f)]) := by
              show _ = _
              rw [List.take_add_one, hfk]
              simp
            have lj7 : (XM :: XE :: (fs.take j).map fun f => strOf (funT d f)).length = j + 2 := by
              simp only [List.length_cons, List.length_map, List.length_take, HNF.out]
              omega
            generalize hJ0 : (XM :: XE :: (fs.take j).map fun f => strOf (funT d f)) = J at *
            have BA : Hid (Below w5.heap.size w5 (wr.alloc (.cells #[.string f.name, .int .i64 f.arity, .slice pc nc qc] 57))) := HB7.out.alloc HB7.out.size _
            have OA : Hid (OwnS (wr.alloc (.cells #[.string f.name, .int .i64 f.arity, .slice pc nc qc] 57)) w5.heap.size u6 J) := ho7.out.next ((Below.refl _ _).alloc (Nat.le_refl _) _)
            have BAW : Hid (Below w.heap.size w (wr.alloc (.cells #[.string f.name, .int .i64 f.arity, .slice pc nc qc] 57))) := HBV.out.alloc HBV.out.size _
            clear hb7 hbw hcs hat hcsl hJ0 hnc
            go_wp2_with fail
            refine (funText_any d _ _ f (EF _ BAW.out) hfs hfw (powAt_below HP.out BAW.out)).mono ?_
            rintro e w4 ⟨rfl, hb4⟩
            have B4 : Hid (Below w5.heap.size w5 w4) := BA.out.trans (hb4.mono BA.out.size)
            have O4 : Hid (OwnS w4 w5.heap.size u6 J) := OA.out.next hb4
            generalize hX : strOf (funT d f) = X at *
            have B6 : Hid (Below w5.heap.size w5 (w4.alloc (.cells #[.string X] 9))) := B4.out.alloc B4.out.size _
            have O6 : Hid (OwnS (w4.alloc (.cells #[.string X] 9)) w5.heap.size u6 J) := O4.out.next ((Below.refl _ _).alloc (Nat.le_refl _) _)
            have N1 : Hid (∀ j u, (strs [X])[j]? = some u → (w4.alloc (.cells #[.string X] 9)).cell? ((⟨w4.heap.size, 0, none⟩ : Addr).add j) = some u) := one_strS w4 X _ rfl
            clear hb4
            go_wp2_with (first | (at_builtin; refine wpList_append_own _ rfl _ _ 46 rfl w5.heap.size 9 i (.string ⟨#[]⟩) 1 16 Tryz.underlying46 hi hz0 hz1 hz2 rfl (by decide) u6 _ _ rfl O6.out.1 _ 1 1 (strs [X]) rfl rfl N1.out (strs_oneCell _) (by unfold maxLen; omega) (by omega) O6.out.2 ?_))
            intro u2 w2 hown2 hgr2 _
            have HO2 : Hid (OwnS w2 w5.heap.size u2 (J ++ [X])) := OwnS.of hown2 (by simp only [List.length_append, List.length_cons, List.length_nil]; omega) rfl (Nat.le_trans O6.out.2 hgr2.size)
            have HB2 : Hid (Below w5.heap.size w5 w2) := B6.out.trans (O6.out.below hgr2)
            clear hown2 hgr2
            go_wp2_with fail
            exact ⟨⟨j + 1, by omega, by go_num, by show OwnS _ _ _ _; rw [HJ.out]; exact HO2.out, HB2.out⟩, by simp [intOf]; omega⟩
          · have HS7 : Hid (OwnS wr w5.heap.size u6 (XM :: XE :: fs.map fun f => strOf (funT d f))) := by
              have := ho7.out
              rwa [List.take_of_length_le (by rw [HNF.out]; omega)] at this
            have HE7 : Hid ((XM :: XE :: fs.map fun f => strOf (funT d f)).map (·.data.toList) = modT1 ⟨ms, es, fs⟩ :: modT2 ⟨ms, es, fs⟩ :: fs.map (funT d)) := by
              show _ = _
              rw [List.map_cons, List.map_cons, List.map_map, HX1.out, HX2.out]
              congr 2
            have HL7 : Hid ((XM :: XE :: fs.map fun f => strOf (funT d f)).length ≤ 140737488355328) := by
              show _ ≤ _
              simp only [List.length_cons, List.length_map, HNF.out]; omega
            obtain ⟨XF, hXF⟩ : ∃ XF, XF = strOf (joinT [10] (modT1 ⟨ms, es, fs⟩ :: modT2 ⟨ms, es, fs⟩ :: fs.map (funT d))) := ⟨_, rfl⟩
            have HXF : Hid (XF.data.toList = joinT [10] (modT1 ⟨ms, es, fs⟩ :: modT2 ⟨ms, es, fs⟩ :: fs.map (funT d))) := by show _ = _; rw [hXF, strOf_data]
            have lxf : XF.size ≤ 140000000000 := by rw [hXF, strOf_size]; exact LF.out
            have CF : Hid (Calls Tryz.prog 38 #[u6, .string ⟨#[10]⟩] wr fun e w'' => e = .returned (.string XF) ∧ Below wr.heap.size wr w'') := by
              have := joinOwn wr w5.heap.size u6 _ ⟨#[10]⟩ HS7.out HL7.out (by rw [HE7.out]; have := LF.out; show (joinT [10] _).length ≤ _; omega)
              rw [HE7.out] at this
              rw [hXF]
              exact this
            clear hb7 hbw hXF HS7 HE7 HL7
            go_wp2_with fail
            refine CF.out.mono ?_
            rintro e w2 ⟨rfl, hb2⟩
            have HB4 : Hid (Below w.heap.size w w2) := HBV.out.trans (hb2.mono HBV.out.size)
            clear hb2
            go_wp2_with fail
            go_ret
            exact ⟨ret_strOf (by rw [HV.out]; simp [ByteArray.data_append, HXF.out]), HB4.out⟩
end Go.Proofs.YtkomkhiinfdfmaaGreatDoor
