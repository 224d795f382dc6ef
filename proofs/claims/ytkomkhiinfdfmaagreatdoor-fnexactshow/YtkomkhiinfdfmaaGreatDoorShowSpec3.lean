/-
  The specification's Show, by contract: a module.
-/
import Derived.Test.YtkomkhiinfdfmaaGreatDoorShowSpec2
import Derived.Test.YtkomkhiinfdfmaaGreatDoorShowMath2
import Derived.Test.YtkomkhiinfdfmaaGreatDoorModOkSpecE
namespace Go.Proofs.YtkomkhiinfdfmaaGreatDoor
open Go.ChangeShapes Go.WideShapes Go.ChangeAt Go.RowKit
set_option linter.unusedVariables false

/-- What Show tells. -/
def showT (d : Nat) (m : Md) : List UInt8 := if mdOk d m then mdTxt d m else []

set_option maxHeartbeats 16000000 in
set_option maxRecDepth 100000 in
/-- THE SPECIFICATION's Show. -/
theorem specShow_any (d : Nat) (w : World) (cs : List Value) (m : Md) (h : HMd w All d cs m) (hwt : wtMd d m ≤ 1048576) :
    Calls Tryz.prog 6 #[.agg cs.toArray] w fun e w' => e = .returned (.string (strOf (showT d m))) ∧ Below w.heap.size w w' := by
  have HMM : ∀ w', Below w.heap.size w w' → HMd w' All d cs m := fun w' hw => h.mono (SameOn.of_below hw) (fun _ h => h)
  obtain ⟨ev, fv, rfl, hs, f0, f1⟩ := h
  have BL : Hid (∀ (cs : Array Value) (t : TypeId), Below w.heap.size w (w.alloc (.cells cs t))) := fun cs t => (Below.refl _ _).alloc (Nat.le_refl _) _
  cases hok : mdOk d m with
  | false =>
    have HV : Hid (showT d m = []) := by show _ = _; simp [showT, hok]
    obtain ⟨pe, ce, rfl, -, -, -⟩ := f0
    obtain ⟨pf, cf, rfl, -, -, -⟩ := f1
    obtain ⟨ms, es, fs⟩ := m
    simp only at *
    go_enter Tryz.func6, Tryz.ntmps6
    go_wp2_with fail
    refine (specModuleOk_any d _ _ ⟨ms, es, fs⟩ (HMM _ (BL.out _ _))).mono ?_
    rintro e w1 ⟨rfl, hb⟩
    rw [hok]
    have HB : Hid (Below w.heap.size w w1) := (BL.out _ _).trans (hb.mono (BL.out _ _).size)
    clear hb
    go_wp2_with fail
    go_ret
    exact ⟨by rw [HV.out]; rfl, HB.out⟩
  | true =>
  have HV : Hid (showT d m = mdTxt d m) := by show _ = _; simp [showT, hok]
  have hfs := fnShp_of hok
  have hIf : ∀ f ∈ m.funs, ∀ c ∈ f.clauses, (∀ y ∈ c.1, exI d y) ∧ ∀ y ∈ c.2, exI d y := fun f hf => by obtain ⟨_, hv⟩ := rows_mem f1 f hf; exact hv.ints
  have hIr : ∀ r ∈ m.exports, okI r.arity := fun r hr => by obtain ⟨_, hv⟩ := rows_mem f0 r hr; exact hv.2.2
  obtain ⟨ms, es, fs⟩ := m
  have hwm : wtMd d ⟨ms, es, fs⟩ = ms.size + wtS wtRf es + wtS (wtFn d) fs := rfl
  rw [hwm] at hwt
  simp only at *
  have wms : ms.size ≤ 1048576 := by omega
  have wes : wtS wtRf es ≤ 1048576 := by omega
  have wfs : wtS (wtFn d) fs ≤ 1048576 := by omega
  obtain ⟨pe, ce, rfl, hce, hcme, hxe⟩ := f0
  obtain ⟨pf, cf, rfl, hcf, hcmf, hxf⟩ := f1
  have hne : es.length ≤ 9223372036854775807 := by unfold maxLen at hcme; omega
  have hnf : fs.length ≤ 9223372036854775807 := by unfold maxLen at hcmf; omega
  have LE : Hid (∀ k, (joinT [44, 32] ((es.take k).map refT)).length ≤ 52428800) := fun k => by
    have h1 := joinT_wt refT wtRf 22 50 [44, 32] (by decide) (es.take k) (fun r hr => refT_len (hIr r (List.mem_of_mem_take hr)))
    have h2 := wtS_take wtRf es k
    omega
  have LF : Hid (∀ k, (((fs.take k).map fun f => funT d f ++ [10]).flatten).length ≤ 52428800) := fun k => by
    have h1 := flat_len (fun f => funT d f ++ [10]) (wtFn d) 50 (fs.take k) (fun f hf => by
      have hm := List.mem_of_mem_take hf
      have := funT_len (hfs f hm) (hIf f hm)
      have hw : wtFn d f = f.name.size + wtS (wtCl (wtEx d)) f.clauses := rfl
      rw [hw]
      simp only [List.length_append, List.length_cons, List.length_nil]
      omega)
    have h2 := wtS_take (wtFn d) fs k
    omega
  have HFS : Hid (∀ f ∈ fs, fnShp d f) := hfs
  have HIF : Hid (∀ f ∈ fs, ∀ c ∈ f.clauses, (∀ y ∈ c.1, exI d y) ∧ ∀ y ∈ c.2, exI d y) := hIf
  have HIR : Hid (∀ r ∈ es, okI r.arity) := hIr
  have HRN : Hid (∀ r ∈ es, wtRf r ≤ 1048576) := fun r hr => by
    obtain ⟨i, hi⟩ := List.mem_iff_getElem?.1 hr
    exact Nat.le_trans (wtS_at wtRf es i r hi) wes
  have HWF : Hid (∀ k (f : Fn'), fs[k]? = some f → wtS (wtCl (wtEx d)) f.clauses ≤ 1048576) := fun k f hk => by
    have h1 := wtS_at (wtFn d) fs k f hk
    have hw : wtFn d f = f.name.size + wtS (wtCl (wtEx d)) f.clauses := rfl
    omega
  generalize hn : es.length = ne at *
  generalize hn2 : fs.length = nf at *
  have HN : Hid (es.length = ne) := hn
  have HN2 : Hid (fs.length = nf) := hn2
  have HE : Hid (es ≠ [] → ∃ g off, pe = some ⟨g, off, none⟩ ∧ All g ∧ g < w.heap.size ∧ ∀ i x, es[i]? = some x → ∃ cs, cs.length = 2 ∧ (∀ j, j < 2 → w.cell? ⟨g, off + i * 2 + j, none⟩ = cs[j]?) ∧ HRf cs x) := hxe
  have HF0 : Hid (fs ≠ [] → ∃ g off, pf = some ⟨g, off, none⟩ ∧ All g ∧ g < w.heap.size ∧ ∀ i x, fs[i]? = some x → ∃ cs, cs.length = 3 ∧ (∀ j, j < 3 → w.cell? ⟨g, off + i * 3 + j, none⟩ = cs[j]?) ∧ HFn w All d cs x) := hxf
  have HMX : Hid (∀ w', Below w.heap.size w w' → HMd w' All d [.string ms, .slice pe ne ce, .slice pf nf cf] ⟨ms, es, fs⟩) := HMM
  clear hxe hxf hn hn2 hfs hIf hIr hwm hwt HMM wes wfs
  go_enter Tryz.func6, Tryz.ntmps6
  go_wp2_with fail
  refine (specModuleOk_any d _ _ ⟨ms, es, fs⟩ (HMX.out _ (BL.out _ _))).mono ?_
  rintro e W1 ⟨rfl, hb⟩
  rw [hok]
  have B1 : Hid (Below w.heap.size w W1) := (BL.out _ _).trans (hb.mono (BL.out _ _).size)
  have bA : Hid (Blk W1 w.heap.size #[.string ms, .slice pe ne ce, .slice pf nf cf] 31) := (Blk.new (w := w)).next hb
  have xm0 := bA.out.cell 0 _ rfl
  clear hb hok HMX
  go_wp2_with fail
  clear xm0
  go_loopw [3, 4] (fun ov iv wr => ∃ (k : Nat) (o : ByteArray), k ≤ ne ∧ iv = .int .i64 k ∧ ov = .string o ∧ Hid (o.data.toList = [45, 109, 111, 100, 117, 108, 101, 40] ++ ms.data.toList ++ [41, 46, 10, 45, 101, 120, 112, 111, 114, 116, 40, 91] ++ joinT [44, 32] ((es.take k).map refT)) ∧ Hid (SameOn All W1 wr) ∧ Below w.heap.size w wr) (fun _ iv _ => ne - (intOf iv).toNat)
  case atStart => exact ⟨0, _, Nat.zero_le _, rfl, rfl, by show _ = _; simp [joinT, ByteArray.data_append], ⟨Nat.le_refl _, fun _ _ _ => rfl⟩, B1.out⟩
  case round =>
    obtain ⟨k, o, hk, rfl, rfl, ho, hso, hb⟩ := hrel
    have hos : o.size ≤ 60000000 := by
      rw [← bsize, ho.out]
      have := LE.out k
      simp only [List.length_append, List.length_cons, List.length_nil, bsize]
      omega
    have HB : Hid (Below w.heap.size w wr) := hb
    have b1 := bA.out.same_on hso.out
    have hlw := b1.lt
    have xa1 := b1.cell 1 _ rfl
    have xa2 := b1.cell 2 _ rfl
    clear b1
    by_cases hlt : k < ne
    · obtain ⟨r, hrk⟩ : ∃ r, es[k]? = some r := ⟨es[k]'(by rw [HN.out]; exact hlt), List.getElem?_eq_getElem _⟩
      obtain ⟨g, off, rfl, -, hgl, hat⟩ := HE.out (by intro h; rw [h] at hrk; simp at hrk)
      obtain ⟨cs, hcsl, hcs, r1⟩ := hat k r hrk
      obtain ⟨rfl, -, hra⟩ := r1
      have hrn := HRN.out r (List.mem_of_getElem? hrk)
      have HJ0 : Hid (k = 0 → joinT [44, 32] ((es.take (k + 1)).map refT) = refT r) := fun hz => joinT_first _ es _ k hz r hrk
      have HJ1 : Hid (¬ k = 0 → joinT [44, 32] ((es.take (k + 1)).map refT) = joinT [44, 32] ((es.take k).map refT) ++ ([44, 32] ++ refT r)) := fun hz => joinT_at _ es _ k r hrk hz
      obtain ⟨rs, ra⟩ := r
      simp only [wtRf] at *
      have hrt : refT ⟨rs, ra⟩ = rs.data.toList ++ [47] ++ Lib.itoa ra := rfl
      rw [hrt] at HJ0 HJ1
      obtain ⟨i0, i1⟩ := okI_bd hra
      have lit : (Lib.itoa ra).length ≤ 21 := itoa_len ra i0 i1
      have a0 := hcs 0 (by omega)
      have a1 := hcs 1 (by omega)
      rw [← hb.cell (p := ⟨g, _, none⟩) hgl] at a0 a1
      simp at a0 a1
      have hki : (k : Int) < (ne : Int) := by omega
      have hk0 : (0 : Int) ≤ (k : Int) := by omega
      have hgw : g < wr.heap.size := Nat.lt_of_lt_of_le hgl hb.size
      have qa0 : ∀ m : Wd (fun w' => SameOn All wr w' ∧ Below w.heap.size w w'), m.val.cell? ⟨g, off + k * 2, none⟩ = some (.string rs) := fun m => (World.cell?_of_block (m.ok.1.2 g trivial hgw)).trans a0
      have qa1 : ∀ m : Wd (fun w' => SameOn All wr w' ∧ Below w.heap.size w w'), m.val.cell? ⟨g, off + k * 2 + 1, none⟩ = some (.int .i64 ra) := fun m => (World.cell?_of_block (m.ok.1.2 g trivial hgw)).trans a1
      have qx1 : ∀ m : Wd (fun w' => SameOn All wr w' ∧ Below w.heap.size w w'), m.val.cell? ⟨w.heap.size, 1, none⟩ = some (.slice (some ⟨g, off, none⟩) ne ce) := fun m => (World.cell?_of_block (m.ok.1.2 w.heap.size trivial hlw)).trans xa1
      clear hb hcs hat hcsl hrt hra
      by_cases hz : k = 0
      · have HJ : Hid (joinT [44, 32] ((es.take (k + 1)).map refT) = rs.data.toList ++ [47] ++ Lib.itoa ra) := HJ0.out hz
        have HO : Hid (joinT [44, 32] ((es.take k).map refT) = []) := by show _ = _; rw [hz]; rfl
        have hz1 : ¬ (0 : Int) < (k : Int) := by omega
        clear HJ0 HJ1 hz
        go_wp2
        have hCne : Nonempty (Wd (fun w' => SameOn All wr w' ∧ Below w.heap.size w w')) := ⟨⟨wr.drew, ⟨⟨Nat.le_refl _, fun _ _ _ => rfl⟩, HB.out.drew⟩⟩⟩
        refine wp_region_class (fun w' => SameOn All wr w' ∧ Below w.heap.size w w') (by kernel_rfl) (by kernel_rfl) ⟨⟨Nat.le_refl _, fun _ _ _ => rfl⟩, HB.out.drew⟩ ?_
        repeat (go_big_quiet_step (first | (rename_i m; go_at_call 24; refine (specDecText_any _ _ i0 i1).mono ?_; rintro e w1 ⟨rfl, rfl⟩; exact ⟨rfl, ⟨m, rfl⟩⟩)))
        refine wpQuiet_nil ?_
        rintro _ ⟨mq, rfl⟩
        have HB4 : Hid (Below w.heap.size w mq.val) := mq.ok.2
        have HS4 : Hid (SameOn All W1 mq.val) := hso.out.trans mq.ok.1
        generalize mq.val = w4 at HB4 HS4 ⊢
        go_wp2_with fail
        refine ⟨⟨k + 1, o ++ rs ++ ⟨#[47]⟩ ++ ⟨(Lib.itoa ra).toArray⟩, by omega, by go_num, rfl, ?_, HS4.out, HB4.out⟩, by simp [intOf]; omega⟩
        show _ = _
        rw [HJ.out]
        simp only [ByteArray.data_append, Array.toList_append, ho.out, HO.out, List.append_nil, List.append_assoc]
      · have HJ : Hid (joinT [44, 32] ((es.take (k + 1)).map refT) = joinT [44, 32] ((es.take k).map refT) ++ ([44, 32] ++ (rs.data.toList ++ [47] ++ Lib.itoa ra))) := HJ1.out hz
        have hz1 : (0 : Int) < (k : Int) := by omega
        clear HJ0 HJ1 hz
        go_wp2
        have hCne : Nonempty (Wd (fun w' => SameOn All wr w' ∧ Below w.heap.size w w')) := ⟨⟨wr.drew, ⟨⟨Nat.le_refl _, fun _ _ _ => rfl⟩, HB.out.drew⟩⟩⟩
        refine wp_region_class (fun w' => SameOn All wr w' ∧ Below w.heap.size w w') (by kernel_rfl) (by kernel_rfl) ⟨⟨Nat.le_refl _, fun _ _ _ => rfl⟩, HB.out.drew⟩ ?_
        repeat (go_big_quiet_step (first | (rename_i m; go_at_call 24; refine (specDecText_any _ _ i0 i1).mono ?_; rintro e w1 ⟨rfl, rfl⟩; exact ⟨rfl, ⟨m, rfl⟩⟩)))
        refine wpQuiet_nil ?_
        rintro _ ⟨mq, rfl⟩
        have HB4 : Hid (Below w.heap.size w mq.val) := mq.ok.2
        have HS4 : Hid (SameOn All W1 mq.val) := hso.out.trans mq.ok.1
        generalize mq.val = w4 at HB4 HS4 ⊢
        go_wp2_with fail
        refine ⟨⟨k + 1, o ++ ⟨#[44, 32]⟩ ++ rs ++ ⟨#[47]⟩ ++ ⟨(Lib.itoa ra).toArray⟩, by omega, by go_num, rfl, ?_, HS4.out, HB4.out⟩, by simp [intOf]; omega⟩
        show _ = _
        rw [HJ.out]
        simp only [ByteArray.data_append, Array.toList_append, ho.out, List.append_assoc]
    · have HH : Hid (o.data.toList ++ [93, 41, 46, 10] = mdHead ⟨ms, es, fs⟩) := by
        have := ho.out
        rw [List.take_of_length_le (by rw [HN.out]; omega)] at this
        show _ = _
        rw [this]; simp [mdHead, modT1, modT2]
      have LH : (mdHead ⟨ms, es, fs⟩).length ≤ 60000100 := by
        rw [← HH.out]; simp only [List.length_append, List.length_cons, List.length_nil, bsize]; omega
      clear hb
      go_wp2_with fail
      clear xa1 xa2
      go_loopw [3, 5] (fun ov iv wr => ∃ (k : Nat) (o : ByteArray), k ≤ nf ∧ iv = .int .i64 k ∧ ov = .string o ∧ Hid (o.data.toList = mdHead ⟨ms, es, fs⟩ ++ ((fs.take k).map fun f => funT d f ++ [10]).flatten) ∧ Hid (SameOn All W1 wr) ∧ Below w.heap.size w wr) (fun _ iv _ => nf - (intOf iv).toNat)
      case atStart => exact ⟨0, _, Nat.zero_le _, rfl, rfl, by show _ = _; rw [← HH.out]; simp [ByteArray.data_append], hso.out, HB.out⟩
      case round =>
        clear HB hso hos ho hlw HH
        obtain ⟨k, o, hk, rfl, rfl, ho, hso, hb⟩ := hrel
        have hos : o.size ≤ 120000000 := by
          rw [← bsize, ho.out]
          have := LF.out k
          simp only [List.length_append]
          omega
        have HB : Hid (Below w.heap.size w wr) := hb
        have b1 := bA.out.same_on hso.out
        have hlw := b1.lt
        have xa2 := b1.cell 2 _ rfl
        clear b1
        by_cases hlt : k < nf
        · obtain ⟨x, hxk⟩ : ∃ x, fs[k]? = some x := ⟨fs[k]'(by rw [HN2.out]; exact hlt), List.getElem?_eq_getElem _⟩
          obtain ⟨g, off, rfl, -, hgl, hat⟩ := HF0.out (by intro h; rw [h] at hxk; simp at hxk)
          obtain ⟨cs, hcsl, hcs, r1⟩ := hat k x hxk
          have hsx := HFS.out x (List.mem_of_getElem? hxk)
          have hix := HIF.out x (List.mem_of_getElem? hxk)
          have wcx := HWF.out k x hxk
          have HJ : Hid (((fs.take (k + 1)).map fun f => funT d f ++ [10]).flatten = ((fs.take k).map fun f => funT d f ++ [10]).flatten ++ (funT d x ++ [10])) := by
            show _ = _
            rw [List.take_add_one, hxk]; simp
          have HPL : Hid (∀ j, (partT d x j).length ≤ 52428802) := fun j => by have := partT_len hsx hix j; omega
          have HP0 : Hid (partT d x 0 = []) := by
            have h1 := hsx.2.1
            show _ = _
            unfold partT; rw [if_pos (by omega)]; simp
          have HPE : Hid (partT d x x.clauses.length = funT d x ++ [10]) := by show _ = _; unfold partT; rw [if_neg (by omega)]
          have HPM : Hid (∀ j (c : Cl), x.clauses[j]? = some c → j + 1 < x.clauses.length → partT d x (j + 1) = partT d x j ++ (lineT d x.name c ++ [59, 10])) := fun j c hc hj => partT_more hc hj
          have HPZ : Hid (∀ j (c : Cl), x.clauses[j]? = some c → ¬ j + 1 < x.clauses.length → partT d x (j + 1) = partT d x j ++ (lineT d x.name c ++ [46, 10])) := fun j c hc hj => partT_last hc hj
          have SHX : Hid (∀ j (c : Cl), x.clauses[j]? = some c → c.1.all (shp d) = true ∧ c.2.all (shp d) = true ∧ wtS (wtEx d) c.1 ≤ 1048576 ∧ wtS (wtEx d) c.2 ≤ 1048576) := fun j c hc => by
            have h1 := hsx.2.2 c (List.mem_of_getElem? hc)
            have h2 := wtS_at (wtCl (wtEx d)) x.clauses j c hc
            have h3 : wtCl (wtEx d) c = wtS (wtEx d) c.1 + wtS (wtEx d) c.2 := rfl
            exact ⟨h1.1, h1.2, by omega, by omega⟩
          have hxn := hsx.1
          obtain ⟨cv, rfl, hxs, -, hcr⟩ := r1
          generalize hfx : funT d x ++ [10] = FX at *
          generalize hpx : partT d x = PX at *
          obtain ⟨xs, xn, xc⟩ := x
          simp only at *
          obtain ⟨pc, cc, rfl, hcc, hcmc, hxc⟩ := hcr
          have hncb : xc.length ≤ 9223372036854775807 := by unfold maxLen at hcmc; omega
          generalize hn3 : xc.length = nc at *
          have HN3 : Hid (xc.length = nc) := hn3
          have HC0 : Hid (xc ≠ [] → ∃ g off, pc = some ⟨g, off, none⟩ ∧ All g ∧ g < w.heap.size ∧ ∀ i x, xc[i]? = some x → ∃ cs, cs.length = 2 ∧ (∀ j, j < 2 → w.cell? ⟨g, off + i * 2 + j, none⟩ = cs[j]?) ∧ HCl w All (HEx w All d) cs x) := hxc
          have a0 := hcs 0 (by omega)
          have a1 := hcs 1 (by omega)
          have a2 := hcs 2 (by omega)
          rw [← hb.cell (p := ⟨g, _, none⟩) hgl] at a0 a1 a2
          simp at a0 a1 a2
          have hki : (k : Int) < (nf : Int) := by omega
          have hk0 : (0 : Int) ≤ (k : Int) := by omega
          obtain ⟨W5, hW5⟩ : ∃ W5, W5 = wr.alloc (.cells #[.string xs, .int .i64 xn, .slice pc nc cc] 57) := ⟨_, rfl⟩
          have bF : Hid (Blk W5 wr.heap.size #[.string xs, .int .i64 xn, .slice pc nc cc] 57) := by show Blk _ _ _ _; rw [hW5]; exact Blk.new
          have K5 : Hid (Below wr.heap.size wr W5) := by show Below _ _ _; rw [hW5]; exact (Below.refl _ _).alloc (Nat.le_refl _) _
          have B5 : Hid (Below w.heap.size w W5) := hb.trans (K5.out.mono hb.size)
          have S5 : Hid (SameOn All W1 W5) := hso.out.trans (SameOn.of_below K5.out)
          have HW5 : Hid (W5 = wr.alloc (.cells #[.string xs, .int .i64 xn, .slice pc nc cc] 57)) := hW5
          clear hb hcs hat hcsl hW5 hxc hn3 hsx hix wcx hfx hpx
          go_wp2_with fail
          rw [← HW5.out]
          clear xa2 a0 a1 a2
          obtain ⟨A6, hA6⟩ : ∃ A6, A6 = wr.heap.size := ⟨_, rfl⟩
          rw [← hA6] at bF ⊢
          clear hA6 HW5 K5 HB hso hlw
          have HO0 : Hid (o.data.toList = mdHead ⟨ms, es, fs⟩ ++ ((fs.take k).map fun f => funT d f ++ [10]).flatten) := ho
          have hos0 := hos
          clear ho
          go_loopw [3, 7] (fun ov iv wr => ∃ (j : Nat) (o' : ByteArray), j ≤ nc ∧ iv = .int .i64 j ∧ ov = .string o' ∧ Hid (o'.data.toList = o.data.toList ++ PX j) ∧ Hid (SameOn All W5 wr) ∧ Below w.heap.size w wr) (fun _ iv _ => nc - (intOf iv).toNat)
          case atStart => exact ⟨0, o, Nat.zero_le _, rfl, rfl, by show _ = _; rw [HP0.out, List.append_nil], ⟨Nat.le_refl _, fun _ _ _ => rfl⟩, B5.out⟩
          case round =>
            clear hos
            obtain ⟨j, o', hj, rfl, rfl, ho, hso, hb⟩ := hrel
            have hos : o'.size ≤ 180000000 := by
              rw [← bsize, ho.out]
              have := HPL.out j
              simp only [List.length_append, bsize]
              omega
            have HB : Hid (Below w.heap.size w wr) := hb
            have b1 := bF.out.same_on hso.out
            have hlw := b1.lt
            have xa0 := b1.cell 0 _ rfl
            have xa2 := b1.cell 2 _ rfl
            clear b1
            by_cases hlt2 : j < nc
            · obtain ⟨c, hck⟩ : ∃ c, xc[j]? = some c := ⟨xc[j]'(by rw [HN3.out]; exact hlt2), List.getElem?_eq_getElem _⟩
              obtain ⟨g2, off2, rfl, -, hgl2, hat2⟩ := HC0.out (by intro h; rw [h] at hck; simp at hck)
              obtain ⟨cs2, hcsl2, hcs2, r2⟩ := hat2 j c hck
              obtain ⟨sp, sb, wp, wb⟩ := SHX.out j c hck
              have hm1 := HPM.out j c hck
              have hm2 := HPZ.out j c hck
              have HM1 : Hid (j + 1 < nc → PX (j + 1) = PX j ++ (lineT d xs c ++ [59, 10])) := hm1
              have HM2 : Hid (¬ j + 1 < nc → PX (j + 1) = PX j ++ (lineT d xs c ++ [46, 10])) := hm2
              obtain ⟨pv, bv, rfl, g0, g1⟩ := r2
              obtain ⟨ps, bs⟩ := c
              simp only at *
              have hlt3 : lineT d xs (ps, bs) = xs.data.toList ++ [40] ++ joinT [44, 32] (ps.map fun y => exTxt d y false) ++ [41, 32, 45, 62, 32] ++ joinT [44, 32] (bs.map fun y => exTxt d y true) := rfl
              rw [hlt3] at HM1 HM2
              have EP : ∀ w', SameOn All wr w' → Rows w' All 6 (HEx w' All d) pv ps := fun w' hw => g0.mono (SameOn.trans (SameOn.of_below hb) hw) (fun _ h => h) (fun _ _ _ h => h.mono (SameOn.trans (SameOn.of_below hb) hw) (fun _ h => h))
              have EB : ∀ w', SameOn All wr w' → Rows w' All 6 (HEx w' All d) bv bs := fun w' hw => g1.mono (SameOn.trans (SameOn.of_below hb) hw) (fun _ h => h) (fun _ _ _ h => h.mono (SameOn.trans (SameOn.of_below hb) hw) (fun _ h => h))
              have lp : (strOf (joinT [44, 32] (ps.map fun y => exTxt d y false))).size ≤ 52428800 := by
                rw [strOf_size]; exact exs_bd (fun v hv => by obtain ⟨_, hv⟩ := rows_mem g0 v hv; exact hv.ints) sp wp false
              have lb : (strOf (joinT [44, 32] (bs.map fun y => exTxt d y true))).size ≤ 52428800 := by
                rw [strOf_size]; exact exs_bd (fun v hv => by obtain ⟨_, hv⟩ := rows_mem g1 v hv; exact hv.ints) sb wb true
              have a0 := hcs2 0 (by omega)
              have a1 := hcs2 1 (by omega)
              rw [← hb.cell (p := ⟨g2, _, none⟩) hgl2] at a0 a1
              simp at a0 a1
              have hji : (j : Int) < (nc : Int) := by omega
              have hj0 : (0 : Int) ≤ (j : Int) := by omega
              have hgw2 : g2 < wr.heap.size := Nat.lt_of_lt_of_le hgl2 hb.size
              have qx0 : ∀ m : Wd (fun w' => SameOn All wr w' ∧ Below w.heap.size w w'), m.val.cell? ⟨A6, 0, none⟩ = some (.string xs) := fun m => (World.cell?_of_block (m.ok.1.2 A6 trivial hlw)).trans xa0
              have qx2 : ∀ m : Wd (fun w' => SameOn All wr w' ∧ Below w.heap.size w w'), m.val.cell? ⟨A6, 2, none⟩ = some (.slice (some ⟨g2, off2, none⟩) nc cc) := fun m => (World.cell?_of_block (m.ok.1.2 A6 trivial hlw)).trans xa2
              have qa0 : ∀ m : Wd (fun w' => SameOn All wr w' ∧ Below w.heap.size w w'), m.val.cell? ⟨g2, off2 + j * 2, none⟩ = some pv := fun m => (World.cell?_of_block (m.ok.1.2 g2 trivial hgw2)).trans a0
              have qa1 : ∀ m : Wd (fun w' => SameOn All wr w' ∧ Below w.heap.size w w'), m.val.cell? ⟨g2, off2 + j * 2 + 1, none⟩ = some bv := fun m => (World.cell?_of_block (m.ok.1.2 g2 trivial hgw2)).trans a1
              clear hb hcs2 hat2 hcsl2 g0 g1 hlt3 hm1 hm2
              go_wp2
              have hCne : Nonempty (Wd (fun w' => SameOn All wr w' ∧ Below w.heap.size w w')) := ⟨⟨wr.drew, ⟨⟨Nat.le_refl _, fun _ _ _ => rfl⟩, HB.out.drew⟩⟩⟩
              refine wp_region_class (fun w' => SameOn All wr w' ∧ Below w.heap.size w w') (by kernel_rfl) (by kernel_rfl) ⟨⟨Nat.le_refl _, fun _ _ _ => rfl⟩, HB.out.drew⟩ ?_
              repeat (go_big_quiet_step (first | (rename_i m; go_at_call_of 33 pv; refine (shows_allS d _ _ ps false (EP _ m.ok.1) sp wp).mono ?_; rintro e w1 ⟨rfl, hb1⟩; exact ⟨rfl, ⟨⟨w1, ⟨(SameOn.trans m.ok.1 (SameOn.of_below hb1)), m.ok.2.trans (hb1.mono m.ok.2.size)⟩⟩, rfl⟩⟩) | (rename_i m; go_at_call_of 33 bv; refine (shows_allS d _ _ bs true (EB _ m.ok.1) sb wb).mono ?_; rintro e w1 ⟨rfl, hb1⟩; exact ⟨rfl, ⟨⟨w1, ⟨(SameOn.trans m.ok.1 (SameOn.of_below hb1)), m.ok.2.trans (hb1.mono m.ok.2.size)⟩⟩, rfl⟩⟩)))
              refine wpQuiet_nil ?_
              rintro _ ⟨mq, rfl⟩
              have HB4 : Hid (Below w.heap.size w mq.val) := mq.ok.2
              have HS4 : Hid (SameOn All W5 mq.val) := hso.out.trans mq.ok.1
              have HSR : Hid (SameOn All wr mq.val) := mq.ok.1
              generalize mq.val = w4 at HB4 HS4 HSR ⊢
              have y2 : w4.cell? ⟨A6, 2, none⟩ = some (.slice (some ⟨g2, off2, none⟩) nc cc) := (World.cell?_of_block (HSR.out.2 A6 trivial hlw)).trans xa2
              by_cases hjn : j + 1 < nc
              · have HJJ := HM1.out hjn
                have HJ2 : Hid _ := HJJ
                have hjn2 : (j : Int) + 1 < (nc : Int) := by omega
                clear HM1 HM2 HJJ
                go_wp2_with fail
                refine ⟨⟨j + 1, o' ++ xs ++ ⟨#[40]⟩ ++ strOf (joinT [44, 32] (ps.map fun y => exTxt d y false)) ++ ⟨#[41, 32, 45, 62, 32]⟩ ++ strOf (joinT [44, 32] (bs.map fun y => exTxt d y true)) ++ ⟨#[59, 10]⟩, by omega, by go_num, rfl, ?_, HS4.out, HB4.out⟩, by simp [intOf]; omega⟩
                show _ = _
                rw [HJ2.out]
                simp only [ByteArray.data_append, Array.toList_append, ho.out, strOf_data, List.append_assoc]
              · have HJJ := HM2.out hjn
                have HJ2 : Hid _ := HJJ
                have hjn2 : ¬ (j : Int) + 1 < (nc : Int) := by omega
                clear HM1 HM2 HJJ
                go_wp2_with fail
                refine ⟨⟨j + 1, o' ++ xs ++ ⟨#[40]⟩ ++ strOf (joinT [44, 32] (ps.map fun y => exTxt d y false)) ++ ⟨#[41, 32, 45, 62, 32]⟩ ++ strOf (joinT [44, 32] (bs.map fun y => exTxt d y true)) ++ ⟨#[46, 10]⟩, by omega, by go_num, rfl, ?_, HS4.out, HB4.out⟩, by simp [intOf]; omega⟩
                show _ = _
                rw [HJ2.out]
                simp only [ByteArray.data_append, Array.toList_append, ho.out, strOf_data, List.append_assoc]
            · have HZ : Hid (o'.data.toList = mdHead ⟨ms, es, fs⟩ ++ ((fs.take (k + 1)).map fun f => funT d f ++ [10]).flatten) := by
                show _ = _
                have hjn : j = nc := by omega
                rw [ho.out, HJ.out, HO0.out, hjn, HPE.out, List.append_assoc]
              have HS9 : Hid (SameOn All W1 wr) := S5.out.trans hso.out
              clear hb
              go_wp2_with fail
              exact ⟨⟨k + 1, o', by omega, by go_num, rfl, HZ.out, HS9.out, HB.out⟩, by simp [intOf]; omega⟩
        · have HD : Hid (o.data.toList = showT d ⟨ms, es, fs⟩) := by
            have := ho.out
            rw [List.take_of_length_le (by rw [HN2.out]; omega)] at this
            show _ = _
            rw [HV.out, this]; rfl
          clear hb
          go_wp2_with fail
          go_ret
          exact ⟨ret_strOf HD.out, HB.out⟩
end Go.Proofs.YtkomkhiinfdfmaaGreatDoor
