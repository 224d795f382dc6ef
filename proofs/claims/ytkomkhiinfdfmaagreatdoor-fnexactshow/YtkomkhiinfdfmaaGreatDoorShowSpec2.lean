/-
  The specification's Show, by contract: an expression.
-/
import Derived.Test.YtkomkhiinfdfmaaGreatDoorShowSpec
namespace Go.Proofs.YtkomkhiinfdfmaaGreatDoor
open Go.ChangeShapes Go.WideShapes Go.ChangeAt Go.RowKit
set_option linter.unusedVariables false

theorem case_len {d : Nat} {ks : List Ex} {cl : List Cl} (hk1 : ks.length = 1) (hI : ∀ y ∈ ks, exI d y) (hIc : ∀ c ∈ cl, (∀ y ∈ c.1, exI d y) ∧ ∀ y ∈ c.2, exI d y) (s2 : ks.all (shp d) = true) (s3 : cl.all (fun c => decide (c.1.length = 1) && (c.1.all (shp d) && c.2.all (shp d))) = true) (hwt : wtS (wtEx d) ks + wtS (wtCl (wtEx d)) cl ≤ 1048576) :
    ([99, 97, 115, 101, 32] ++ kidT (exTxt d) ks 0 ++ [32, 111, 102, 32] ++ joinT [59, 32] (cl.map (clTxt (exTxt d))) ++ [32, 101, 110, 100]).length ≤ 1000000000 := by
  have q0 := kidT_len (exTxt d) (wtEx d) ks 0 (fun y hy => exTxt_len d y false (hI y hy) (List.all_eq_true.1 s2 y hy))
  have h1 := one_wt (wtEx d) ks hk1
  have j2 := joinT_wt (clTxt (exTxt d)) (wtCl (wtEx d)) 40 50 [59, 32] (by decide) cl (fun c hcc => by
    have := List.all_eq_true.1 s3 c hcc
    simp only [Bool.and_eq_true, decide_eq_true_eq] at this
    exact clTxt_len _ _ c this.1 (fun y hy b => exTxt_len d y b ((hIc c hcc).1 y hy) (List.all_eq_true.1 this.2.1 y hy)) (fun y hy b => exTxt_len d y b ((hIc c hcc).2 y hy) (List.all_eq_true.1 this.2.2 y hy)))
  simp only [List.length_append, List.length_cons, List.length_nil]
  omega

set_option maxHeartbeats 16000000 in
set_option maxRecDepth 100000 in
theorem showS_of {d : Nat} (hE : SwC d) (hS : SsC d) : SwC (d + 1) := by
  intro w cs x top h hsh hwt
  obtain ⟨kv, cv, rfl, -, hni, hts, hms, f0, f1⟩ := h
  obtain ⟨kx, nx, tx, mx, ks, cl⟩ := x
  simp only [Ex.kind, Ex.n, Ex.text, Ex.mod, Ex.kids, Ex.clauses] at *
  unfold shp at hsh
  simp only [Bool.and_eq_true] at hsh
  obtain ⟨s1, s2, s3⟩ := hsh
  have hw : wtEx (d + 1) (.mk kx nx tx mx ks cl) = tx.size + mx.size + wtS (wtEx d) ks + wtS (wtCl (wtEx d)) cl := rfl
  rw [hw] at hwt
  clear hw
  have wks : wtS (wtEx d) ks ≤ 1048576 := by omega
  have wkc : wtS (wtEx d) ks + wtS (wtCl (wtEx d)) cl ≤ 1048576 := by omega
  have wtx : tx.size ≤ 1048576 := by omega
  have wmx : mx.size ≤ 1048576 := by omega
  have hI : ∀ y ∈ ks, exI d y := fun y hy => by obtain ⟨_, hv⟩ := rows_mem f0 y hy; exact hv.ints
  have hIc : ∀ c ∈ cl, (∀ y ∈ c.1, exI d y) ∧ ∀ y ∈ c.2, exI d y := fun c hc => by
    obtain ⟨_, pp, bb, _, g0, g1⟩ := rows_mem f1 c hc
    exact ⟨fun y hy => by obtain ⟨_, hv⟩ := rows_mem g0 y hy; exact hv.ints, fun y hy => by obtain ⟨_, hv⟩ := rows_mem g1 y hy; exact hv.ints⟩
  have HI : Hid (∀ y ∈ ks, exI d y) := hI
  have HIC : Hid (∀ c ∈ cl, (∀ y ∈ c.1, exI d y) ∧ ∀ y ∈ c.2, exI d y) := hIc
  have lks : (strOf (joinT [44, 32] (ks.map fun y => exTxt d y false))).size ≤ 52428800 := by rw [strOf_size]; exact exs_bd hI s2 wks false
  have F0 : ∀ w', Below w.heap.size w w' → Rows w' All 6 (HEx w' All d) kv ks := fun w' hw => f0.mono (SameOn.of_below hw) (fun _ h => h) (fun _ _ _ h => h.mono (SameOn.of_below hw) (fun _ h => h))
  have F1 : ∀ w', Below w.heap.size w w' → Rows w' All 2 (HCl w' All (HEx w' All d)) cv cl := fun w' hw => f1.mono (SameOn.of_below hw) (fun _ h => h) (fun _ _ _ h => h.mono (SameOn.of_below hw) (fun _ h => h) (fun _ _ h => h.mono (SameOn.of_below hw) (fun _ h => h)))
  obtain ⟨p, cap, rfl, hcl, hcm, hx⟩ := f0
  obtain ⟨q, cap', rfl, hcl', hcm', hyy⟩ := f1
  have hnb : ks.length ≤ 9223372036854775807 := by unfold maxLen at hcm; omega
  obtain ⟨i0, i1⟩ := okI_bd hni
  generalize hn : ks.length = n at *
  generalize hm : cl.length = m at *
  have HN : Hid (ks.length = n) := hn
  have HX : Hid (ks ≠ [] → ∃ g off, p = some ⟨g, off, none⟩ ∧ All g ∧ g < w.heap.size ∧ ∀ i x, ks[i]? = some x → ∃ cs, cs.length = 6 ∧ (∀ j, j < 6 → w.cell? ⟨g, off + i * 6 + j, none⟩ = cs[j]?) ∧ HEx w All d cs x) := hx
  have BL : Hid (∀ (cs : Array Value) (t : TypeId), Below w.heap.size w (w.alloc (.cells cs t))) := fun cs t => (Below.refl _ _).alloc (Nat.le_refl _) _
  clear hx hyy hn hm hI hIc hwt
  by_cases k0 : kx = 0
  · subst k0
    have HV : Hid (exTxt (d + 1) (.mk 0 nx tx mx ks cl) top = Lib.itoa nx) := by
      show _ = _
      simp [exTxt, bareT, wrapK]
    go_enter Tryz.func72, Tryz.ntmps72
    go_wp2_with (go_at_call 24; go_must (refine (specDecText_any _ _ i0 i1).mono ?_; rintro e w' ⟨rfl, rfl⟩))
    go_ret
    exact ⟨by rw [HV.out]; rfl, BL.out _ _⟩
  by_cases k3 : kx = 3
  · subst k3
    have HV : Hid (exTxt (d + 1) (.mk 3 nx tx mx ks cl) top = [95]) := by
      show _ = _
      simp [exTxt, bareT, wrapK]
    go_enter Tryz.func72, Tryz.ntmps72
    go_wp2
    go_ret
    exact ⟨by rw [HV.out]; rfl, BL.out _ _⟩
  by_cases k5 : kx = 5
  · subst k5
    have HV : Hid (exTxt (d + 1) (.mk 5 nx tx mx ks cl) top = [91, 93]) := by
      show _ = _
      simp [exTxt, bareT, wrapK]
    go_enter Tryz.func72, Tryz.ntmps72
    go_wp2
    go_ret
    exact ⟨by rw [HV.out]; rfl, BL.out _ _⟩
  by_cases k4 : kx = 4
  · subst k4
    have HV : Hid (exTxt (d + 1) (.mk 4 nx tx mx ks cl) top = [123] ++ joinT [44, 32] (ks.map fun y => exTxt d y false) ++ [125]) := by
      show _ = _
      simp [exTxt, bareT, wrapK]
    go_enter Tryz.func72, Tryz.ntmps72
    go_wp2_with fail
    refine (hS _ _ ks false (F0 _ (BL.out _ _)) s2 wks).mono ?_
    rintro e w1 ⟨rfl, hb⟩
    have HB : Hid (Below w.heap.size w w1) := (BL.out _ _).trans (hb.mono (BL.out _ _).size)
    clear hb
    go_wp2_with fail
    go_ret
    exact ⟨by rw [HV.out]; exact ret_strOf (by simp [ByteArray.data_append, strOf_data]), HB.out⟩
  by_cases k8 : kx = 8
  · subst k8
    by_cases hm0 : mx.toList = []
    · have hm2 : (mx.toList == []) = true := by simpa using hm0
      have HV : Hid (exTxt (d + 1) (.mk 8 nx tx mx ks cl) top = tx.data.toList ++ [40] ++ joinT [44, 32] (ks.map fun y => exTxt d y false) ++ [41]) := by
        show _ = _
        simp [exTxt, bareT, wrapK, headT, hm0]
      clear hm0
      go_enter Tryz.func72, Tryz.ntmps72
      go_wp2_with fail
      refine (hS _ _ ks false (F0 _ (BL.out _ _)) s2 wks).mono ?_
      rintro e w1 ⟨rfl, hb⟩
      have HB : Hid (Below w.heap.size w w1) := (BL.out _ _).trans (hb.mono (BL.out _ _).size)
      clear hb
      go_wp2_with fail
      go_ret
      exact ⟨by rw [HV.out]; exact ret_strOf (by simp [ByteArray.data_append, strOf_data]), HB.out⟩
    · have hm2 : (mx.toList == []) = false := by simpa using hm0
      have HV : Hid (exTxt (d + 1) (.mk 8 nx tx mx ks cl) top = mx.data.toList ++ [58] ++ tx.data.toList ++ [40] ++ joinT [44, 32] (ks.map fun y => exTxt d y false) ++ [41]) := by
        show _ = _
        simp [exTxt, bareT, wrapK, headT, hm0]
      clear hm0
      go_enter Tryz.func72, Tryz.ntmps72
      go_wp2_with fail
      refine (hS _ _ ks false (F0 _ (BL.out _ _)) s2 wks).mono ?_
      rintro e w1 ⟨rfl, hb⟩
      have HB : Hid (Below w.heap.size w w1) := (BL.out _ _).trans (hb.mono (BL.out _ _).size)
      clear hb
      go_wp2_with fail
      go_ret
      exact ⟨by rw [HV.out]; exact ret_strOf (by simp [ByteArray.data_append, strOf_data]), HB.out⟩
  by_cases k10 : kx = 10
  · subst k10
    have hk1 : ks.length = 1 := by rw [HN.out]; simpa [shpK] using s1
    have HV : Hid (exTxt (d + 1) (.mk 10 nx tx mx ks cl) top = wrapT top ([99, 97, 115, 101, 32] ++ kidT (exTxt d) ks 0 ++ [32, 111, 102, 32] ++ joinT [59, 32] (cl.map (clTxt (exTxt d))) ++ [32, 101, 110, 100])) := by
      show _ = _
      simp [exTxt, bareT, wrapK]
    generalize hT : [99, 97, 115, 101, 32] ++ kidT (exTxt d) ks 0 ++ [32, 111, 102, 32] ++ joinT [59, 32] (cl.map (clTxt (exTxt d))) ++ [32, 101, 110, 100] = T at HV
    have HC : Hid (∀ w', Below w.heap.size w w' → Calls Tryz.prog 100 #[.agg #[.int .i64 10, .int .i64 nx, .string tx, .string mx, .slice p n cap, .slice q m cap']] w' fun e w'' => e = .returned (.string (strOf T)) ∧ Below w'.heap.size w' w'') := fun w' hw => by
      have := casesS_of hE hS w' nx tx mx p q n cap m cap' ks cl (F0 w' hw) (F1 w' hw) hk1 s2 s3 wkc
      rwa [hT] at this
    have hTl : (strOf T).size ≤ 1000000000 := by
      rw [strOf_size, ← hT]
      exact case_len hk1 HI.out HIC.out s2 s3 wkc
    clear hT
    go_enter Tryz.func72, Tryz.ntmps72
    go_wp2_with fail
    refine (HC.out _ (BL.out _ _)).mono ?_
    rintro e w1 ⟨rfl, hb⟩
    have HB : Hid (Below w.heap.size w w1) := (BL.out _ _).trans (hb.mono (BL.out _ _).size)
    clear hb
    go_wp2_with fail
    refine (wrapS_any _ top _ hTl).mono ?_
    rintro e w2 ⟨rfl, hw2⟩
    rw [hw2]
    clear hw2 w2
    go_wp2_with fail
    go_ret
    exact ⟨by rw [HV.out, strOf_data]; rfl, HB.out⟩
  by_cases k6 : kx = 6
  · subst k6
    obtain rfl : n = 2 := by simpa [shpK] using s1
    obtain ⟨ya, yb, hks⟩ : ∃ a b, ks = [a, b] := by
      have h3 := HN.out
      match ks, h3 with
      | [a, b], _ => exact ⟨a, b, rfl⟩
    have HV : Hid (exTxt (d + 1) (.mk 6 nx tx mx ks cl) top = [91] ++ exTxt d ya false ++ [32, 124, 32] ++ exTxt d yb false ++ [93]) := by
      show _ = _
      rw [hks]; simp [exTxt, bareT, wrapK, kidT]
    obtain ⟨g, off, rfl, -, hgl, hat⟩ := HX.out (by rw [hks]; simp)
    obtain ⟨cs, hcsl, hcs, ra⟩ := hat 0 ya (by rw [hks]; rfl)
    obtain ⟨cs', hcsl', hcs', rb⟩ := hat 1 yb (by rw [hks]; rfl)
    rw [hks] at s2 wks
    have sa : shp d ya = true := by simp at s2; exact s2.1
    have sb : shp d yb = true := by simp at s2; exact s2.2
    have hw2 : wtS (wtEx d) [ya, yb] = 2 + (wtEx d ya + wtEx d yb) := by simp [wtS]
    have wa : wtEx d ya ≤ 1048576 := by omega
    have wb : wtEx d yb ≤ 1048576 := by omega
    have la := ex_bd ra sa wa false
    have lb := ex_bd rb sb wb false
    obtain ⟨W1, hW1⟩ : ∃ W1, W1 = w.alloc (.cells #[.int .i64 6, .int .i64 nx, .string tx, .string mx, .slice (some ⟨g, off, none⟩) 2 cap, .slice q m cap'] 114) := ⟨_, rfl⟩
    have bA : Hid (Blk W1 w.heap.size #[.int .i64 6, .int .i64 nx, .string tx, .string mx, .slice (some ⟨g, off, none⟩) 2 cap, .slice q m cap'] 114) := by show Blk _ _ _ _; rw [hW1]; exact Blk.new
    have B1 : Hid (Below w.heap.size w W1) := by show Below _ _ _; rw [hW1]; exact (Below.refl _ _).alloc (Nat.le_refl _) _
    have HW1 : Hid (W1 = w.alloc (.cells #[.int .i64 6, .int .i64 nx, .string tx, .string mx, .slice (some ⟨g, off, none⟩) 2 cap, .slice q m cap'] 114)) := hW1
    have EA : ∀ w', SameOn All W1 w' → HEx w' All d cs ya := fun w' hw => ra.mono (SameOn.trans (SameOn.of_below B1.out) hw) (fun _ h => h)
    have EB : ∀ w', SameOn All W1 w' → HEx w' All d cs' yb := fun w' hw => rb.mono (SameOn.trans (SameOn.of_below B1.out) hw) (fun _ h => h)
    obtain ⟨c0, c1, c2, c3, c4, c5, rfl⟩ := len6 hcsl
    obtain ⟨e0, e1, e2, e3, e4, e5, rfl⟩ := len6 hcsl'
    have hlw := bA.out.lt
    have hgw : g < W1.heap.size := Nat.lt_of_lt_of_le hgl B1.out.size
    have CA : ∀ j, j < 6 → ∀ m : Wd (fun w' => SameOn All W1 w' ∧ Below w.heap.size w w'), m.val.cell? ⟨g, off + 0 * 6 + j, none⟩ = [c0, c1, c2, c3, c4, c5][j]? := fun j hj m => (World.cell?_of_block (m.ok.1.2 g trivial hgw)).trans ((B1.out.cell (p := ⟨g, _, none⟩) hgl).trans (hcs j hj))
    have CB : ∀ j, j < 6 → ∀ m : Wd (fun w' => SameOn All W1 w' ∧ Below w.heap.size w w'), m.val.cell? ⟨g, off + 1 * 6 + j, none⟩ = [e0, e1, e2, e3, e4, e5][j]? := fun j hj m => (World.cell?_of_block (m.ok.1.2 g trivial hgw)).trans ((B1.out.cell (p := ⟨g, _, none⟩) hgl).trans (hcs' j hj))
    have ca0 := CA 0 (by omega)
    have cb0 := CB 0 (by omega)
    have ca1 := CA 1 (by omega)
    have cb1 := CB 1 (by omega)
    have ca2 := CA 2 (by omega)
    have cb2 := CB 2 (by omega)
    have ca3 := CA 3 (by omega)
    have cb3 := CB 3 (by omega)
    have ca4 := CA 4 (by omega)
    have cb4 := CB 4 (by omega)
    have ca5 := CA 5 (by omega)
    have cb5 := CB 5 (by omega)
    simp at ca0 cb0 ca1 cb1 ca2 cb2 ca3 cb3 ca4 cb4 ca5 cb5
    have qx2 : ∀ m : Wd (fun w' => SameOn All W1 w' ∧ Below w.heap.size w w'), m.val.cell? ⟨w.heap.size, 2, none⟩ = some (.string tx) := fun m => (World.cell?_of_block (m.ok.1.2 w.heap.size trivial hlw)).trans (bA.out.cell 2 _ rfl)
    have qx4 : ∀ m : Wd (fun w' => SameOn All W1 w' ∧ Below w.heap.size w w'), m.val.cell? ⟨w.heap.size, 4, none⟩ = some (.slice (some ⟨g, off, none⟩) 2 cap) := fun m => (World.cell?_of_block (m.ok.1.2 w.heap.size trivial hlw)).trans (bA.out.cell 4 _ rfl)
    clear CA CB hat hcs hcs' hcsl hcsl' ra rb hks hW1 F0 F1 s1 s2 s3 wks wkc lks hw2 HX
    go_enter Tryz.func72, Tryz.ntmps72
    go_wp2
    rw [← HW1.out]
    have hCne : Nonempty (Wd (fun w' => SameOn All W1 w' ∧ Below w.heap.size w w')) := ⟨⟨W1.drew, ⟨⟨Nat.le_refl _, fun _ _ _ => rfl⟩, B1.out.drew⟩⟩⟩
    refine wp_region_class (fun w' => SameOn All W1 w' ∧ Below w.heap.size w w') (by kernel_rfl) (by kernel_rfl) ⟨⟨Nat.le_refl _, fun _ _ _ => rfl⟩, B1.out.drew⟩ ?_
    repeat (go_big_quiet_step (first | (rename_i m; go_at_call_of 72 c0; refine (hE _ _ ya false (EA _ m.ok.1) sa wa).mono ?_; rintro e w1 ⟨rfl, hb1⟩; exact ⟨rfl, ⟨⟨w1, ⟨(SameOn.trans m.ok.1 (SameOn.of_below hb1)), m.ok.2.trans (hb1.mono m.ok.2.size)⟩⟩, rfl⟩⟩) | (rename_i m; go_at_call_of 72 e0; refine (hE _ _ yb false (EB _ m.ok.1) sb wb).mono ?_; rintro e w1 ⟨rfl, hb1⟩; exact ⟨rfl, ⟨⟨w1, ⟨(SameOn.trans m.ok.1 (SameOn.of_below hb1)), m.ok.2.trans (hb1.mono m.ok.2.size)⟩⟩, rfl⟩⟩)))
    refine wpQuiet_nil ?_
    rintro _ ⟨mq, rfl⟩
    have HB4 : Hid (Below w.heap.size w mq.val) := mq.ok.2
    generalize mq.val = w4 at HB4 ⊢
    go_wp2_with fail
    go_ret
    exact ⟨by rw [HV.out]; exact ret_strOf (by simp [ByteArray.data_append, strOf_data]), HB4.out⟩
  by_cases k7 : kx = 7
  · subst k7
    obtain rfl : n = 2 := by simpa [shpK] using s1
    obtain ⟨ya, yb, hks⟩ : ∃ a b, ks = [a, b] := by
      have h3 := HN.out
      match ks, h3 with
      | [a, b], _ => exact ⟨a, b, rfl⟩
    have HV : Hid (exTxt (d + 1) (.mk 7 nx tx mx ks cl) top = wrapT top (exTxt d ya false ++ [32] ++ tx.data.toList ++ [32] ++ exTxt d yb false)) := by
      show _ = _
      rw [hks]; simp [exTxt, bareT, wrapK, kidT]
    obtain ⟨g, off, rfl, -, hgl, hat⟩ := HX.out (by rw [hks]; simp)
    obtain ⟨cs, hcsl, hcs, ra⟩ := hat 0 ya (by rw [hks]; rfl)
    obtain ⟨cs', hcsl', hcs', rb⟩ := hat 1 yb (by rw [hks]; rfl)
    rw [hks] at s2 wks
    have sa : shp d ya = true := by simp at s2; exact s2.1
    have sb : shp d yb = true := by simp at s2; exact s2.2
    have hw2 : wtS (wtEx d) [ya, yb] = 2 + (wtEx d ya + wtEx d yb) := by simp [wtS]
    have wa : wtEx d ya ≤ 1048576 := by omega
    have wb : wtEx d yb ≤ 1048576 := by omega
    have la := ex_bd ra sa wa false
    have lb := ex_bd rb sb wb false
    obtain ⟨W1, hW1⟩ : ∃ W1, W1 = w.alloc (.cells #[.int .i64 7, .int .i64 nx, .string tx, .string mx, .slice (some ⟨g, off, none⟩) 2 cap, .slice q m cap'] 114) := ⟨_, rfl⟩
    have bA : Hid (Blk W1 w.heap.size #[.int .i64 7, .int .i64 nx, .string tx, .string mx, .slice (some ⟨g, off, none⟩) 2 cap, .slice q m cap'] 114) := by show Blk _ _ _ _; rw [hW1]; exact Blk.new
    have B1 : Hid (Below w.heap.size w W1) := by show Below _ _ _; rw [hW1]; exact (Below.refl _ _).alloc (Nat.le_refl _) _
    have HW1 : Hid (W1 = w.alloc (.cells #[.int .i64 7, .int .i64 nx, .string tx, .string mx, .slice (some ⟨g, off, none⟩) 2 cap, .slice q m cap'] 114)) := hW1
    have EA : ∀ w', SameOn All W1 w' → HEx w' All d cs ya := fun w' hw => ra.mono (SameOn.trans (SameOn.of_below B1.out) hw) (fun _ h => h)
    have EB : ∀ w', SameOn All W1 w' → HEx w' All d cs' yb := fun w' hw => rb.mono (SameOn.trans (SameOn.of_below B1.out) hw) (fun _ h => h)
    obtain ⟨c0, c1, c2, c3, c4, c5, rfl⟩ := len6 hcsl
    obtain ⟨e0, e1, e2, e3, e4, e5, rfl⟩ := len6 hcsl'
    have hlw := bA.out.lt
    have hgw : g < W1.heap.size := Nat.lt_of_lt_of_le hgl B1.out.size
    have CA : ∀ j, j < 6 → ∀ m : Wd (fun w' => SameOn All W1 w' ∧ Below w.heap.size w w'), m.val.cell? ⟨g, off + 0 * 6 + j, none⟩ = [c0, c1, c2, c3, c4, c5][j]? := fun j hj m => (World.cell?_of_block (m.ok.1.2 g trivial hgw)).trans ((B1.out.cell (p := ⟨g, _, none⟩) hgl).trans (hcs j hj))
    have CB : ∀ j, j < 6 → ∀ m : Wd (fun w' => SameOn All W1 w' ∧ Below w.heap.size w w'), m.val.cell? ⟨g, off + 1 * 6 + j, none⟩ = [e0, e1, e2, e3, e4, e5][j]? := fun j hj m => (World.cell?_of_block (m.ok.1.2 g trivial hgw)).trans ((B1.out.cell (p := ⟨g, _, none⟩) hgl).trans (hcs' j hj))
    have ca0 := CA 0 (by omega)
    have cb0 := CB 0 (by omega)
    have ca1 := CA 1 (by omega)
    have cb1 := CB 1 (by omega)
    have ca2 := CA 2 (by omega)
    have cb2 := CB 2 (by omega)
    have ca3 := CA 3 (by omega)
    have cb3 := CB 3 (by omega)
    have ca4 := CA 4 (by omega)
    have cb4 := CB 4 (by omega)
    have ca5 := CA 5 (by omega)
    have cb5 := CB 5 (by omega)
    simp at ca0 cb0 ca1 cb1 ca2 cb2 ca3 cb3 ca4 cb4 ca5 cb5
    have qx2 : ∀ m : Wd (fun w' => SameOn All W1 w' ∧ Below w.heap.size w w'), m.val.cell? ⟨w.heap.size, 2, none⟩ = some (.string tx) := fun m => (World.cell?_of_block (m.ok.1.2 w.heap.size trivial hlw)).trans (bA.out.cell 2 _ rfl)
    have qx4 : ∀ m : Wd (fun w' => SameOn All W1 w' ∧ Below w.heap.size w w'), m.val.cell? ⟨w.heap.size, 4, none⟩ = some (.slice (some ⟨g, off, none⟩) 2 cap) := fun m => (World.cell?_of_block (m.ok.1.2 w.heap.size trivial hlw)).trans (bA.out.cell 4 _ rfl)
    have HSZ : Hid ((strOf (exTxt d ya false) ++ (⟨#[32]⟩ : ByteArray) ++ tx ++ (⟨#[32]⟩ : ByteArray) ++ strOf (exTxt d yb false)).size ≤ 1000000000) := by
      show _ ≤ _
      have z1 : (⟨#[32]⟩ : ByteArray).size = 1 := rfl
      have z3 : (⟨#[32, 61, 32]⟩ : ByteArray).size = 3 := rfl
      simp only [ByteArray.size_append]
      omega
    clear CA CB hat hcs hcs' hcsl hcsl' ra rb hks hW1 F0 F1 s1 s2 s3 wks wkc lks hw2 HX
    go_enter Tryz.func72, Tryz.ntmps72
    go_wp2
    rw [← HW1.out]
    have hCne : Nonempty (Wd (fun w' => SameOn All W1 w' ∧ Below w.heap.size w w')) := ⟨⟨W1.drew, ⟨⟨Nat.le_refl _, fun _ _ _ => rfl⟩, B1.out.drew⟩⟩⟩
    refine wp_region_class (fun w' => SameOn All W1 w' ∧ Below w.heap.size w w') (by kernel_rfl) (by kernel_rfl) ⟨⟨Nat.le_refl _, fun _ _ _ => rfl⟩, B1.out.drew⟩ ?_
    repeat (go_big_quiet_step (first | (rename_i m; go_at_call_of 72 c0; refine (hE _ _ ya false (EA _ m.ok.1) sa wa).mono ?_; rintro e w1 ⟨rfl, hb1⟩; exact ⟨rfl, ⟨⟨w1, ⟨(SameOn.trans m.ok.1 (SameOn.of_below hb1)), m.ok.2.trans (hb1.mono m.ok.2.size)⟩⟩, rfl⟩⟩) | (rename_i m; go_at_call_of 72 e0; refine (hE _ _ yb false (EB _ m.ok.1) sb wb).mono ?_; rintro e w1 ⟨rfl, hb1⟩; exact ⟨rfl, ⟨⟨w1, ⟨(SameOn.trans m.ok.1 (SameOn.of_below hb1)), m.ok.2.trans (hb1.mono m.ok.2.size)⟩⟩, rfl⟩⟩) | (rename_i m; go_at_call 99; refine (wrapS_any _ top _ HSZ.out).mono ?_; rintro e w1 ⟨rfl, rfl⟩; exact ⟨rfl, ⟨m, rfl⟩⟩)))
    refine wpQuiet_nil ?_
    rintro _ ⟨mq, rfl⟩
    have HB4 : Hid (Below w.heap.size w mq.val) := mq.ok.2
    generalize mq.val = w4 at HB4 ⊢
    go_wp2_with fail
    go_ret
    exact ⟨by rw [HV.out]; simp [ByteArray.data_append, strOf_data], HB4.out⟩
  by_cases k9 : kx = 9
  · subst k9
    obtain rfl : n = 2 := by simpa [shpK] using s1
    obtain ⟨ya, yb, hks⟩ : ∃ a b, ks = [a, b] := by
      have h3 := HN.out
      match ks, h3 with
      | [a, b], _ => exact ⟨a, b, rfl⟩
    have HV : Hid (exTxt (d + 1) (.mk 9 nx tx mx ks cl) top = wrapT top (exTxt d ya false ++ [32, 61, 32] ++ exTxt d yb false)) := by
      show _ = _
      rw [hks]; simp [exTxt, bareT, wrapK, kidT]
    obtain ⟨g, off, rfl, -, hgl, hat⟩ := HX.out (by rw [hks]; simp)
    obtain ⟨cs, hcsl, hcs, ra⟩ := hat 0 ya (by rw [hks]; rfl)
    obtain ⟨cs', hcsl', hcs', rb⟩ := hat 1 yb (by rw [hks]; rfl)
    rw [hks] at s2 wks
    have sa : shp d ya = true := by simp at s2; exact s2.1
    have sb : shp d yb = true := by simp at s2; exact s2.2
    have hw2 : wtS (wtEx d) [ya, yb] = 2 + (wtEx d ya + wtEx d yb) := by simp [wtS]
    have wa : wtEx d ya ≤ 1048576 := by omega
    have wb : wtEx d yb ≤ 1048576 := by omega
    have la := ex_bd ra sa wa false
    have lb := ex_bd rb sb wb false
    obtain ⟨W1, hW1⟩ : ∃ W1, W1 = w.alloc (.cells #[.int .i64 9, .int .i64 nx, .string tx, .string mx, .slice (some ⟨g, off, none⟩) 2 cap, .slice q m cap'] 114) := ⟨_, rfl⟩
    have bA : Hid (Blk W1 w.heap.size #[.int .i64 9, .int .i64 nx, .string tx, .string mx, .slice (some ⟨g, off, none⟩) 2 cap, .slice q m cap'] 114) := by show Blk _ _ _ _; rw [hW1]; exact Blk.new
    have B1 : Hid (Below w.heap.size w W1) := by show Below _ _ _; rw [hW1]; exact (Below.refl _ _).alloc (Nat.le_refl _) _
    have HW1 : Hid (W1 = w.alloc (.cells #[.int .i64 9, .int .i64 nx, .string tx, .string mx, .slice (some ⟨g, off, none⟩) 2 cap, .slice q m cap'] 114)) := hW1
    have EA : ∀ w', SameOn All W1 w' → HEx w' All d cs ya := fun w' hw => ra.mono (SameOn.trans (SameOn.of_below B1.out) hw) (fun _ h => h)
    have EB : ∀ w', SameOn All W1 w' → HEx w' All d cs' yb := fun w' hw => rb.mono (SameOn.trans (SameOn.of_below B1.out) hw) (fun _ h => h)
    obtain ⟨c0, c1, c2, c3, c4, c5, rfl⟩ := len6 hcsl
    obtain ⟨e0, e1, e2, e3, e4, e5, rfl⟩ := len6 hcsl'
    have hlw := bA.out.lt
    have hgw : g < W1.heap.size := Nat.lt_of_lt_of_le hgl B1.out.size
    have CA : ∀ j, j < 6 → ∀ m : Wd (fun w' => SameOn All W1 w' ∧ Below w.heap.size w w'), m.val.cell? ⟨g, off + 0 * 6 + j, none⟩ = [c0, c1, c2, c3, c4, c5][j]? := fun j hj m => (World.cell?_of_block (m.ok.1.2 g trivial hgw)).trans ((B1.out.cell (p := ⟨g, _, none⟩) hgl).trans (hcs j hj))
    have CB : ∀ j, j < 6 → ∀ m : Wd (fun w' => SameOn All W1 w' ∧ Below w.heap.size w w'), m.val.cell? ⟨g, off + 1 * 6 + j, none⟩ = [e0, e1, e2, e3, e4, e5][j]? := fun j hj m => (World.cell?_of_block (m.ok.1.2 g trivial hgw)).trans ((B1.out.cell (p := ⟨g, _, none⟩) hgl).trans (hcs' j hj))
    have ca0 := CA 0 (by omega)
    have cb0 := CB 0 (by omega)
    have ca1 := CA 1 (by omega)
    have cb1 := CB 1 (by omega)
    have ca2 := CA 2 (by omega)
    have cb2 := CB 2 (by omega)
    have ca3 := CA 3 (by omega)
    have cb3 := CB 3 (by omega)
    have ca4 := CA 4 (by omega)
    have cb4 := CB 4 (by omega)
    have ca5 := CA 5 (by omega)
    have cb5 := CB 5 (by omega)
    simp at ca0 cb0 ca1 cb1 ca2 cb2 ca3 cb3 ca4 cb4 ca5 cb5
    have qx2 : ∀ m : Wd (fun w' => SameOn All W1 w' ∧ Below w.heap.size w w'), m.val.cell? ⟨w.heap.size, 2, none⟩ = some (.string tx) := fun m => (World.cell?_of_block (m.ok.1.2 w.heap.size trivial hlw)).trans (bA.out.cell 2 _ rfl)
    have qx4 : ∀ m : Wd (fun w' => SameOn All W1 w' ∧ Below w.heap.size w w'), m.val.cell? ⟨w.heap.size, 4, none⟩ = some (.slice (some ⟨g, off, none⟩) 2 cap) := fun m => (World.cell?_of_block (m.ok.1.2 w.heap.size trivial hlw)).trans (bA.out.cell 4 _ rfl)
    have HSZ : Hid ((strOf (exTxt d ya false) ++ (⟨#[32, 61, 32]⟩ : ByteArray) ++ strOf (exTxt d yb false)).size ≤ 1000000000) := by
      show _ ≤ _
      have z1 : (⟨#[32]⟩ : ByteArray).size = 1 := rfl
      have z3 : (⟨#[32, 61, 32]⟩ : ByteArray).size = 3 := rfl
      simp only [ByteArray.size_append]
      omega
    clear CA CB hat hcs hcs' hcsl hcsl' ra rb hks hW1 F0 F1 s1 s2 s3 wks wkc lks hw2 HX
    go_enter Tryz.func72, Tryz.ntmps72
    go_wp2
    rw [← HW1.out]
    have hCne : Nonempty (Wd (fun w' => SameOn All W1 w' ∧ Below w.heap.size w w')) := ⟨⟨W1.drew, ⟨⟨Nat.le_refl _, fun _ _ _ => rfl⟩, B1.out.drew⟩⟩⟩
    refine wp_region_class (fun w' => SameOn All W1 w' ∧ Below w.heap.size w w') (by kernel_rfl) (by kernel_rfl) ⟨⟨Nat.le_refl _, fun _ _ _ => rfl⟩, B1.out.drew⟩ ?_
    repeat (go_big_quiet_step (first | (rename_i m; go_at_call_of 72 c0; refine (hE _ _ ya false (EA _ m.ok.1) sa wa).mono ?_; rintro e w1 ⟨rfl, hb1⟩; exact ⟨rfl, ⟨⟨w1, ⟨(SameOn.trans m.ok.1 (SameOn.of_below hb1)), m.ok.2.trans (hb1.mono m.ok.2.size)⟩⟩, rfl⟩⟩) | (rename_i m; go_at_call_of 72 e0; refine (hE _ _ yb false (EB _ m.ok.1) sb wb).mono ?_; rintro e w1 ⟨rfl, hb1⟩; exact ⟨rfl, ⟨⟨w1, ⟨(SameOn.trans m.ok.1 (SameOn.of_below hb1)), m.ok.2.trans (hb1.mono m.ok.2.size)⟩⟩, rfl⟩⟩) | (rename_i m; go_at_call 99; refine (wrapS_any _ top _ HSZ.out).mono ?_; rintro e w1 ⟨rfl, rfl⟩; exact ⟨rfl, ⟨m, rfl⟩⟩)))
    refine wpQuiet_nil ?_
    rintro _ ⟨mq, rfl⟩
    have HB4 : Hid (Below w.heap.size w mq.val) := mq.ok.2
    generalize mq.val = w4 at HB4 ⊢
    go_wp2_with fail
    go_ret
    exact ⟨by rw [HV.out]; simp [ByteArray.data_append, strOf_data], HB4.out⟩
  have HV : Hid (exTxt (d + 1) (.mk kx nx tx mx ks cl) top = tx.data.toList) := by
    show _ = _
    simp [exTxt, bareT, wrapK, k0, k3, k4, k5, k6, k7, k8, k9, k10]
  go_enter Tryz.func72, Tryz.ntmps72
  go_wp2
  go_ret
  exact ⟨by rw [HV.out, strOf_self]; rfl, BL.out _ _⟩

theorem show_allS : ∀ d, SwC d
  | 0 => fun w cs x top h _ _ => h.elim
  | d + 1 => showS_of (show_allS d) (showsS_of (show_allS d))
theorem shows_allS (d : Nat) : SsC d := showsS_of (show_allS d)
end Go.Proofs.YtkomkhiinfdfmaaGreatDoor
