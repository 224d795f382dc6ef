/-
  The specification's Show, by contract: expressions.
-/
import Derived.Test.YtkomkhiinfdfmaaGreatDoorShowMath
namespace Go.Proofs.YtkomkhiinfdfmaaGreatDoor
open Go.ChangeShapes Go.WideShapes Go.ChangeAt Go.RowKit
set_option linter.unusedVariables false

def strOf (l : List UInt8) : ByteArray := ⟨l.toArray⟩
theorem strOf_size (l : List UInt8) : (strOf l).size = l.length := by simp [strOf, ByteArray.size]
theorem strOf_data (l : List UInt8) : (strOf l).data.toList = l := by simp [strOf]
theorem strOf_self (a : ByteArray) : strOf a.data.toList = a := by simp [strOf]
theorem ret_strOf {a : ByteArray} {l : List UInt8} (h : a.data.toList = l) : Ending.returned (.string a) = .returned (.string (strOf l)) := by rw [← h, strOf_self]

def SwC (d : Nat) : Prop :=
  ∀ (w : World) (cs : List Value) (x : Ex) (top : Bool), HEx w All d cs x → shp d x = true → wtEx d x ≤ 1048576 → Calls Tryz.prog 72 #[.agg cs.toArray, .bool top] w fun e w' => e = .returned (.string (strOf (exTxt d x top))) ∧ Below w.heap.size w w'
def SsC (d : Nat) : Prop :=
  ∀ (w : World) (v : Value) (es : List Ex) (top : Bool), Rows w All 6 (HEx w All d) v es → es.all (shp d) = true → wtS (wtEx d) es ≤ 1048576 → Calls Tryz.prog 33 #[v, .bool top] w fun e w' => e = .returned (.string (strOf (joinT [44, 32] (es.map fun y => exTxt d y top)))) ∧ Below w.heap.size w w'

theorem ex_bd {d : Nat} {x : Ex} {w : World} {S : Nat → Prop} {cs : List Value} (h : HEx w S d cs x) (hs : shp d x = true) (hw : wtEx d x ≤ 1048576) (top : Bool) : (strOf (exTxt d x top)).size ≤ 52428840 := by
  rw [strOf_size]
  have := exTxt_len d x top h.ints hs
  omega
theorem exs_bd {d : Nat} {es : List Ex} (hI : ∀ y ∈ es, exI d y) (hs : es.all (shp d) = true) (hw : wtS (wtEx d) es ≤ 1048576) (top : Bool) : (joinT [44, 32] (es.map fun y => exTxt d y top)).length ≤ 52428800 := by
  have := joinT_wt (fun y => exTxt d y top) (wtEx d) 40 50 [44, 32] (by decide) es (fun y hy => exTxt_len d y top (hI y hy) (List.all_eq_true.1 hs y hy))
  omega

theorem wrapS_any (s : ByteArray) (top : Bool) (w : World) (hs : s.size ≤ 1000000000) : Calls Tryz.prog 99 #[.string s, .bool top] w fun e w' => e = .returned (.string (strOf (wrapT top s.data.toList))) ∧ w' = w := by
  cases top with
  | true =>
    go_enter Tryz.func99, Tryz.ntmps99
    go_wp2
    go_ret
    exact ⟨ret_strOf (by simp [wrapT]), rfl⟩
  | false =>
    go_enter Tryz.func99, Tryz.ntmps99
    go_wp2
    go_ret
    exact ⟨ret_strOf (by simp [wrapT, ByteArray.data_append]), rfl⟩

set_option maxHeartbeats 4000000 in
set_option maxRecDepth 100000 in
theorem showsS_of {d : Nat} (hE : SwC d) : SsC d := by
  intro w v es top h hsh hwt
  have hI : ∀ y ∈ es, exI d y := fun y hy => by obtain ⟨_, hv⟩ := rows_mem h y hy; exact hv.ints
  obtain ⟨p, cap, rfl, hcl, hcm, hx⟩ := h
  have hnb : es.length ≤ 9223372036854775807 := by unfold maxLen at hcm; omega
  have BD : Hid (∀ k (o : ByteArray), o.data.toList = joinT [44, 32] ((es.take k).map fun y => exTxt d y top) → o.size ≤ 52428800) := fun k o ho => by
    rw [← bsize, ho]
    exact exs_bd (fun y hy => hI y (List.mem_of_mem_take hy)) (by rw [List.all_eq_true] at hsh ⊢; exact fun y hy => hsh y (List.mem_of_mem_take hy)) (Nat.le_trans (wtS_take _ _ _) hwt) top
  have BX : Hid (∀ k x, es[k]? = some x → wtEx d x ≤ 1048576 ∧ shp d x = true) := fun k x hk => ⟨Nat.le_trans (wtS_at _ es k x hk) hwt, List.all_eq_true.1 hsh x (List.mem_of_getElem? hk)⟩
  generalize hn : es.length = n at *
  have HN : Hid (es.length = n) := hn
  have HX : Hid (es ≠ [] → ∃ g off, p = some ⟨g, off, none⟩ ∧ All g ∧ g < w.heap.size ∧ ∀ i x, es[i]? = some x → ∃ cs, cs.length = 6 ∧ (∀ j, j < 6 → w.cell? ⟨g, off + i * 6 + j, none⟩ = cs[j]?) ∧ HEx w All d cs x) := hx
  clear hx hn hI hwt hsh
  go_enter Tryz.func33, Tryz.ntmps33
  go_wp2
  go_loopw [5, 6] (fun ov iv wr => ∃ (k : Nat) (o : ByteArray), k ≤ n ∧ iv = .int .i64 k ∧ ov = .string o ∧ Hid (o.data.toList = joinT [44, 32] ((es.take k).map fun y => exTxt d y top)) ∧ Below w.heap.size w wr) (fun _ iv _ => n - (intOf iv).toNat)
  case atStart => exact ⟨0, ⟨#[]⟩, Nat.zero_le _, rfl, rfl, by show _ = _; simp [joinT], Below.refl _ _⟩
  case round =>
    obtain ⟨k, o, hk, rfl, rfl, ho, hb⟩ := hrel
    have hos := BD.out k o ho.out
    have HB : Hid (Below w.heap.size w wr) := hb
    by_cases hlt : k < n
    · obtain ⟨x, hxk⟩ : ∃ x, es[k]? = some x := ⟨es[k]'(by rw [HN.out]; exact hlt), List.getElem?_eq_getElem _⟩
      obtain ⟨g, off, rfl, -, hgl, hat⟩ := HX.out (by intro h; rw [h] at hxk; simp at hxk)
      obtain ⟨cs, hcsl, hcs, r1⟩ := hat k x hxk
      obtain ⟨wx, sx⟩ := BX.out k x hxk
      have lx := ex_bd r1 sx wx top
      have E1 : ∀ w', Below w.heap.size w w' → HEx w' All d cs x := fun w' hw => r1.mono (SameOn.of_below hw) (fun _ h => h)
      obtain ⟨c0, c1, c2, c3, c4, c5, rfl⟩ := len6 hcsl
      have a0 := hcs 0 (by omega)
      have a1 := hcs 1 (by omega)
      have a2 := hcs 2 (by omega)
      have a3 := hcs 3 (by omega)
      have a4 := hcs 4 (by omega)
      have a5 := hcs 5 (by omega)
      rw [← hb.cell (p := ⟨g, _, none⟩) hgl] at a0 a1 a2 a3 a4 a5
      simp at a0 a1 a2 a3 a4 a5
      have hki : (k : Int) < (n : Int) := by omega
      have hk0 : (0 : Int) ≤ (k : Int) := by omega
      clear hb hcs hat hcsl r1
      by_cases hz : k = 0
      · have hz1 : ¬ (0 : Int) < (k : Int) := by omega
        have HJ : Hid (joinT [44, 32] ((es.take (k + 1)).map fun y => exTxt d y top) = exTxt d x top) := joinT_first _ es _ k hz x hxk
        have HO : Hid (o.data.toList = []) := by
          have := ho.out
          rw [hz] at this
          show _ = _
          simpa [joinT] using this
        clear hz
        go_wp2_with fail
        refine (hE _ _ x top (E1 _ HB.out) sx wx).mono ?_
        rintro e w4 ⟨rfl, hb4⟩
        have HB4 : Hid (Below w.heap.size w w4) := HB.out.trans (hb4.mono HB.out.size)
        clear hb4
        go_wp2_with fail
        refine ⟨⟨k + 1, o ++ strOf (exTxt d x top), by omega, by go_num, rfl, ?_, HB4.out⟩, by simp [intOf]; omega⟩
        show _ = _
        rw [HJ.out, ByteArray.data_append, Array.toList_append, HO.out, strOf_data]; rfl
      · have hz1 : (0 : Int) < (k : Int) := by omega
        have HJ : Hid (joinT [44, 32] ((es.take (k + 1)).map fun y => exTxt d y top) = joinT [44, 32] ((es.take k).map fun y => exTxt d y top) ++ ([44, 32] ++ exTxt d x top)) := joinT_at _ es _ k x hxk hz
        go_wp2_with fail
        refine (hE _ _ x top (E1 _ HB.out) sx wx).mono ?_
        rintro e w4 ⟨rfl, hb4⟩
        have HB4 : Hid (Below w.heap.size w w4) := HB.out.trans (hb4.mono HB.out.size)
        clear hb4
        go_wp2_with fail
        refine ⟨⟨k + 1, o ++ ⟨#[44, 32]⟩ ++ strOf (exTxt d x top), by omega, by go_num, rfl, ?_, HB4.out⟩, by simp [intOf]; omega⟩
        show _ = _
        rw [HJ.out, ByteArray.data_append, ByteArray.data_append, Array.toList_append, Array.toList_append, ho.out, strOf_data, List.append_assoc]
    · have HS : Hid (o.data.toList = joinT [44, 32] (es.map fun y => exTxt d y top)) := by
        have := ho.out
        rwa [List.take_of_length_le (by rw [HN.out]; omega)] at this
      clear hb
      go_wp2_with fail
      go_ret
      exact ⟨ret_strOf HS.out, HB.out⟩

set_option maxHeartbeats 8000000 in
set_option maxRecDepth 100000 in
/-- The text of a case. -/
theorem casesS_of {d : Nat} (hE : SwC d) (hS : SsC d) (w : World) (nx : Int) (tx mx : ByteArray) (p q : Option Addr) (n cap m cap' : Nat) (ks : List Ex) (cl : List Cl) (f0 : Rows w All 6 (HEx w All d) (.slice p n cap) ks) (f1 : Rows w All 2 (HCl w All (HEx w All d)) (.slice q m cap') cl)
    (hn : ks.length = 1) (s2 : ks.all (shp d) = true) (s3 : cl.all (fun c => decide (c.1.length = 1) && (c.1.all (shp d) && c.2.all (shp d))) = true) (hwt : wtS (wtEx d) ks + wtS (wtCl (wtEx d)) cl ≤ 1048576) :
    Calls Tryz.prog 100 #[.agg #[.int .i64 10, .int .i64 nx, .string tx, .string mx, .slice p n cap, .slice q m cap']] w fun e w' => e = .returned (.string (strOf ([99, 97, 115, 101, 32] ++ kidT (exTxt d) ks 0 ++ [32, 111, 102, 32] ++ joinT [59, 32] (cl.map (clTxt (exTxt d))) ++ [32, 101, 110, 100]))) ∧ Below w.heap.size w w' := by
  obtain ⟨z, rfl⟩ : ∃ z, ks = [z] := by
    match ks, hn with
    | [z], _ => exact ⟨z, rfl⟩
  have hIc : ∀ c ∈ cl, (∀ y ∈ c.1, exI d y) ∧ ∀ y ∈ c.2, exI d y := fun c hc => by
    obtain ⟨_, pp, bb, _, g0, g1⟩ := rows_mem f1 c hc
    exact ⟨fun y hy => by obtain ⟨_, hv⟩ := rows_mem g0 y hy; exact hv.ints, fun y hy => by obtain ⟨_, hv⟩ := rows_mem g1 y hy; exact hv.ints⟩
  have hk0 : kidT (exTxt d) [z] 0 = exTxt d z false := rfl
  rw [hk0]
  obtain ⟨p', cap0, hv, hcl, hcm, hx⟩ := f0
  simp only [Value.slice.injEq, List.length_cons, List.length_nil] at hv
  obtain ⟨rfl, rfl, rfl⟩ := hv
  obtain ⟨q', cap1, hv, hcl', hcm', hy⟩ := f1
  simp only [Value.slice.injEq] at hv
  obtain ⟨rfl, hml, rfl⟩ := hv
  have hmb : m ≤ 9223372036854775807 := by rw [← hml] at hcl'; unfold maxLen at hcm'; omega
  have HM : Hid (cl.length = m) := hml.symm
  have sz : shp d z = true := by simpa using s2
  have wz : wtEx d z ≤ 1048576 := by have : wtS (wtEx d) [z] = 1 + wtEx d z := by simp [wtS]
                                     omega
  have wcl : wtS (wtCl (wtEx d)) cl ≤ 1048576 := by omega
  obtain ⟨g, off, rfl, -, hgl, hat⟩ := hx (by simp)
  obtain ⟨cs, hcsl, hcs, r1⟩ := hat 0 z rfl
  have lz := ex_bd r1 sz wz false
  have E1 : ∀ w', Below w.heap.size w w' → HEx w' All d cs z := fun w' hw => r1.mono (SameOn.of_below hw) (fun _ h => h)
  have BL : Hid (Below w.heap.size w (w.alloc (.cells #[.int .i64 10, .int .i64 nx, .string tx, .string mx, .slice (some ⟨g, off, none⟩) 1 cap, .slice q m cap'] 114))) := (Below.refl _ _).alloc (Nat.le_refl _) _
  obtain ⟨c0, c1, c2, c3, c4, c5, rfl⟩ := len6 hcsl
  have a0 := hcs 0 (by omega)
  have a1 := hcs 1 (by omega)
  have a2 := hcs 2 (by omega)
  have a3 := hcs 3 (by omega)
  have a4 := hcs 4 (by omega)
  have a5 := hcs 5 (by omega)
  rw [← BL.out.cell (p := ⟨g, _, none⟩) hgl] at a0 a1 a2 a3 a4 a5
  simp at a0 a1 a2 a3 a4 a5
  have HY : Hid (cl ≠ [] → ∃ g off, q = some ⟨g, off, none⟩ ∧ All g ∧ g < w.heap.size ∧ ∀ i x, cl[i]? = some x → ∃ cs, cs.length = 2 ∧ (∀ j, j < 2 → w.cell? ⟨g, off + i * 2 + j, none⟩ = cs[j]?) ∧ HCl w All (HEx w All d) cs x) := hy
  have BD : Hid (∀ k (o : ByteArray), o.data.toList = [99, 97, 115, 101, 32] ++ exTxt d z false ++ [32, 111, 102, 32] ++ joinT [59, 32] ((cl.take k).map (clTxt (exTxt d))) → o.size ≤ 104857700) := fun k o ho => by
    rw [← bsize, ho]
    have h1 := joinT_wt (clTxt (exTxt d)) (wtCl (wtEx d)) 40 50 [59, 32] (by decide) (cl.take k) (fun c hc => by
      have hcm := List.mem_of_mem_take hc
      have := List.all_eq_true.1 s3 c hcm
      simp only [Bool.and_eq_true, decide_eq_true_eq] at this
      exact clTxt_len _ _ c this.1 (fun y hy b => exTxt_len d y b ((hIc c hcm).1 y hy) (List.all_eq_true.1 this.2.1 y hy)) (fun y hy b => exTxt_len d y b ((hIc c hcm).2 y hy) (List.all_eq_true.1 this.2.2 y hy)))
    have h2 := wtS_take (wtCl (wtEx d)) cl k
    rw [strOf_size] at lz
    simp only [List.length_append, List.length_cons, List.length_nil]
    omega
  have SC : Hid (∀ k c, cl[k]? = some c → (c.1.length = 1 ∧ c.1.all (shp d) = true ∧ c.2.all (shp d) = true) ∧ wtCl (wtEx d) c ≤ 1048576) := fun k c hk => by
    have := List.all_eq_true.1 s3 c (List.mem_of_getElem? hk)
    simp only [Bool.and_eq_true, decide_eq_true_eq] at this
    exact ⟨this, Nat.le_trans (wtS_at _ cl k c hk) wcl⟩
  clear hx hy hat hcs hcsl r1 hIc s2 s3 hwt wcl hn hk0 hcl' hml
  go_enter Tryz.func100, Tryz.ntmps100
  go_wp2_with fail
  refine (hE _ _ z false (E1 _ BL.out) sz wz).mono ?_
  rintro e W1 ⟨rfl, hb⟩
  have B1 : Hid (Below w.heap.size w W1) := BL.out.trans (hb.mono BL.out.size)
  have bA : Hid (Blk W1 w.heap.size #[.int .i64 10, .int .i64 nx, .string tx, .string mx, .slice (some ⟨g, off, none⟩) 1 cap, .slice q m cap'] 114) := (Blk.new (w := w)).next hb
  clear hb a0 a1 a2 a3 a4 a5
  go_wp2_with fail
  go_loopw [3, 4] (fun ov iv wr => ∃ (k : Nat) (o : ByteArray), k ≤ m ∧ iv = .int .i64 k ∧ ov = .string o ∧ Hid (o.data.toList = [99, 97, 115, 101, 32] ++ exTxt d z false ++ [32, 111, 102, 32] ++ joinT [59, 32] ((cl.take k).map (clTxt (exTxt d)))) ∧ Hid (SameOn All W1 wr) ∧ Below w.heap.size w wr) (fun _ iv _ => m - (intOf iv).toNat)
  case atStart => exact ⟨0, _, Nat.zero_le _, rfl, rfl, by show _ = _; simp [joinT, ByteArray.data_append, strOf_data], ⟨Nat.le_refl _, fun _ _ _ => rfl⟩, B1.out⟩
  case round =>
    obtain ⟨k, o, hk, rfl, rfl, ho, hso, hb⟩ := hrel
    have hos := BD.out k o ho.out
    have HB : Hid (Below w.heap.size w wr) := hb
    have b1 := bA.out.same_on hso.out
    have hlw := b1.lt
    have xa5 := b1.cell 5 _ rfl
    clear b1
    by_cases hlt : k < m
    · obtain ⟨c, hck⟩ : ∃ c, cl[k]? = some c := ⟨cl[k]'(by rw [HM.out]; exact hlt), List.getElem?_eq_getElem _⟩
      obtain ⟨g2, off2, rfl, -, hgl2, hat2⟩ := HY.out (by intro h; rw [h] at hck; simp at hck)
      obtain ⟨cs2, hcsl2, hcs2, r2⟩ := hat2 k c hck
      obtain ⟨⟨t1, t2, sb⟩, wc⟩ := SC.out k c hck
      obtain ⟨pv, bv, rfl, g0, g1⟩ := r2
      obtain ⟨ps, bs⟩ := c
      simp only at t1 t2 sb g0 g1
      obtain ⟨y, rfl⟩ : ∃ y, ps = [y] := by
        match ps, t1 with
        | [y], _ => exact ⟨y, rfl⟩
      have hwc : wtCl (wtEx d) ([y], bs) = wtS (wtEx d) [y] + wtS (wtEx d) bs := rfl
      have hwy : wtS (wtEx d) [y] = 1 + wtEx d y := by simp [wtS]
      have wy : wtEx d y ≤ 1048576 := by omega
      have wb : wtS (wtEx d) bs ≤ 1048576 := by omega
      have sy : shp d y = true := by simpa using t2
      have hct : clTxt (exTxt d) ([y], bs) = exTxt d y false ++ [32, 45, 62, 32] ++ joinT [44, 32] (bs.map fun z => exTxt d z true) := rfl
      have EB : ∀ w', SameOn All wr w' → Rows w' All 6 (HEx w' All d) bv bs := fun w' hw => g1.mono (SameOn.trans (SameOn.of_below hb) hw) (fun _ h => h) (fun _ _ _ h => h.mono (SameOn.trans (SameOn.of_below hb) hw) (fun _ h => h))
      have lb : (strOf (joinT [44, 32] (bs.map fun z => exTxt d z true))).size ≤ 52428800 := by
        rw [strOf_size]
        exact exs_bd (fun v hv => by obtain ⟨_, hv⟩ := rows_mem g1 v hv; exact hv.ints) sb wb true
      obtain ⟨p1, cap1, rfl, hcl1, hcm1, hx1⟩ := g0
      obtain ⟨g3, off3, rfl, -, hgl3, hat3⟩ := hx1 (by simp)
      obtain ⟨cs3, hcsl3, hcs3, r3⟩ := hat3 0 y rfl
      have ly := ex_bd r3 sy wy false
      have EP : ∀ w', SameOn All wr w' → HEx w' All d cs3 y := fun w' hw => r3.mono (SameOn.trans (SameOn.of_below hb) hw) (fun _ h => h)
      obtain ⟨d0, d1, d2, d3, d4, d5, rfl⟩ := len6 hcsl3
      have a0 := hcs2 0 (by omega)
      have a1 := hcs2 1 (by omega)
      rw [← hb.cell (p := ⟨g2, _, none⟩) hgl2] at a0 a1
      simp at a0 a1
      have e0 := hcs3 0 (by omega)
      have e1 := hcs3 1 (by omega)
      have e2 := hcs3 2 (by omega)
      have e3 := hcs3 3 (by omega)
      have e4 := hcs3 4 (by omega)
      have e5 := hcs3 5 (by omega)
      rw [← hb.cell (p := ⟨g3, _, none⟩) hgl3] at e0 e1 e2 e3 e4 e5
      simp at e0 e1 e2 e3 e4 e5
      have hki : (k : Int) < (m : Int) := by omega
      have hk0 : (0 : Int) ≤ (k : Int) := by omega
      have hgw2 : g2 < wr.heap.size := Nat.lt_of_lt_of_le hgl2 hb.size
      have hgw3 : g3 < wr.heap.size := Nat.lt_of_lt_of_le hgl3 hb.size
      have qx5 : ∀ m' : Wd (fun w' => SameOn All wr w' ∧ Below w.heap.size w w'), m'.val.cell? ⟨w.heap.size, 5, none⟩ = some (.slice (some ⟨g2, off2, none⟩) m cap') := fun m' => (World.cell?_of_block (m'.ok.1.2 w.heap.size trivial hlw)).trans xa5
      have qa0 : ∀ m' : Wd (fun w' => SameOn All wr w' ∧ Below w.heap.size w w'), m'.val.cell? ⟨g2, off2 + k * 2, none⟩ = some (.slice (some ⟨g3, off3, none⟩) 1 cap1) := fun m' => (World.cell?_of_block (m'.ok.1.2 g2 trivial hgw2)).trans a0
      have qa1 : ∀ m' : Wd (fun w' => SameOn All wr w' ∧ Below w.heap.size w w'), m'.val.cell? ⟨g2, off2 + k * 2 + 1, none⟩ = some bv := fun m' => (World.cell?_of_block (m'.ok.1.2 g2 trivial hgw2)).trans a1
      have qe0 : ∀ m' : Wd (fun w' => SameOn All wr w' ∧ Below w.heap.size w w'), m'.val.cell? ⟨g3, off3, none⟩ = some d0 := fun m' => (World.cell?_of_block (m'.ok.1.2 g3 trivial hgw3)).trans e0
      have qe1 : ∀ m' : Wd (fun w' => SameOn All wr w' ∧ Below w.heap.size w w'), m'.val.cell? ⟨g3, off3 + 1, none⟩ = some d1 := fun m' => (World.cell?_of_block (m'.ok.1.2 g3 trivial hgw3)).trans e1
      have qe2 : ∀ m' : Wd (fun w' => SameOn All wr w' ∧ Below w.heap.size w w'), m'.val.cell? ⟨g3, off3 + 2, none⟩ = some d2 := fun m' => (World.cell?_of_block (m'.ok.1.2 g3 trivial hgw3)).trans e2
      have qe3 : ∀ m' : Wd (fun w' => SameOn All wr w' ∧ Below w.heap.size w w'), m'.val.cell? ⟨g3, off3 + 3, none⟩ = some d3 := fun m' => (World.cell?_of_block (m'.ok.1.2 g3 trivial hgw3)).trans e3
      have qe4 : ∀ m' : Wd (fun w' => SameOn All wr w' ∧ Below w.heap.size w w'), m'.val.cell? ⟨g3, off3 + 4, none⟩ = some d4 := fun m' => (World.cell?_of_block (m'.ok.1.2 g3 trivial hgw3)).trans e4
      have qe5 : ∀ m' : Wd (fun w' => SameOn All wr w' ∧ Below w.heap.size w w'), m'.val.cell? ⟨g3, off3 + 5, none⟩ = some d5 := fun m' => (World.cell?_of_block (m'.ok.1.2 g3 trivial hgw3)).trans e5
      clear hb hcs2 hat2 hcsl2 hcs3 hat3 hcsl3 r3 hx1 g1
      by_cases hz : k = 0
      · have hz1 : ¬ (0 : Int) < (k : Int) := by omega
        have HJ : Hid (joinT [59, 32] ((cl.take (k + 1)).map (clTxt (exTxt d))) = exTxt d y false ++ [32, 45, 62, 32] ++ joinT [44, 32] (bs.map fun z => exTxt d z true)) := (joinT_first _ cl _ k hz _ hck).trans hct
        have HO : Hid (o.data.toList = [99, 97, 115, 101, 32] ++ exTxt d z false ++ [32, 111, 102, 32]) := by
          have := ho.out
          rw [hz] at this
          show _ = _
          simpa [joinT] using this
        clear hz hct hwc
        go_wp2
        have hCne : Nonempty (Wd (fun w' => SameOn All wr w' ∧ Below w.heap.size w w')) := ⟨⟨wr.drew, ⟨⟨Nat.le_refl _, fun _ _ _ => rfl⟩, HB.out.drew⟩⟩⟩
        refine wp_region_class (fun w' => SameOn All wr w' ∧ Below w.heap.size w w') (by kernel_rfl) (by kernel_rfl) ⟨⟨Nat.le_refl _, fun _ _ _ => rfl⟩, HB.out.drew⟩ ?_
        repeat (go_big_quiet_step (first | (rename_i m; go_at_call 72; refine (hE _ _ y false (EP _ m.ok.1) sy wy).mono ?_; rintro e w1 ⟨rfl, hb1⟩; exact ⟨rfl, ⟨⟨w1, ⟨(SameOn.trans m.ok.1 (SameOn.of_below hb1)), m.ok.2.trans (hb1.mono m.ok.2.size)⟩⟩, rfl⟩⟩) | (rename_i m; go_at_call 33; refine (hS _ _ bs true (EB _ m.ok.1) sb wb).mono ?_; rintro e w1 ⟨rfl, hb1⟩; exact ⟨rfl, ⟨⟨w1, ⟨(SameOn.trans m.ok.1 (SameOn.of_below hb1)), m.ok.2.trans (hb1.mono m.ok.2.size)⟩⟩, rfl⟩⟩)))
        refine wpQuiet_nil ?_
        rintro _ ⟨mq, rfl⟩
        have HB4 : Hid (Below w.heap.size w mq.val) := mq.ok.2
        have HS4 : Hid (SameOn All W1 mq.val) := hso.out.trans mq.ok.1
        generalize mq.val = w4 at HB4 HS4 ⊢
        go_wp2_with fail
        refine ⟨⟨k + 1, o ++ strOf (exTxt d y false) ++ ⟨#[32, 45, 62, 32]⟩ ++ strOf (joinT [44, 32] (bs.map fun z => exTxt d z true)), by omega, by go_num, rfl, ?_, HS4.out, HB4.out⟩, by simp [intOf]; omega⟩
        show _ = _
        rw [HJ.out]
        simp only [ByteArray.data_append, Array.toList_append, HO.out, strOf_data, List.append_assoc]
      · have hz1 : (0 : Int) < (k : Int) := by omega
        have HJ : Hid (joinT [59, 32] ((cl.take (k + 1)).map (clTxt (exTxt d))) = joinT [59, 32] ((cl.take k).map (clTxt (exTxt d))) ++ ([59, 32] ++ (exTxt d y false ++ [32, 45, 62, 32] ++ joinT [44, 32] (bs.map fun z => exTxt d z true)))) := by
          have := joinT_at (clTxt (exTxt d)) cl [59, 32] k _ hck hz
          rwa [hct] at this
        clear hct hwc
        go_wp2
        have hCne : Nonempty (Wd (fun w' => SameOn All wr w' ∧ Below w.heap.size w w')) := ⟨⟨wr.drew, ⟨⟨Nat.le_refl _, fun _ _ _ => rfl⟩, HB.out.drew⟩⟩⟩
        refine wp_region_class (fun w' => SameOn All wr w' ∧ Below w.heap.size w w') (by kernel_rfl) (by kernel_rfl) ⟨⟨Nat.le_refl _, fun _ _ _ => rfl⟩, HB.out.drew⟩ ?_
        repeat (go_big_quiet_step (first | (rename_i m; go_at_call 72; refine (hE _ _ y false (EP _ m.ok.1) sy wy).mono ?_; rintro e w1 ⟨rfl, hb1⟩; exact ⟨rfl, ⟨⟨w1, ⟨(SameOn.trans m.ok.1 (SameOn.of_below hb1)), m.ok.2.trans (hb1.mono m.ok.2.size)⟩⟩, rfl⟩⟩) | (rename_i m; go_at_call 33; refine (hS _ _ bs true (EB _ m.ok.1) sb wb).mono ?_; rintro e w1 ⟨rfl, hb1⟩; exact ⟨rfl, ⟨⟨w1, ⟨(SameOn.trans m.ok.1 (SameOn.of_below hb1)), m.ok.2.trans (hb1.mono m.ok.2.size)⟩⟩, rfl⟩⟩)))
        refine wpQuiet_nil ?_
        rintro _ ⟨mq, rfl⟩
        have HB4 : Hid (Below w.heap.size w mq.val) := mq.ok.2
        have HS4 : Hid (SameOn All W1 mq.val) := hso.out.trans mq.ok.1
        generalize mq.val = w4 at HB4 HS4 ⊢
        go_wp2_with fail
        refine ⟨⟨k + 1, o ++ ⟨#[59, 32]⟩ ++ strOf (exTxt d y false) ++ ⟨#[32, 45, 62, 32]⟩ ++ strOf (joinT [44, 32] (bs.map fun z => exTxt d z true)), by omega, by go_num, rfl, ?_, HS4.out, HB4.out⟩, by simp [intOf]; omega⟩
        show _ = _
        rw [HJ.out]
        simp only [ByteArray.data_append, Array.toList_append, ho.out, strOf_data, List.append_assoc]
    · have HS : Hid (o.data.toList = [99, 97, 115, 101, 32] ++ exTxt d z false ++ [32, 111, 102, 32] ++ joinT [59, 32] (cl.map (clTxt (exTxt d)))) := by
        have := ho.out
        rwa [List.take_of_length_le (by rw [HM.out]; omega)] at this
      clear hb
      go_wp2_with fail
      go_ret
      exact ⟨ret_strOf (by simp [ByteArray.data_append, HS.out]), HB.out⟩

end Go.Proofs.YtkomkhiinfdfmaaGreatDoor
