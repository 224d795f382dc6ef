/-
  The program's ValOk, by contract.
-/
import Derived.Test.YtafehfpjogbmfaaDoorValOkImpl
namespace Go.Proofs.YtafehfpjogbmfaaDoor
open Go.ChangeShapes Go.WideShapes Go.ChangeAt Go.RowKit
set_option linter.unusedVariables false

theorem fB_eq (k n : Int) (t : ByteArray) (es : List Va) : (scalB (.mk k n t es) && shapeB k t es.length) = fB k n t es.length := by
  have hs : scalB (.mk k n t es) = ((decide (k = 0) || decide (n = 0)) && (decide (k = 1) || decide (t.toList = []))) := rfl
  rw [hs]
  by_cases k0 : k = 0
  · subst k0; simp [shapeB, fB]
  by_cases k1 : k = 1
  · subst k1; by_cases hl : es.length = 0 <;> by_cases ha : atomB t = true <;> simp [shapeB, fB, hl, ha]
  by_cases k2 : k = 2
  · subst k2; simp [shapeB, fB, Bool.and_assoc]
  by_cases k3 : k = 3
  · subst k3; simp [shapeB, fB, Bool.and_assoc]
  by_cases k4 : k = 4
  · subst k4
    by_cases hl : es.length = 2 <;> by_cases hn : n = 0 <;> by_cases ht : t.toList = [] <;> simp [shapeB, fB, hl, hn, ht]
  · simp [shapeB, fB, k0, k1, k2, k3, k4]
theorem vaOk_eq (d : Nat) (k n : Int) (t : ByteArray) (es : List Va) (deep : Int) : vaOk (d + 1) (.mk k n t es) deep = (decide (0 ≤ deep) && fB k n t es.length && es.all (fun y => vaOk d y (deep - 1))) := by
  have hv : vaOk (d + 1) (.mk k n t es) deep = (decide (0 ≤ deep) && scalB (.mk k n t es) && es.all (fun y => vaOk d y (deep - 1)) && shapeB k t es.length) := rfl
  rw [hv, ← fB_eq]
  cases decide (0 ≤ deep) <;> cases scalB (.mk k n t es) <;> cases es.all (fun y => vaOk d y (deep - 1)) <;> cases shapeB k t es.length <;> rfl
theorem parts_numberValue (n : Int) (w : World) : Calls Tryd.prog 92 #[.agg #[.int .i64 n]] w fun e w' => e = .returned (.slice none 0 0) ∧ Below w.heap.size w w' := by
  go_enter Tryd.func92, Tryd.ntmps92
  go_wp2
  go_ret
  exact ⟨rfl, by first | exact Below.refl _ _ | exact (Below.refl _ _).alloc (Nat.le_refl _) _⟩
theorem parts_atomValue (t : ByteArray) (w : World) : Calls Tryd.prog 93 #[.agg #[.string t]] w fun e w' => e = .returned (.slice none 0 0) ∧ Below w.heap.size w w' := by
  go_enter Tryd.func93, Tryd.ntmps93
  go_wp2
  go_ret
  exact ⟨rfl, by first | exact Below.refl _ _ | exact (Below.refl _ _).alloc (Nat.le_refl _) _⟩
theorem parts_nilValue  (w : World) : Calls Tryd.prog 95 #[.agg #[]] w fun e w' => e = .returned (.slice none 0 0) ∧ Below w.heap.size w w' := by
  go_enter Tryd.func95, Tryd.ntmps95
  go_wp2
  go_ret
  exact ⟨rfl, by first | exact Below.refl _ _ | exact (Below.refl _ _).alloc (Nat.le_refl _) _⟩
theorem parts_tupleValue (p : Option Addr) (l c : Nat) (w : World) : Calls Tryd.prog 94 #[.agg #[.slice p l c]] w fun e w' => e = .returned (.slice p l c) ∧ Below w.heap.size w w' := by
  go_enter Tryd.func94, Tryd.ntmps94
  go_wp2
  go_ret
  exact ⟨rfl, (Below.refl _ _).alloc (Nat.le_refl _) _⟩

/-- A function of a value and of how deep it lies. -/
def OkC (d : Nat) : Prop :=
  ∀ (w : World) (cs : List Value) (x : Va) (deep : Int), KeysAt w → HVa w All d cs x → 0 ≤ deep → deep ≤ 201 → Calls Tryd.prog 23 #[.agg cs.toArray, .int .i64 deep] w fun e w' => e = .returned (.bool (vaOk d x (200 - deep))) ∧ Below w.heap.size w w'

theorem parts_consValue (p : Option Addr) (l c : Nat) (w : World) : Calls Tryd.prog 96 #[.agg #[.slice p l c]] w fun e w' => e = .returned (.slice p l c) ∧ Below w.heap.size w w' := by
  go_enter Tryd.func96, Tryd.ntmps96
  go_wp2
  go_ret
  exact ⟨rfl, (Below.refl _ _).alloc (Nat.le_refl _) _⟩

theorem KeysAt.below {w w' : World} (h : KeysAt w) (hb : Below w.heap.size w w') : KeysAt w' := ⟨cell_next hb h.1, cell_next hb h.2.1, cell_next hb h.2.2⟩

theorem fields_any (k n : Int) (t : ByteArray) (p : Option Addr) (l c : Nat) (w : World) (hlb : l ≤ 9223372036854775807) (hts : t.size ≤ maxLen) (hk : KeysAt w) : Calls Tryd.prog 34 #[.agg #[.int .i64 k, .int .i64 n, .string t, .slice p l c]] w fun e w' => e = .returned (.bool (fB k n t l)) ∧ Below w.heap.size w w' := by
  by_cases k0 : k = 0
  · subst k0; exact fields0 n t p l c w hlb hts hk
  by_cases k1 : k = 1
  · subst k1; exact fields1 n t p l c w hlb hts hk
  by_cases k2 : k = 2
  · subst k2; exact fields2 n t p l c w hlb hts hk
  by_cases k3 : k = 3
  · subst k3; exact fields3 n t p l c w hlb hts hk
  by_cases k4 : k = 4
  · subst k4; exact fields4 n t p l c w hlb hts hk
  · exact fieldsS k n t p l c w hlb hts hk k0 k1 k2 k3 k4

set_option maxHeartbeats 8000000 in
set_option maxRecDepth 100000 in
theorem ok_walk2 {d : Nat} (hE : OkC d) (w : World) (n : Int) (t : ByteArray) (p : Option Addr) (nn c : Nat) (es : List Va) (deep : Int) (HN : Hid (es.length = nn)) (hnb : nn ≤ 9223372036854775807) (hts : t.size ≤ maxLen) (hk : KeysAt w)
    (HX : Hid (es ≠ [] → ∃ g off, p = some ⟨g, off, none⟩ ∧ All g ∧ g < w.heap.size ∧ ∀ i x, es[i]? = some x → ∃ cs, cs.length = 4 ∧ (∀ j, j < 4 → w.cell? ⟨g, off + i * 4 + j, none⟩ = cs[j]?) ∧ HVa w All d cs x)) (h0 : 0 ≤ deep) (h1 : deep ≤ 200) (hf : fB 2 n t nn = true) :
    Calls Tryd.prog 23 #[.agg #[.int .i64 2, .int .i64 n, .string t, .slice p nn c], .int .i64 deep] w fun e w' => e = .returned (.bool (es.all (fun y => vaOk d y (200 - (deep + 1))))) ∧ Below w.heap.size w w' := by
  have HK : Hid (KeysAt w) := hk
  have HF : Hid (fB 2 n t nn = true) := hf
  have hm := me_tupleValue
  clear hk hf
  go_enter Tryd.func23, Tryd.ntmps23
  go_wp2_with fail
  have K0 : KeysAt (w.alloc (.cells #[.int .i64 2, .int .i64 n, .string t, .slice p nn c] 24)) := HK.out.below ((Below.refl _ _).alloc (Nat.le_refl _) _)
  refine (fields_any 2 n t p nn c _ hnb hts K0).mono ?_
  rintro e w1 ⟨rfl, hb⟩
  rw [HF.out]
  have B1 : Hid (Below w.heap.size w w1) := ((Below.refl _ _).alloc (Nat.le_refl _) _).trans (hb.mono (by simp))
  have hbk := Blk.next (Blk.new (w := w) (cs := #[.int .i64 2, .int .i64 n, .string t, .slice p nn c]) (t := 24)) hb
  have a0 := hbk.cell 0 _ rfl
  have a1 := hbk.cell 1 _ rfl
  have a2 := hbk.cell 2 _ rfl
  have a3 := hbk.cell 3 _ rfl
  clear hb hbk K0
  go_wp2_with fail
  refine (vof2 n t p nn c _).mono ?_
  rintro e w2 ⟨rfl, hb⟩
  have B2 : Hid (Below w.heap.size w w2) := B1.out.trans (hb.mono B1.out.size)
  clear hb a0 a1 a2 a3
  go_wp2_with fail
  refine (parts_tupleValue _ _ _ _).mono ?_
  rintro e w3 ⟨rfl, hb⟩
  have B3 : Hid (Below w.heap.size w w3) := B2.out.trans (hb.mono B2.out.size)
  clear hb
  go_wp2_with fail
  go_loopw [18] (fun iv wr => ∃ k : Nat, k ≤ nn ∧ iv = .int .i64 k ∧ Hid ((es.take k).all (fun y => vaOk d y (200 - (deep + 1))) = true) ∧ Below w.heap.size w wr) (fun iv _ => nn - (intOf iv).toNat)
  case atStart => exact ⟨0, Nat.zero_le _, rfl, rfl, B3.out⟩
  case round =>
    obtain ⟨k, hk, rfl, hall, hb⟩ := hrel
    have HB : Hid (Below w.heap.size w wr) := hb
    by_cases hlt : k < nn
    · obtain ⟨x, hxk⟩ : ∃ x, es[k]? = some x := ⟨es[k]'(by rw [HN.out]; exact hlt), List.getElem?_eq_getElem _⟩
      obtain ⟨g, off, rfl, -, hgl, hat⟩ := HX.out (by intro h; rw [h] at hxk; simp at hxk)
      obtain ⟨cs, hcs4, hcs, r1⟩ := hat k x hxk
      obtain ⟨sk, sn, st, p1, n1, q1, rfl⟩ := r1.shape
      have E1 : ∀ w', Below w.heap.size w w' → HVa w' All d [.int .i64 sk, .int .i64 sn, .string st, .slice p1 n1 q1] x := fun w' hw => r1.mono (SameOn.of_below hw) (fun _ h => h)
      have a0 := hcs 0 (by omega)
      have a1 := hcs 1 (by omega)
      have a2 := hcs 2 (by omega)
      have a3 := hcs 3 (by omega)
      rw [← hb.cell (p := ⟨g, _, none⟩) hgl] at a0 a1 a2 a3
      simp at a0 a1 a2 a3
      have hki : (k : Int) < (nn : Int) := by omega
      have hk0 : (0 : Int) ≤ (k : Int) := by omega
      clear hb hcs hat hcs4 r1
      generalize hcv : vaOk d x (200 - (deep + 1)) = cv
      have HCV : Hid (vaOk d x (200 - (deep + 1)) = cv) := hcv
      have HBA : Hid (Below w.heap.size w (wr.alloc (.cells #[.int .i64 sk, .int .i64 sn, .string st, .slice p1 n1 q1] 24))) := HB.out.alloc HB.out.size _
      cases cv with
      | true =>
        clear hcv
        go_wp2_with fail
        refine (hE _ _ x (deep + 1) (HK.out.below HBA.out) (E1 _ HBA.out) (by omega) (by omega)).mono ?_
        rintro e w4 ⟨rfl, hb4⟩
        rw [HCV.out]
        have HB4 : Hid (Below w.heap.size w w4) := HBA.out.trans (hb4.mono HBA.out.size)
        clear hb4
        go_wp2_with fail
        exact ⟨⟨k + 1, by omega, by go_num, all_take_succ _ es k x hxk hall.out HCV.out, HB4.out⟩, by simp [intOf]; omega⟩
      | false =>
        have HS : Hid (es.all (fun y => vaOk d y (200 - (deep + 1))) = false) := all_at_false _ es k x hxk hcv
        clear hcv
        go_wp2_with fail
        refine (hE _ _ x (deep + 1) (HK.out.below HBA.out) (E1 _ HBA.out) (by omega) (by omega)).mono ?_
        rintro e w4 ⟨rfl, hb4⟩
        rw [HCV.out]
        have HB4 : Hid (Below w.heap.size w w4) := HBA.out.trans (hb4.mono HBA.out.size)
        clear hb4
        go_wp2_with fail
        go_ret
        exact ⟨by rw [HS.out]; rfl, HB4.out⟩
    · have HS : Hid (es.all (fun y => vaOk d y (200 - (deep + 1))) = true) := by
        have := hall.out
        rwa [List.take_of_length_le (by rw [HN.out]; omega)] at this
      clear hb
      go_wp2_with fail
      go_ret
      exact ⟨by rw [HS.out]; rfl, HB.out⟩

set_option maxHeartbeats 8000000 in
set_option maxRecDepth 100000 in
theorem ok_walk4 {d : Nat} (hE : OkC d) (w : World) (n : Int) (t : ByteArray) (p : Option Addr) (nn c : Nat) (es : List Va) (deep : Int) (HN : Hid (es.length = nn)) (hnb : nn ≤ 9223372036854775807) (hts : t.size ≤ maxLen) (hk : KeysAt w)
    (HX : Hid (es ≠ [] → ∃ g off, p = some ⟨g, off, none⟩ ∧ All g ∧ g < w.heap.size ∧ ∀ i x, es[i]? = some x → ∃ cs, cs.length = 4 ∧ (∀ j, j < 4 → w.cell? ⟨g, off + i * 4 + j, none⟩ = cs[j]?) ∧ HVa w All d cs x)) (h0 : 0 ≤ deep) (h1 : deep ≤ 200) (hf : fB 4 n t nn = true) :
    Calls Tryd.prog 23 #[.agg #[.int .i64 4, .int .i64 n, .string t, .slice p nn c], .int .i64 deep] w fun e w' => e = .returned (.bool (es.all (fun y => vaOk d y (200 - (deep + 1))))) ∧ Below w.heap.size w w' := by
  have HK : Hid (KeysAt w) := hk
  have HF : Hid (fB 4 n t nn = true) := hf
  have hm := me_consValue
  clear hk hf
  go_enter Tryd.func23, Tryd.ntmps23
  go_wp2_with fail
  have K0 : KeysAt (w.alloc (.cells #[.int .i64 4, .int .i64 n, .string t, .slice p nn c] 24)) := HK.out.below ((Below.refl _ _).alloc (Nat.le_refl _) _)
  refine (fields_any 4 n t p nn c _ hnb hts K0).mono ?_
  rintro e w1 ⟨rfl, hb⟩
  rw [HF.out]
  have B1 : Hid (Below w.heap.size w w1) := ((Below.refl _ _).alloc (Nat.le_refl _) _).trans (hb.mono (by simp))
  have hbk := Blk.next (Blk.new (w := w) (cs := #[.int .i64 4, .int .i64 n, .string t, .slice p nn c]) (t := 24)) hb
  have a0 := hbk.cell 0 _ rfl
  have a1 := hbk.cell 1 _ rfl
  have a2 := hbk.cell 2 _ rfl
  have a3 := hbk.cell 3 _ rfl
  clear hb hbk K0
  go_wp2_with fail
  refine (vof4 n t p nn c _).mono ?_
  rintro e w2 ⟨rfl, hb⟩
  have B2 : Hid (Below w.heap.size w w2) := B1.out.trans (hb.mono B1.out.size)
  clear hb a0 a1 a2 a3
  go_wp2_with fail
  refine (parts_consValue _ _ _ _).mono ?_
  rintro e w3 ⟨rfl, hb⟩
  have B3 : Hid (Below w.heap.size w w3) := B2.out.trans (hb.mono B2.out.size)
  clear hb
  go_wp2_with fail
  go_loopw [18] (fun iv wr => ∃ k : Nat, k ≤ nn ∧ iv = .int .i64 k ∧ Hid ((es.take k).all (fun y => vaOk d y (200 - (deep + 1))) = true) ∧ Below w.heap.size w wr) (fun iv _ => nn - (intOf iv).toNat)
  case atStart => exact ⟨0, Nat.zero_le _, rfl, rfl, B3.out⟩
  case round =>
    obtain ⟨k, hk, rfl, hall, hb⟩ := hrel
    have HB : Hid (Below w.heap.size w wr) := hb
    by_cases hlt : k < nn
    · obtain ⟨x, hxk⟩ : ∃ x, es[k]? = some x := ⟨es[k]'(by rw [HN.out]; exact hlt), List.getElem?_eq_getElem _⟩
      obtain ⟨g, off, rfl, -, hgl, hat⟩ := HX.out (by intro h; rw [h] at hxk; simp at hxk)
      obtain ⟨cs, hcs4, hcs, r1⟩ := hat k x hxk
      obtain ⟨sk, sn, st, p1, n1, q1, rfl⟩ := r1.shape
      have E1 : ∀ w', Below w.heap.size w w' → HVa w' All d [.int .i64 sk, .int .i64 sn, .string st, .slice p1 n1 q1] x := fun w' hw => r1.mono (SameOn.of_below hw) (fun _ h => h)
      have a0 := hcs 0 (by omega)
      have a1 := hcs 1 (by omega)
      have a2 := hcs 2 (by omega)
      have a3 := hcs 3 (by omega)
      rw [← hb.cell (p := ⟨g, _, none⟩) hgl] at a0 a1 a2 a3
      simp at a0 a1 a2 a3
      have hki : (k : Int) < (nn : Int) := by omega
      have hk0 : (0 : Int) ≤ (k : Int) := by omega
      clear hb hcs hat hcs4 r1
      generalize hcv : vaOk d x (200 - (deep + 1)) = cv
      have HCV : Hid (vaOk d x (200 - (deep + 1)) = cv) := hcv
      have HBA : Hid (Below w.heap.size w (wr.alloc (.cells #[.int .i64 sk, .int .i64 sn, .string st, .slice p1 n1 q1] 24))) := HB.out.alloc HB.out.size _
      cases cv with
      | true =>
        clear hcv
        go_wp2_with fail
        refine (hE _ _ x (deep + 1) (HK.out.below HBA.out) (E1 _ HBA.out) (by omega) (by omega)).mono ?_
        rintro e w4 ⟨rfl, hb4⟩
        rw [HCV.out]
        have HB4 : Hid (Below w.heap.size w w4) := HBA.out.trans (hb4.mono HBA.out.size)
        clear hb4
        go_wp2_with fail
        exact ⟨⟨k + 1, by omega, by go_num, all_take_succ _ es k x hxk hall.out HCV.out, HB4.out⟩, by simp [intOf]; omega⟩
      | false =>
        have HS : Hid (es.all (fun y => vaOk d y (200 - (deep + 1))) = false) := all_at_false _ es k x hxk hcv
        clear hcv
        go_wp2_with fail
        refine (hE _ _ x (deep + 1) (HK.out.below HBA.out) (E1 _ HBA.out) (by omega) (by omega)).mono ?_
        rintro e w4 ⟨rfl, hb4⟩
        rw [HCV.out]
        have HB4 : Hid (Below w.heap.size w w4) := HBA.out.trans (hb4.mono HBA.out.size)
        clear hb4
        go_wp2_with fail
        go_ret
        exact ⟨by rw [HS.out]; rfl, HB4.out⟩
    · have HS : Hid (es.all (fun y => vaOk d y (200 - (deep + 1))) = true) := by
        have := hall.out
        rwa [List.take_of_length_le (by rw [HN.out]; omega)] at this
      clear hb
      go_wp2_with fail
      go_ret
      exact ⟨by rw [HS.out]; rfl, HB.out⟩

set_option maxHeartbeats 8000000 in
set_option maxRecDepth 100000 in
theorem ok_walk0 {d : Nat} (hE : OkC d) (w : World) (n : Int) (t : ByteArray) (p : Option Addr) (nn c : Nat) (deep : Int) (hnb : nn ≤ 9223372036854775807) (hts : t.size ≤ maxLen) (hk : KeysAt w) (h0 : 0 ≤ deep) (h1 : deep ≤ 200) (hf : fB 0 n t nn = true) :
    Calls Tryd.prog 23 #[.agg #[.int .i64 0, .int .i64 n, .string t, .slice p nn c], .int .i64 deep] w fun e w' => e = .returned (.bool true) ∧ Below w.heap.size w w' := by
  have HK : Hid (KeysAt w) := hk
  have HF : Hid (fB 0 n t nn = true) := hf
  have hm := me_numberValue
  clear hk hf
  go_enter Tryd.func23, Tryd.ntmps23
  go_wp2_with fail
  have K0 : KeysAt (w.alloc (.cells #[.int .i64 0, .int .i64 n, .string t, .slice p nn c] 24)) := HK.out.below ((Below.refl _ _).alloc (Nat.le_refl _) _)
  refine (fields_any 0 n t p nn c _ hnb hts K0).mono ?_
  rintro e w1 ⟨rfl, hb⟩
  rw [HF.out]
  have B1 : Hid (Below w.heap.size w w1) := ((Below.refl _ _).alloc (Nat.le_refl _) _).trans (hb.mono (by simp))
  have hbk := Blk.next (Blk.new (w := w) (cs := #[.int .i64 0, .int .i64 n, .string t, .slice p nn c]) (t := 24)) hb
  have a0 := hbk.cell 0 _ rfl
  have a1 := hbk.cell 1 _ rfl
  have a2 := hbk.cell 2 _ rfl
  have a3 := hbk.cell 3 _ rfl
  clear hb hbk K0
  go_wp2_with fail
  refine (vof0 n t p nn c _).mono ?_
  rintro e w2 ⟨rfl, hb⟩
  have B2 : Hid (Below w.heap.size w w2) := B1.out.trans (hb.mono B1.out.size)
  clear hb a0 a1 a2 a3
  go_wp2_with fail
  refine (parts_numberValue _ _).mono ?_
  rintro e w3 ⟨rfl, hb⟩
  have B3 : Hid (Below w.heap.size w w3) := B2.out.trans (hb.mono B2.out.size)
  clear hb
  go_wp2_with fail
  go_loopw [18] (fun iv wr => iv = .int .i64 0 ∧ Below w.heap.size w wr) (fun _ _ => 0)
  case atStart => exact ⟨rfl, B3.out⟩
  case round =>
    obtain ⟨rfl, hb⟩ := hrel
    have HB : Hid (Below w.heap.size w wr) := hb
    clear hb
    go_wp2_with fail
    go_ret
    exact ⟨rfl, HB.out⟩

set_option maxHeartbeats 8000000 in
set_option maxRecDepth 100000 in
theorem ok_walk1 {d : Nat} (hE : OkC d) (w : World) (n : Int) (t : ByteArray) (p : Option Addr) (nn c : Nat) (deep : Int) (hnb : nn ≤ 9223372036854775807) (hts : t.size ≤ maxLen) (hk : KeysAt w) (h0 : 0 ≤ deep) (h1 : deep ≤ 200) (hf : fB 1 n t nn = true) :
    Calls Tryd.prog 23 #[.agg #[.int .i64 1, .int .i64 n, .string t, .slice p nn c], .int .i64 deep] w fun e w' => e = .returned (.bool true) ∧ Below w.heap.size w w' := by
  have HK : Hid (KeysAt w) := hk
  have HF : Hid (fB 1 n t nn = true) := hf
  have hm := me_atomValue
  clear hk hf
  go_enter Tryd.func23, Tryd.ntmps23
  go_wp2_with fail
  have K0 : KeysAt (w.alloc (.cells #[.int .i64 1, .int .i64 n, .string t, .slice p nn c] 24)) := HK.out.below ((Below.refl _ _).alloc (Nat.le_refl _) _)
  refine (fields_any 1 n t p nn c _ hnb hts K0).mono ?_
  rintro e w1 ⟨rfl, hb⟩
  rw [HF.out]
  have B1 : Hid (Below w.heap.size w w1) := ((Below.refl _ _).alloc (Nat.le_refl _) _).trans (hb.mono (by simp))
  have hbk := Blk.next (Blk.new (w := w) (cs := #[.int .i64 1, .int .i64 n, .string t, .slice p nn c]) (t := 24)) hb
  have a0 := hbk.cell 0 _ rfl
  have a1 := hbk.cell 1 _ rfl
  have a2 := hbk.cell 2 _ rfl
  have a3 := hbk.cell 3 _ rfl
  clear hb hbk K0
  go_wp2_with fail
  refine (vof1 n t p nn c _).mono ?_
  rintro e w2 ⟨rfl, hb⟩
  have B2 : Hid (Below w.heap.size w w2) := B1.out.trans (hb.mono B1.out.size)
  clear hb a0 a1 a2 a3
  go_wp2_with fail
  refine (parts_atomValue _ _).mono ?_
  rintro e w3 ⟨rfl, hb⟩
  have B3 : Hid (Below w.heap.size w w3) := B2.out.trans (hb.mono B2.out.size)
  clear hb
  go_wp2_with fail
  go_loopw [18] (fun iv wr => iv = .int .i64 0 ∧ Below w.heap.size w wr) (fun _ _ => 0)
  case atStart => exact ⟨rfl, B3.out⟩
  case round =>
    obtain ⟨rfl, hb⟩ := hrel
    have HB : Hid (Below w.heap.size w wr) := hb
    clear hb
    go_wp2_with fail
    go_ret
    exact ⟨rfl, HB.out⟩

set_option maxHeartbeats 8000000 in
set_option maxRecDepth 100000 in
theorem ok_walk3 {d : Nat} (hE : OkC d) (w : World) (n : Int) (t : ByteArray) (p : Option Addr) (nn c : Nat) (deep : Int) (hnb : nn ≤ 9223372036854775807) (hts : t.size ≤ maxLen) (hk : KeysAt w) (h0 : 0 ≤ deep) (h1 : deep ≤ 200) (hf : fB 3 n t nn = true) :
    Calls Tryd.prog 23 #[.agg #[.int .i64 3, .int .i64 n, .string t, .slice p nn c], .int .i64 deep] w fun e w' => e = .returned (.bool true) ∧ Below w.heap.size w w' := by
  have HK : Hid (KeysAt w) := hk
  have HF : Hid (fB 3 n t nn = true) := hf
  have hm := me_nilValue
  clear hk hf
  go_enter Tryd.func23, Tryd.ntmps23
  go_wp2_with fail
  have K0 : KeysAt (w.alloc (.cells #[.int .i64 3, .int .i64 n, .string t, .slice p nn c] 24)) := HK.out.below ((Below.refl _ _).alloc (Nat.le_refl _) _)
  refine (fields_any 3 n t p nn c _ hnb hts K0).mono ?_
  rintro e w1 ⟨rfl, hb⟩
  rw [HF.out]
  have B1 : Hid (Below w.heap.size w w1) := ((Below.refl _ _).alloc (Nat.le_refl _) _).trans (hb.mono (by simp))
  have hbk := Blk.next (Blk.new (w := w) (cs := #[.int .i64 3, .int .i64 n, .string t, .slice p nn c]) (t := 24)) hb
  have a0 := hbk.cell 0 _ rfl
  have a1 := hbk.cell 1 _ rfl
  have a2 := hbk.cell 2 _ rfl
  have a3 := hbk.cell 3 _ rfl
  clear hb hbk K0
  go_wp2_with fail
  refine (vof3 n t p nn c _).mono ?_
  rintro e w2 ⟨rfl, hb⟩
  have B2 : Hid (Below w.heap.size w w2) := B1.out.trans (hb.mono B1.out.size)
  clear hb a0 a1 a2 a3
  go_wp2_with fail
  refine (parts_nilValue _).mono ?_
  rintro e w3 ⟨rfl, hb⟩
  have B3 : Hid (Below w.heap.size w w3) := B2.out.trans (hb.mono B2.out.size)
  clear hb
  go_wp2_with fail
  go_loopw [18] (fun iv wr => iv = .int .i64 0 ∧ Below w.heap.size w wr) (fun _ _ => 0)
  case atStart => exact ⟨rfl, B3.out⟩
  case round =>
    obtain ⟨rfl, hb⟩ := hrel
    have HB : Hid (Below w.heap.size w wr) := hb
    clear hb
    go_wp2_with fail
    go_ret
    exact ⟨rfl, HB.out⟩

set_option maxHeartbeats 8000000 in
theorem ok_of {d : Nat} (hE : OkC d) : OkC (d + 1) := by
  intro w cs x deep hk h h0 h1
  obtain ⟨kv, rfl, -, -, hts, f0⟩ := h
  obtain ⟨kx, nx, tx, es⟩ := x
  simp only [Va.kind, Va.n, Va.text, Va.kids] at *
  obtain ⟨p, cap, rfl, hcl, hcm, hx⟩ := f0
  have hlb : es.length ≤ 9223372036854775807 := by unfold maxLen at hcm; omega
  have hr : Rows w All 4 (HVa w All d) (.slice p es.length cap) es := ⟨p, cap, rfl, hcl, hcm, hx⟩
  have hv := vaOk_eq d kx nx tx es (200 - deep)
  by_cases c1 : deep ≤ 200
  · rw [decide_eq_true (by omega)] at hv
    cases hf : fB kx nx tx es.length with
    | true =>
      rw [hf] at hv
      simp only [Bool.and_self, Bool.true_and] at hv
      have e1 : 200 - deep - 1 = 200 - (deep + 1) := by omega
      rw [e1] at hv
      rw [hv]
      by_cases k2 : kx = 2
      · subst k2
        exact ok_walk2 hE w nx tx p es.length cap es deep rfl hlb hts hk hx h0 c1 hf
      by_cases k4 : kx = 4
      · subst k4
        exact ok_walk4 hE w nx tx p es.length cap es deep rfl hlb hts hk hx h0 c1 hf
      by_cases k0 : kx = 0
      · subst k0
        have hz : es = [] := by simp [fB] at hf; exact hf.2
        subst hz
        exact ok_walk0 hE w nx tx p 0 cap deep (by omega) hts hk h0 c1 hf
      by_cases k1 : kx = 1
      · subst k1
        have hz : es = [] := by simp [fB] at hf; exact hf.2.2
        subst hz
        exact ok_walk1 hE w nx tx p 0 cap deep (by omega) hts hk h0 c1 hf
      by_cases k3 : kx = 3
      · subst k3
        have hz : es = [] := by simp [fB] at hf; exact hf.2.2
        subst hz
        exact ok_walk3 hE w nx tx p 0 cap deep (by omega) hts hk h0 c1 hf
      · simp [fB, k0, k1, k2, k3, k4] at hf
    | false =>
      rw [hf] at hv
      have HS : Hid (vaOk (d + 1) (.mk kx nx tx es) (200 - deep) = false) := by show _ = _; rw [hv]; simp
      have HF : Hid (fB kx nx tx es.length = false) := hf
      have K0 : Hid (KeysAt (w.alloc (.cells #[.int .i64 kx, .int .i64 nx, .string tx, .slice p es.length cap] 24))) := hk.below ((Below.refl _ _).alloc (Nat.le_refl _) _)
      clear hv hf hk hr hx
      go_enter Tryd.func23, Tryd.ntmps23
      go_wp2_with fail
      refine (fields_any kx nx tx p es.length cap _ hlb hts K0.out).mono ?_
      rintro e w1 ⟨rfl, hb⟩
      rw [HF.out]
      have B1 : Hid (Below w.heap.size w w1) := ((Below.refl _ _).alloc (Nat.le_refl _) _).trans (hb.mono (by simp))
      clear hb
      go_wp2_with fail
      go_ret
      exact ⟨by rw [HS.out]; rfl, B1.out⟩
  · have HS : Hid (vaOk (d + 1) (.mk kx nx tx es) (200 - deep) = false) := by show _ = _; rw [hv, decide_eq_false (by omega)]; rfl
    have c2 : 200 < deep := by omega
    clear hv hk hr hx
    go_enter Tryd.func23, Tryd.ntmps23
    go_wp2_with fail
    go_ret
    exact ⟨by rw [HS.out]; rfl, (Below.refl _ _).alloc (Nat.le_refl _) _⟩

theorem ok_all : ∀ d, OkC d
  | 0 => fun w cs x deep _ h _ _ => h.elim
  | d + 1 => ok_of (ok_all d)

/-- THE PROGRAM's ValOk. -/
theorem implValOk_any (d : Nat) (w : World) (cs : List Value) (x : Va) (hk : KeysAt w) (h : HVa w All d cs x) :
    Calls Tryd.prog 12 #[.agg cs.toArray] w fun e w' => e = .returned (.bool (vaOk d x 200)) ∧ Below w.heap.size w w' := by
  obtain ⟨kk, nn, s, p, l, c, rfl⟩ := h.shape
  have BL : Hid (Below w.heap.size w (w.alloc (.cells #[.int .i64 kk, .int .i64 nn, .string s, .slice p l c] 24))) := (Below.refl _ _).alloc (Nat.le_refl _) _
  have HH : Hid (HVa (w.alloc (.cells #[.int .i64 kk, .int .i64 nn, .string s, .slice p l c] 24)) All d [.int .i64 kk, .int .i64 nn, .string s, .slice p l c] x) := h.mono (SameOn.of_below BL.out) (fun _ h => h)
  have K0 : Hid (KeysAt (w.alloc (.cells #[.int .i64 kk, .int .i64 nn, .string s, .slice p l c] 24))) := hk.below BL.out
  clear h hk
  go_enter Tryd.func12, Tryd.ntmps12
  go_wp2_with fail
  refine (ok_all d _ _ x 0 K0.out HH.out (by omega) (by omega)).mono ?_
  rintro e w1 ⟨rfl, hb⟩
  have HB1 : Hid (Below w.heap.size w w1) := BL.out.trans (hb.mono BL.out.size)
  clear hb
  go_wp2_with fail
  go_ret
  exact ⟨rfl, HB1.out⟩
end Go.Proofs.YtafehfpjogbmfaaDoor
