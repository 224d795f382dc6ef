/-
  The program's Show, by contract: rows of texts, joined.
-/
import Derived.Test.YtkomkhiinfdfmaaGreatDoorShowSpec
import Derived.Test.YtkomkhiinfdfmaaGreatDoorStrRow
import Derived.Test.YtkomkhiinfdfmaaGreatDoorImplDec
import Derived.Test.YtkomkhiinfdfmaaGreatDoorShelf
import Derived.Test.YtkomkhiinfdfmaaGreatDoorModOkImplB
namespace Go.Proofs.YtkomkhiinfdfmaaGreatDoor
open Go.ChangeShapes Go.WideShapes Go.ChangeAt Go.RowKit
set_option linter.unusedVariables false

theorem join_eq (sep : List UInt8) : ∀ xs : List (List UInt8), Lib.join xs sep = joinT sep xs
  | [] => by simp [Lib.join, joinT]
  | [x] => by simp [Lib.join, joinT, List.intercalate, List.intersperse]
  | x :: y :: xs => by
    have := join_eq sep (y :: xs)
    simp only [Lib.join, List.intercalate, List.intersperse] at this ⊢
    simp only [joinT, List.map_cons, List.flatten_cons] at this ⊢
    rw [this]
    simp

theorem one_strS (W : World) (s : ByteArray) (g : Nat) (hg : g = W.heap.size) : ∀ j u, (strs [s])[j]? = some u → (W.alloc (.cells #[.string s] 9)).cell? ((⟨g, 0, none⟩ : Addr).add j) = some u := by
  subst hg
  intro j u h
  match j, h with
  | 0, h => simp [strs] at h; subst h; rw [Addr.add]; exact cell_new W _ _ 0 _ rfl

/-- Join of a row that the call owns. -/
theorem joinOwn (w : World) (B : Nat) (v : Value) (l : List ByteArray) (sep : ByteArray) (h : OwnS w B v l) (hN : l.length ≤ 140737488355328) (hlen : (joinT sep.data.toList (l.map (·.data.toList))).length ≤ 140737488355328) :
    Calls Tryz.prog 38 #[v, .string sep] w fun e w' => e = .returned (.string (strOf (joinT sep.data.toList (l.map (·.data.toList))))) ∧ Below w.heap.size w w' := by
  have h' := h
  obtain ⟨h1, hB⟩ := h
  rcases h1.2 with ⟨rfl, hn⟩ | ⟨g, cap, cur, rfl, hgB, hg, g1, g2, g3, g4⟩
  · obtain rfl := List.length_eq_zero_iff.1 hn
    refine (Tryz.strings_Join_none none 0 sep w).mono ?_
    rintro e w' ⟨rfl, hw⟩
    rw [hw]
    exact ⟨rfl, Below.refl _ _⟩
  · refine (Tryz.strings_Join g 0 cap l sep w (fun j x hj => ?_) (Array.getElem?_eq_some_iff.1 hg).1 hN g1 (by rw [join_eq]; exact hlen)).mono ?_
    · rw [Nat.zero_add]
      exact (h1.cellAt j (by have := (List.getElem?_eq_some_iff.1 hj).1; omega)).trans (by simp [strs, hj])
    · rintro e w' ⟨rfl, hb⟩
      exact ⟨by rw [join_eq]; rfl, hb⟩

def IxC (d : Nat) : Prop :=
  ∀ (w : World) (cs : List Value) (x : Ex), HEx w All d cs x → shp d x = true → wtEx d x ≤ 1048576 → PowAt w → Calls Tryz.prog 111 #[.agg cs.toArray] w fun e w' => e = .returned (.string (strOf (exTxt d x true))) ∧ Below w.heap.size w w'
def InC (d : Nat) : Prop :=
  ∀ (w : World) (cs : List Value) (x : Ex), HEx w All d cs x → shp d x = true → wtEx d x ≤ 1048576 → PowAt w → Calls Tryz.prog 110 #[.agg cs.toArray] w fun e w' => e = .returned (.string (strOf (exTxt d x false))) ∧ Below w.heap.size w w'
def ItC (d : Nat) : Prop :=
  ∀ (w : World) (v : Value) (es : List Ex), Rows w All 6 (HEx w All d) v es → es.all (shp d) = true → wtS (wtEx d) es ≤ 1048576 → PowAt w → Calls Tryz.prog 80 #[v] w fun e w' => e = .returned (.string (strOf (joinT [44, 32] (es.map fun y => exTxt d y false)))) ∧ Below w.heap.size w w'
def BtC (d : Nat) : Prop :=
  ∀ (w : World) (v : Value) (es : List Ex), Rows w All 6 (HEx w All d) v es → es.all (shp d) = true → wtS (wtEx d) es ≤ 1048576 → PowAt w → Calls Tryz.prog 81 #[v] w fun e w' => e = .returned (.string (strOf (joinT [44, 32] (es.map fun y => exTxt d y true)))) ∧ Below w.heap.size w w'
theorem len_wtS {α : Type} (f : α → Nat) : ∀ es : List α, es.length ≤ wtS f es := fun es => by unfold wtS; omega

theorem callName_any (w : World) (k n : Int) (t m : ByteArray) (v1 v2 : Value) (ht : t.size ≤ 1048576) (hm : m.size ≤ 1048576) :
    Calls Tryz.prog 129 #[.agg #[.int .i64 k, .int .i64 n, .string t, .string m, v1, v2]] w fun e w' => e = .returned (.string (strOf (headT t m))) ∧ Below w.heap.size w w' := by
  have BL : Hid (∀ (cs : Array Value) (t : TypeId), Below w.heap.size w (w.alloc (.cells cs t))) := fun cs t => (Below.refl _ _).alloc (Nat.le_refl _) _
  by_cases h : m.toList = []
  · have hq : (m.toList == ([] : List UInt8)) = true := by simp [h]
    have HV : Hid (headT t m = t.data.toList) := by show _ = _; simp [headT, h]
    go_enter Tryz.func129, Tryz.ntmps129
    go_wp2_with fail
    go_ret
    exact ⟨ret_strOf HV.out.symm, BL.out _ _⟩
  · have hq : (m.toList == ([] : List UInt8)) = false := by simp [h]
    have HV : Hid (headT t m = m.data.toList ++ [58] ++ t.data.toList) := by show _ = _; simp [headT, h]
    go_enter Tryz.func129, Tryz.ntmps129
    go_wp2_with fail
    go_ret
    exact ⟨ret_strOf (by rw [HV.out]; simp [ByteArray.data_append]), BL.out _ _⟩

theorem refText_any (w : World) (r : Rf) (hs : r.name.size ≤ 1048576) (hk : okI r.arity) (hp : PowAt w) :
    Calls Tryz.prog 37 #[.agg #[.string r.name, .int .i64 r.arity]] w fun e w' => e = .returned (.string (strOf (refT r))) ∧ Below w.heap.size w w' := by
  obtain ⟨s, n⟩ := r
  simp only at *
  obtain ⟨i0, i1⟩ := okI_bd hk
  have hil := itoa_len n i0 i1
  have hsz : (⟨(Lib.itoa n).toArray⟩ : ByteArray).size ≤ 21 := by simpa [ByteArray.size] using hil
  have hsz2 : (Lib.itoa n).toArray.size ≤ 21 := by simpa using hil
  obtain ⟨W1, hW1⟩ : ∃ W1, W1 = w.alloc (.cells #[.string s, .int .i64 n] 54) := ⟨_, rfl⟩
  have bA : Hid (Blk W1 w.heap.size #[.string s, .int .i64 n] 54) := by show Blk _ _ _ _; rw [hW1]; exact Blk.new
  have B1 : Hid (Below w.heap.size w W1) := by show Below _ _ _; rw [hW1]; exact (Below.refl _ _).alloc (Nat.le_refl _) _
  have HW1 : Hid (W1 = w.alloc (.cells #[.string s, .int .i64 n] 54)) := hW1
  have HP : Hid (PowAt w) := hp
  have hlw := bA.out.lt
  have qx0 : ∀ m : Wd (fun w' => SameOn All W1 w' ∧ Below w.heap.size w w'), m.val.cell? ⟨w.heap.size, 0, none⟩ = some (.string s) := fun m => (World.cell?_of_block (m.ok.1.2 w.heap.size trivial hlw)).trans (bA.out.cell 0 _ rfl)
  have qx1 : ∀ m : Wd (fun w' => SameOn All W1 w' ∧ Below w.heap.size w w'), m.val.cell? ⟨w.heap.size, 1, none⟩ = some (.int .i64 n) := fun m => (World.cell?_of_block (m.ok.1.2 w.heap.size trivial hlw)).trans (bA.out.cell 1 _ rfl)
  clear hp hk hW1
  go_enter Tryz.func37, Tryz.ntmps37
  go_wp2_with fail
  rw [← HW1.out]
  have hCne : Nonempty (Wd (fun w' => SameOn All W1 w' ∧ Below w.heap.size w w')) := ⟨⟨W1.drew, ⟨⟨Nat.le_refl _, fun _ _ _ => rfl⟩, B1.out.drew⟩⟩⟩
  refine wp_region_class (fun w' => SameOn All W1 w' ∧ Below w.heap.size w w') (by kernel_rfl) (by kernel_rfl) ⟨⟨Nat.le_refl _, fun _ _ _ => rfl⟩, B1.out.drew⟩ ?_
  repeat (go_big_quiet_step (first | (rename_i m; go_at_call 23; refine (implDecText_any n _ i0 i1 (powAt_below HP.out m.ok.2)).mono ?_; rintro e w1 ⟨rfl, hb1⟩; exact ⟨rfl, ⟨⟨w1, ⟨(SameOn.trans m.ok.1 (SameOn.of_below hb1)), m.ok.2.trans (hb1.mono m.ok.2.size)⟩⟩, rfl⟩⟩)))
  refine wpQuiet_nil ?_
  rintro _ ⟨mq, rfl⟩
  have HB4 : Hid (Below w.heap.size w mq.val) := mq.ok.2
  generalize mq.val = w4 at HB4 ⊢
  go_wp2_with fail
  go_ret
  exact ⟨ret_strOf (by simp [refT, ByteArray.data_append]), HB4.out⟩

set_option maxHeartbeats 8000000 in
set_option maxRecDepth 100000 in
theorem innerTexts_of {d : Nat} (hE : InC d) : ItC d := by
  intro w v es h hsh hwt hpw
  have hI : ∀ y ∈ es, exI d y := fun y hy => by obtain ⟨_, hv⟩ := rows_mem h y hy; exact hv.ints
  obtain ⟨p, cap, rfl, hcl, hcm, hx⟩ := h
  have hnl : es.length ≤ 1048576 := Nat.le_trans (len_wtS _ _) hwt
  have hnb : es.length ≤ 9223372036854775807 := by omega
  have BD : Hid ((joinT [44, 32] (es.map fun y => exTxt d y false)).length ≤ 52428800) := exs_bd hI hsh hwt false
  have BX : Hid (∀ k x, es[k]? = some x → wtEx d x ≤ 1048576 ∧ shp d x = true) := fun k x hk => ⟨Nat.le_trans (wtS_at _ es k x hk) hwt, List.all_eq_true.1 hsh x (List.mem_of_getElem? hk)⟩
  obtain ⟨i, hi, hz0, hz1, hz2⟩ := info_parts info_str
  have HP : Hid (PowAt w) := hpw
  generalize hn : es.length = n at *
  have HN : Hid (es.length = n) := hn
  have HX : Hid (es ≠ [] → ∃ g off, p = some ⟨g, off, none⟩ ∧ All g ∧ g < w.heap.size ∧ ∀ i x, es[i]? = some x → ∃ cs, cs.length = 6 ∧ (∀ j, j < 6 → w.cell? ⟨g, off + i * 6 + j, none⟩ = cs[j]?) ∧ HEx w All d cs x) := hx
  have O0 : Hid (OwnS (w.alloc (.cells #[] 9)) w.heap.size (.slice (some ⟨w.heap.size, 0, none⟩) 0 0) []) := OwnS.fresh
  have BL : Hid (Below w.heap.size w (w.alloc (.cells #[] 9))) := (Below.refl _ _).alloc (Nat.le_refl _) _
  clear hx hn hI hwt hsh hpw
  go_enter Tryz.func80, Tryz.ntmps80
  go_wp2_with fail
  go_loopw [3, 9] (fun ov iv wr => ∃ (k : Nat), k ≤ n ∧ iv = .int .i64 k ∧ Hid (OwnS wr w.heap.size ov ((es.take k).map fun y => strOf (exTxt d y false))) ∧ Below w.heap.size w wr) (fun _ iv _ => n - (intOf iv).toNat)
  case atStart => exact ⟨0, Nat.zero_le _, rfl, O0.out, BL.out⟩
  case round =>
    obtain ⟨k, hk, rfl, ho, hb⟩ := hrel
    have HB : Hid (Below w.heap.size w wr) := hb
    by_cases hlt : k < n
    · obtain ⟨x, hxk⟩ : ∃ x, es[k]? = some x := ⟨es[k]'(by rw [HN.out]; exact hlt), List.getElem?_eq_getElem _⟩
      obtain ⟨g, off, rfl, -, hgl, hat⟩ := HX.out (by intro h; rw [h] at hxk; simp at hxk)
      obtain ⟨cs, hcs6, hcs, r1⟩ := hat k x hxk
      obtain ⟨sk, sn, st, se, p1, n1, q1, p2, n2, q2, rfl⟩ := exShape r1
      have E1 : ∀ w', Below w.heap.size w w' → HEx w' All d [.int .i64 sk, .int .i64 sn, .string st, .string se, .slice p1 n1 q1, .slice p2 n2 q2] x := fun w' hw => r1.mono (SameOn.of_below hw) (fun _ h => h)
      have a0 := hcs 0 (by omega)
      have a1 := hcs 1 (by omega)
      have a2 := hcs 2 (by omega)
      have a3 := hcs 3 (by omega)
      have a4 := hcs 4 (by omega)
      have a5 := hcs 5 (by omega)
      rw [← hb.cell (p := ⟨g, _, none⟩) hgl] at a0 a1 a2 a3 a4 a5
      simp at a0 a1 a2 a3 a4 a5
      have hki : (k : Int) < (n : Int) := by omega
      have hk0 : (0 : Int) ≤ (k : Int) := by omega
      have HJ : Hid ((es.take (k + 1)).map (fun y => strOf (exTxt d y false)) = (es.take k).map (fun y => strOf (exTxt d y false)) ++ [strOf (exTxt d x false)]) := by
        show _ = _
        rw [List.take_add_one, hxk]
        simp
      have hbx := BX.out k x hxk
      have LJ : Hid (((es.take k).map fun y => strOf (exTxt d y false)).length = k) := by
        show _ = _
        rw [List.length_map, List.length_take, HN.out]
        omega
      generalize hJ0 : ((es.take k).map fun y => strOf (exTxt d y false)) = J at *
      clear hb hcs hat hcs6 r1 hJ0
      have BA : Hid (Below w.heap.size w (wr.alloc (.cells #[.int .i64 sk, .int .i64 sn, .string st, .string se, .slice p1 n1 q1, .slice p2 n2 q2] 114))) := HB.out.alloc HB.out.size _
      have OA : Hid (OwnS (wr.alloc (.cells #[.int .i64 sk, .int .i64 sn, .string st, .string se, .slice p1 n1 q1, .slice p2 n2 q2] 114)) w.heap.size u3 J) := ho.out.next ((Below.refl _ _).alloc (Nat.le_refl _) _)
      go_wp2_with fail
      refine (hE _ _ x (E1 _ BA.out) hbx.2 hbx.1 (powAt_below HP.out BA.out)).mono ?_
      rintro e w4 ⟨rfl, hb4⟩
      have B4 : Hid (Below w.heap.size w w4) := BA.out.trans (hb4.mono BA.out.size)
      have O4 : Hid (OwnS w4 w.heap.size u3 J) := OA.out.next hb4
      generalize hX : strOf (exTxt d x false) = X at *
      have B5 : Hid (Below w.heap.size w (w4.alloc (.cells #[.string X] 9))) := B4.out.alloc B4.out.size _
      have O5 : Hid (OwnS (w4.alloc (.cells #[.string X] 9)) w.heap.size u3 J) := O4.out.next ((Below.refl _ _).alloc (Nat.le_refl _) _)
      have N1 : Hid (∀ j u, (strs [X])[j]? = some u → (w4.alloc (.cells #[.string X] 9)).cell? ((⟨w4.heap.size, 0, none⟩ : Addr).add j) = some u) := one_strS w4 X _ rfl
      have lj := LJ.out
      clear hb4
      go_wp2_with (first | (at_builtin; refine wpList_append_own _ rfl _ _ 46 rfl w.heap.size 9 i (.string ⟨#[]⟩) 1 16 Tryz.underlying46 hi hz0 hz1 hz2 rfl (by decide) u3 _ _ rfl O5.out.1 _ 1 1 (strs [X]) rfl rfl N1.out (strs_oneCell _) (by unfold maxLen; omega) (by omega) O5.out.2 ?_))
      intro u2 w2 hown2 hgr2 _
      have HO2 : Hid (OwnS w2 w.heap.size u2 (J ++ [X])) := OwnS.of hown2 (by rw [List.length_append, lj]; rfl) rfl (Nat.le_trans O5.out.2 hgr2.size)
      have HB2 : Hid (Below w.heap.size w w2) := B5.out.trans (O5.out.below hgr2)
      clear hown2 hgr2
      go_wp2_with fail
      exact ⟨⟨k + 1, by omega, by go_num, by show OwnS _ _ _ _; rw [HJ.out]; exact HO2.out, HB2.out⟩, by simp [intOf]; omega⟩
    · have HS : Hid (OwnS wr w.heap.size u3 (es.map fun y => strOf (exTxt d y false))) := by
        have := ho.out
        rwa [List.take_of_length_le (by rw [HN.out]; omega)] at this
      clear hb
      have HE : Hid ((es.map fun y => strOf (exTxt d y false)).map (·.data.toList) = es.map fun y => exTxt d y false) := by
        show _ = _
        rw [List.map_map]
        exact List.map_congr_left fun y _ => strOf_data _
      have HL : Hid ((es.map fun y => strOf (exTxt d y false)).length ≤ 140737488355328) := by
        show _ ≤ _
        rw [List.length_map, HN.out]; omega
      go_wp2_with fail
      refine (joinOwn wr w.heap.size u3 _ ⟨#[44, 32]⟩ HS.out HL.out (by rw [HE.out]; have := BD.out; show (joinT [44, 32] _).length ≤ _; omega)).mono ?_
      rintro e w4 ⟨rfl, hb4⟩
      rw [HE.out]
      have B4 : Hid (Below w.heap.size w w4) := HB.out.trans (hb4.mono HB.out.size)
      clear hb4
      go_wp2_with fail
      go_ret
      exact ⟨rfl, B4.out⟩

set_option maxHeartbeats 8000000 in
set_option maxRecDepth 100000 in
theorem bodyText_of {d : Nat} (hE : IxC d) : BtC d := by
  intro w v es h hsh hwt hpw
  have hI : ∀ y ∈ es, exI d y := fun y hy => by obtain ⟨_, hv⟩ := rows_mem h y hy; exact hv.ints
  obtain ⟨p, cap, rfl, hcl, hcm, hx⟩ := h
  have hnl : es.length ≤ 1048576 := Nat.le_trans (len_wtS _ _) hwt
  have hnb : es.length ≤ 9223372036854775807 := by omega
  have BD : Hid ((joinT [44, 32] (es.map fun y => exTxt d y true)).length ≤ 52428800) := exs_bd hI hsh hwt true
  have BX : Hid (∀ k x, es[k]? = some x → wtEx d x ≤ 1048576 ∧ shp d x = true) := fun k x hk => ⟨Nat.le_trans (wtS_at _ es k x hk) hwt, List.all_eq_true.1 hsh x (List.mem_of_getElem? hk)⟩
  obtain ⟨i, hi, hz0, hz1, hz2⟩ := info_parts info_str
  have HP : Hid (PowAt w) := hpw
  generalize hn : es.length = n at *
  have HN : Hid (es.length = n) := hn
  have HX : Hid (es ≠ [] → ∃ g off, p = some ⟨g, off, none⟩ ∧ All g ∧ g < w.heap.size ∧ ∀ i x, es[i]? = some x → ∃ cs, cs.length = 6 ∧ (∀ j, j < 6 → w.cell? ⟨g, off + i * 6 + j, none⟩ = cs[j]?) ∧ HEx w All d cs x) := hx
  have O0 : Hid (OwnS (w.alloc (.cells #[] 9)) w.heap.size (.slice (some ⟨w.heap.size, 0, none⟩) 0 0) []) := OwnS.fresh
  have BL : Hid (Below w.heap.size w (w.alloc (.cells #[] 9))) := (Below.refl _ _).alloc (Nat.le_refl _) _
  clear hx hn hI hwt hsh hpw
  go_enter Tryz.func81, Tryz.ntmps81
  go_wp2_with fail
  go_loopw [3, 9] (fun ov iv wr => ∃ (k : Nat), k ≤ n ∧ iv = .int .i64 k ∧ Hid (OwnS wr w.heap.size ov ((es.take k).map fun y => strOf (exTxt d y true))) ∧ Below w.heap.size w wr) (fun _ iv _ => n - (intOf iv).toNat)
  case atStart => exact ⟨0, Nat.zero_le _, rfl, O0.out, BL.out⟩
  case round =>
    obtain ⟨k, hk, rfl, ho, hb⟩ := hrel
    have HB : Hid (Below w.heap.size w wr) := hb
    by_cases hlt : k < n
    · obtain ⟨x, hxk⟩ : ∃ x, es[k]? = some x := ⟨es[k]'(by rw [HN.out]; exact hlt), List.getElem?_eq_getElem _⟩
      obtain ⟨g, off, rfl, -, hgl, hat⟩ := HX.out (by intro h; rw [h] at hxk; simp at hxk)
      obtain ⟨cs, hcs6, hcs, r1⟩ := hat k x hxk
      obtain ⟨sk, sn, st, se, p1, n1, q1, p2, n2, q2, rfl⟩ := exShape r1
      have E1 : ∀ w', Below w.heap.size w w' → HEx w' All d [.int .i64 sk, .int .i64 sn, .string st, .string se, .slice p1 n1 q1, .slice p2 n2 q2] x := fun w' hw => r1.mono (SameOn.of_below hw) (fun _ h => h)
      have a0 := hcs 0 (by omega)
      have a1 := hcs 1 (by omega)
      have a2 := hcs 2 (by omega)
      have a3 := hcs 3 (by omega)
      have a4 := hcs 4 (by omega)
      have a5 := hcs 5 (by omega)
      rw [← hb.cell (p := ⟨g, _, none⟩) hgl] at a0 a1 a2 a3 a4 a5
      simp at a0 a1 a2 a3 a4 a5
      have hki : (k : Int) < (n : Int) := by omega
      have hk0 : (0 : Int) ≤ (k : Int) := by omega
      have HJ : Hid ((es.take (k + 1)).map (fun y => strOf (exTxt d y true)) = (es.take k).map (fun y => strOf (exTxt d y true)) ++ [strOf (exTxt d x true)]) := by
        show _ = _
        rw [List.take_add_one, hxk]
        simp
      have hbx := BX.out k x hxk
      have LJ : Hid (((es.take k).map fun y => strOf (exTxt d y true)).length = k) := by
        show _ = _
        rw [List.length_map, List.length_take, HN.out]
        omega
      generalize hJ0 : ((es.take k).map fun y => strOf (exTxt d y true)) = J at *
      clear hb hcs hat hcs6 r1 hJ0
      have BA : Hid (Below w.heap.size w (wr.alloc (.cells #[.int .i64 sk, .int .i64 sn, .string st, .string se, .slice p1 n1 q1, .slice p2 n2 q2] 114))) := HB.out.alloc HB.out.size _
      have OA : Hid (OwnS (wr.alloc (.cells #[.int .i64 sk, .int .i64 sn, .string st, .string se, .slice p1 n1 q1, .slice p2 n2 q2] 114)) w.heap.size u3 J) := ho.out.next ((Below.refl _ _).alloc (Nat.le_refl _) _)
      go_wp2_with fail
      refine (hE _ _ x (E1 _ BA.out) hbx.2 hbx.1 (powAt_below HP.out BA.out)).mono ?_
      rintro e w4 ⟨rfl, hb4⟩
      have B4 : Hid (Below w.heap.size w w4) := BA.out.trans (hb4.mono BA.out.size)
      have O4 : Hid (OwnS w4 w.heap.size u3 J) := OA.out.next hb4
      generalize hX : strOf (exTxt d x true) = X at *
      have B5 : Hid (Below w.heap.size w (w4.alloc (.cells #[.string X] 9))) := B4.out.alloc B4.out.size _
      have O5 : Hid (OwnS (w4.alloc (.cells #[.string X] 9)) w.heap.size u3 J) := O4.out.next ((Below.refl _ _).alloc (Nat.le_refl _) _)
      have N1 : Hid (∀ j u, (strs [X])[j]? = some u → (w4.alloc (.cells #[.string X] 9)).cell? ((⟨w4.heap.size, 0, none⟩ : Addr).add j) = some u) := one_strS w4 X _ rfl
      have lj := LJ.out
      clear hb4
      go_wp2_with (first | (at_builtin; refine wpList_append_own _ rfl _ _ 46 rfl w.heap.size 9 i (.string ⟨#[]⟩) 1 16 Tryz.underlying46 hi hz0 hz1 hz2 rfl (by decide) u3 _ _ rfl O5.out.1 _ 1 1 (strs [X]) rfl rfl N1.out (strs_oneCell _) (by unfold maxLen; omega) (by omega) O5.out.2 ?_))
      intro u2 w2 hown2 hgr2 _
      have HO2 : Hid (OwnS w2 w.heap.size u2 (J ++ [X])) := OwnS.of hown2 (by rw [List.length_append, lj]; rfl) rfl (Nat.le_trans O5.out.2 hgr2.size)
      have HB2 : Hid (Below w.heap.size w w2) := B5.out.trans (O5.out.below hgr2)
      clear hown2 hgr2
      go_wp2_with fail
      exact ⟨⟨k + 1, by omega, by go_num, by show OwnS _ _ _ _; rw [HJ.out]; exact HO2.out, HB2.out⟩, by simp [intOf]; omega⟩
    · have HS : Hid (OwnS wr w.heap.size u3 (es.map fun y => strOf (exTxt d y true))) := by
        have := ho.out
        rwa [List.take_of_length_le (by rw [HN.out]; omega)] at this
      clear hb
      have HE : Hid ((es.map fun y => strOf (exTxt d y true)).map (·.data.toList) = es.map fun y => exTxt d y true) := by
        show _ = _
        rw [List.map_map]
        exact List.map_congr_left fun y _ => strOf_data _
      have HL : Hid ((es.map fun y => strOf (exTxt d y true)).length ≤ 140737488355328) := by
        show _ ≤ _
        rw [List.length_map, HN.out]; omega
      go_wp2_with fail
      refine (joinOwn wr w.heap.size u3 _ ⟨#[44, 32]⟩ HS.out HL.out (by rw [HE.out]; have := BD.out; show (joinT [44, 32] _).length ≤ _; omega)).mono ?_
      rintro e w4 ⟨rfl, hb4⟩
      rw [HE.out]
      have B4 : Hid (Below w.heap.size w w4) := HB.out.trans (hb4.mono HB.out.size)
      clear hb4
      go_wp2_with fail
      go_ret
      exact ⟨rfl, B4.out⟩
end Go.Proofs.YtkomkhiinfdfmaaGreatDoor
