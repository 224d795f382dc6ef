/-
  What the specification's Words answers: the parts of a text between blanks, in new memory. Condition: the text has at most 2^20 bytes.
-/
import Derived.Test.YtkomkhiinfdfmaaGreatDoorStrKit
import Derived.Test.YtkomkhiinfdfmaaGreatDoorWordsMath
namespace Go.Proofs.YtkomkhiinfdfmaaGreatDoor
open Go.ChangeShapes Go.WideShapes Go.ChangeAt Go.RowKit
set_option linter.unusedVariables false

theorem infoS : (Tryz.prog.info? 9).map (fun i => (i.zero, i.size, i.bytes)) = some (some (.string ByteArray.empty), 1, 16) := by kernel_rfl

/-- The one new cell of an append lies where it was laid. -/
theorem one_cell (w : World) (x : Value) (t : TypeId) : ∀ (j : Nat) (u : Value), [x][j]? = some u → (w.alloc (.cells #[x] t)).cell? ((⟨w.heap.size, 0, none⟩ : Addr).add j) = some u := by
  intro j u hj
  match j, hj with
  | 0, hj => simp at hj; subst hj; simp [Addr.add]
  | j + 1, hj => simp at hj
theorem one_str (x : ByteArray) : ∀ u ∈ [Value.string x], u.oneCell' = true := by intro u hu; simp at hu; subst hu; rfl

set_option maxHeartbeats 1000000 in
theorem specWords_any (s : ByteArray) (w : World) (hs : s.size ≤ 1048576) :
    Calls Tryz.prog 29 #[.string s] w fun e w' => ∃ v, e = .returned v ∧ w'.ownsRow w.heap.size 9 1 v (wordsL s.data.toList).length ((wordsL s.data.toList).map strV) ∧ Below w.heap.size w w' := by
  obtain ⟨i0, hi, hz0, hz1, hz2⟩ := info_parts infoS
  go_enter Tryz.func29, Tryz.ntmps29
  go_wp2
  go_loopw [3, 4, 5] (fun v fv iv wr => ∃ (f k : Nat) (out : List (List UInt8)), f ≤ k ∧ k ≤ s.size ∧ fv = .int .i64 f ∧ iv = .int .i64 k ∧ wr.ownsRow w.heap.size 9 1 v out.length (out.map strV) ∧ wordsL s.data.toList = out ++ wordsL (s.data.toList.drop f) ∧ NoBlank s.data.toList f k ∧ Below w.heap.size w wr) (fun _ _ iv _ => s.size - (intOf iv).toNat)
  case atStart => exact ⟨0, 0, [], Nat.le_refl _, Nat.zero_le _, rfl, rfl, World.ownsRow_lit w #[] 0 (Nat.le_refl _) (Nat.zero_le _) rfl, rfl, noBlank_start _ _, (Below.refl _ _).alloc (Nat.le_refl _) _⟩
  case round =>
    obtain ⟨f, k, out, hfk, hk, rfl, rfl, hown, hw, hnb, hb⟩ := hrel
    have hol := out_length hw
    rw [Array.length_toList] at hol
    have hol' : out.length ≤ 1048576 := Nat.le_trans hol hs
    have HW : Hid (wordsL s.data.toList = out ++ wordsL (s.data.toList.drop f)) := hw
    have HN : Hid (NoBlank s.data.toList f k) := hnb
    have HB : Hid (Below w.heap.size w wr) := hb
    have HO : Hid (wr.ownsRow w.heap.size 9 1 u3 out.length (out.map strV)) := hown
    clear hol hw hnb hb hown
    by_cases hlt : k < s.size
    · have hkl : k < s.data.toList.length := by rw [Array.length_toList]; exact hlt
      have hbk : (s.data.toList[k]) = s[k] := rfl
      by_cases hc : s[k] = 32
      · have hst := words_step HW.out HN.out hfk hkl (hbk.trans hc)
        have HST : Hid (wordsL s.data.toList = (out ++ [(s.data.toList.drop f).take (k - f)]) ++ wordsL (s.data.toList.drop (k + 1))) := hst
        have hc1 : ((s[k].toNat : Int) == 32) = true := by rw [hc]; rfl
        have hex := extract_eq s f k (by omega)
        have HEX : Hid (s.extract f k = ⟨((s.data.toList.drop f).take (k - f)).toArray⟩) := hex
        clear hst hex hbk
        have HC : Hid (s[k] = 32) := hc
        clear hc
        go_wp2_with (at_builtin; refine wpList_append_own _ rfl _ _ 46 rfl w.heap.size 9 i0 (.string ByteArray.empty) 1 16 Tryz.underlying46 hi hz0 hz1 hz2 rfl (by decide) _ _ _ rfl (HO.out.alloc _) ⟨wr.heap.size, 0, none⟩ 1 1 [.string (s.extract f k)] rfl rfl (one_cell _ _ _) (one_str _) (by unfold maxLen; omega) (by omega) (by have := HB.out.size; simp; omega) ?_; intro v' w1 hown' hgr _; have HO1 : Hid _ := hown'; have HG1 : Hid _ := hgr; clear hown' hgr)
        have hown2 := HO1.out
        rw [HEX.out] at hown2
        have hbe : Below w.heap.size w w1 := (HB.out.alloc HB.out.size _).grown HG1.out (by have := HB.out.size; simp; omega) (fun j hj => (HO.out.lt j hj).1)
        exact ⟨⟨k + 1, k + 1, out ++ [(s.data.toList.drop f).take (k - f)], Nat.le_refl _, by omega, by go_num, by go_num, by rw [List.map_append, List.length_append]; exact hown2, HST.out, noBlank_start _ _, hbe⟩, by simp [intOf]; omega⟩
      · have HN' : Hid (NoBlank s.data.toList f (k + 1)) := noBlank_step HN.out hfk hkl (by rw [hbk]; exact hc)
        have hc1 : ((s[k].toNat : Int) == 32) = false := by
          rw [beq_eq_false_iff_ne]; intro h; apply hc; apply UInt8.toNat_inj.1; show s[k].toNat = 32; omega
        have HC : Hid (¬ s[k] = 32) := hc
        clear hc hbk
        go_wp2
        go_roundw
        case rel => exact ⟨f, k + 1, out, by omega, by omega, rfl, by go_num, HO.out, HW.out, HN'.out, HB.out⟩
        case measure => simp [intOf]; omega
    · have hen := words_end (k := k) HW.out HN.out (by rw [Array.length_toList]; exact Nat.le_of_not_lt hlt)
      have HEN : Hid (wordsL s.data.toList = out ++ [s.data.toList.drop f]) := hen
      clear hen
      go_wp2_with (at_builtin; refine wpList_append_own _ rfl _ _ 46 rfl w.heap.size 9 i0 (.string ByteArray.empty) 1 16 Tryz.underlying46 hi hz0 hz1 hz2 rfl (by decide) _ _ _ rfl (HO.out.alloc _) ⟨wr.heap.size, 0, none⟩ 1 1 [.string _] rfl rfl (one_cell _ _ _) (one_str _) (by unfold maxLen; omega) (by omega) (by have := HB.out.size; simp; omega) ?_; intro v' w1 hown' hgr _; have HO1 : Hid _ := hown'; have HG1 : Hid _ := hgr; clear hown' hgr)
      go_ret
      have hown2 : w1.ownsRow w.heap.size 9 1 v' (out.length + 1) (List.map strV out ++ [Value.string (s.extract f s.size)]) := HO1.out
      have hex : s.extract f s.size = ⟨(s.data.toList.drop f).toArray⟩ := by
        rw [extract_eq s f s.size (Nat.le_refl _), List.take_of_length_le (by rw [List.length_drop, Array.length_toList]; exact Nat.le_refl _)]
      rw [hex] at hown2
      have hbe : Below w.heap.size w w1 := (HB.out.alloc HB.out.size _).grown HG1.out (by have := HB.out.size; simp; omega) (fun j hj => (HO.out.lt j hj).1)
      refine ⟨v', rfl, ?_, hbe⟩
      rw [HEN.out, List.map_append, List.length_append]
      exact hown2
end Go.Proofs.YtkomkhiinfdfmaaGreatDoor
