/-
  What the specification's l01Next answers where a name or a sign stands. Condition: the text has at most 4000 bytes, and the place is one of it.
-/
import Derived.Test.YtkomkhiinfdfmaaGreatDoorSpecLexB
namespace Go.Proofs.YtkomkhiinfdfmaaGreatDoor
open Go.ChangeShapes Go.WideShapes Go.ChangeAt Go.RowKit
set_option linter.unusedVariables false

theorem next_name_yes {l : List UInt8} {i k : Nat} {kd : Int} (hd : digB (l.getD i 0) = false) (hn : isSignC (l.getD i 0) = true) (h : runEnd isSignC l i = k) (hk : nameKindM (cut l i k) = some kd) :
    tokAt l i 0 = some (⟨kd, cut l i k, 0, 0⟩, k) := by
  simp only [tokAt]; rw [if_neg (by rw [hd]; decide), if_pos hn, h, hk]; rfl
theorem next_name_no {l : List UInt8} {i k : Nat} (hd : digB (l.getD i 0) = false) (hn : isSignC (l.getD i 0) = true) (h : runEnd isSignC l i = k) (hk : nameKindM (cut l i k) = none) : tokAt l i 0 = none := by
  simp only [tokAt]; rw [if_neg (by rw [hd]; decide), if_pos hn, h, hk]; rfl

theorem bcell {W w1 : World} (hb : Below W.heap.size W w1) : (∀ b o, b < W.heap.size → w1.cell? ⟨b, o, none⟩ = W.cell? ⟨b, o, none⟩) ∧ (∀ b o, b < W.heap.size → w1.frozen? ⟨b, o, none⟩ = W.frozen? ⟨b, o, none⟩) :=
  ⟨fun b o h => hb.cell (p := ⟨b, o, none⟩) h, fun b o h => hb.frozen (p := ⟨b, o, none⟩) h⟩

set_option maxHeartbeats 2000000 in
theorem l01Next_name (s : ByteArray) (i : Nat) (w : World) (hs : s.size ≤ 4000) (hi : i < s.size) (hd : inB (s[i].toNat : Int) 48 57 = false) (hn : signB (s[i].toNat : Int) = true) :
    Calls Tryz.prog 49 #[.string s, .int .i64 i] w fun e w' => (∃ tv k, e = .returned (.tuple #[tv, .int .i64 k]) ∧ NextIs s.data.toList i tv k) ∧ Below w.heap.size w w' := by
  have hb := byte_lt s i hi
  have HD0 : Hid (digB (s.data.toList.getD i 0) = false) := by show digB (s.data.toList.getD i 0) = false; rw [getD_byte s i hi]; exact hd
  have HN0 : Hid (isSignC (s.data.toList.getD i 0) = true) := by show isSignC (s.data.toList.getD i 0) = true; rw [getD_byte s i hi]; exact hn
  have HLL : Hid (s.data.toList.length = s.size) := by show s.data.toList.length = s.size; simp
  go_enter Tryz.func49, Tryz.ntmps49
  go_wp2_with (first
    | (go_at_call 64; go_must (refine (l01Digit_any _ _ hb.1 hb.2).mono ?_; rintro e w' ⟨rfl, rfl⟩))
    | (go_at_call 92; go_must (refine (l01Sign_any _ _ hb.1 hb.2).mono ?_; rintro e w' ⟨rfl, rfl⟩)))
  go_loopw [6] (fun kv wr => ∃ k : Nat, i ≤ k ∧ k ≤ s.size ∧ kv = .int .i64 k ∧ runEnd isSignC s.data.toList i = runEnd isSignC s.data.toList k ∧ wr = w.alloc (.cells #[.int .i64 0, .string ⟨#[]⟩, .int .i64 0, .int .i64 0] 49)) (fun kv _ => s.size - (intOf kv).toNat)
  case atStart => exact ⟨i, Nat.le_refl _, by omega, rfl, rfl, rfl⟩
  case round =>
    obtain ⟨k, hik, hk, rfl, hrun, rfl⟩ := hrel
    have HR : Hid (runEnd isSignC s.data.toList i = runEnd isSignC s.data.toList k) := hrun
    clear hrun
    have hc : (k < s.size ∧ ∃ h : k < s.size, signB (s[k].toNat : Int) = true) ∨ (runEnd isSignC s.data.toList k = k ∧ (∀ h : k < s.size, signB (s[k].toNat : Int) = false)) := by
      by_cases hlt : k < s.size
      · cases hv : signB (s[k].toNat : Int) with
        | true => exact .inl ⟨hlt, hlt, hv⟩
        | false => exact .inr ⟨runEnd_stop _ _ _ (.inr (by rw [getD_byte s k hlt]; exact hv)), fun _ => hv⟩
      · exact .inr ⟨runEnd_stop _ _ _ (.inl (by rw [HLL.out]; omega)), fun h => absurd h hlt⟩
    rcases hc with ⟨hlt, _, hc⟩ | ⟨hst, hcs⟩
    · have hbk := byte_lt s k hlt
      have HG : Hid (s.data.toList.getD k 0 = s[k]) := getD_byte s k hlt
      go_wp2_with (go_at_call 92; go_must (refine (l01Sign_any _ _ hbk.1 hbk.2).mono ?_; rintro e w' ⟨rfl, rfl⟩))
      go_roundw
      case rel => exact ⟨k + 1, by omega, by omega, by go_num, by rw [HR.out]; exact runEnd_step _ _ _ (by rw [HLL.out]; exact hlt) (by rw [HG.out]; exact hc), (by first | rfl | trivial)⟩
      case measure => simp [intOf]; omega
    · have HRK : Hid (runEnd isSignC s.data.toList i = k) := HR.out.trans hst
      have hex := extract_cut s i k
      have HEX : Hid (s.extract i k = byteArr (cut s.data.toList i k)) := hex
      clear hst hex HR
      have hsz : (s.extract i k).size ≤ maxLen := by
        rw [ByteArray.size_extract]; unfold maxLen; omega
      by_cases hlt : k < s.size
      · have hbk := byte_lt s k hlt
        have hck := hcs hlt
        clear hcs
        go_wp2_with (first
          | (go_at_call 92; go_must (refine (l01Sign_any _ _ hbk.1 hbk.2).mono ?_; rintro e w' ⟨rfl, rfl⟩))
          | (go_at_call 93; fail))
        refine (l01NameTok_any _ _ hsz).mono ?_
        rintro e w1 ⟨⟨kd, ok, rfl, hkd⟩, hb1⟩
        have ecut : (s.extract i k).data.toList = cut s.data.toList i k := by rw [HEX.out]; rfl
        rw [ecut] at hkd
        have HKD : Hid (nameKindM (cut s.data.toList i k) = if ok = true then some kd else none) := hkd
        have HB1 : Hid _ := hb1
        obtain ⟨hc1, hf1⟩ := bcell hb1
        have hz1 : w.heap.size < w1.heap.size := by have := hb1.size; simp at this; omega
        clear hkd hb1 ecut
        cases ok
        · have HT : Hid _ := next_name_no HD0.out HN0.out HRK.out (by rw [HKD.out]; rfl)
          go_wp2
          refine bodyPost_ret (v := .tuple #[.agg #[.int .i64 0, .string ⟨#[]⟩, .int .i64 0, .int .i64 0], .int .i64 (-1)]) (by simp [results, Tryz.results49, go_sem, hc1, hz1]) rfl ⟨⟨_, _, rfl, .inr ⟨HT.out, rfl, rfl⟩⟩, (((((((Below.refl w.heap.size w).alloc (Nat.le_refl _) _).trans (HB1.out.mono (by simp))).setCell (by simp) _).setCell (by simp) _).setCell (by simp) _).setCell (by simp) _).alloc (by simp; omega) _⟩
        · have HT : Hid _ := next_name_yes HD0.out HN0.out HRK.out (by rw [HKD.out]; rfl)
          go_wp2
          refine bodyPost_ret (v := .tuple #[.agg #[.int .i64 kd, .string (s.extract i k), .int .i64 0, .int .i64 0], .int .i64 k]) (by simp [results, Tryz.results49, go_sem, hc1, hz1]) rfl ⟨⟨_, _, rfl, .inl ⟨_, _, HT.out, by rw [HEX.out]; rfl, rfl⟩⟩, (((((((Below.refl w.heap.size w).alloc (Nat.le_refl _) _).trans (HB1.out.mono (by simp))).setCell (by simp) _).setCell (by simp) _).setCell (by simp) _).setCell (by simp) _).alloc (by simp; omega) _⟩
      · clear hcs
        go_wp2_with fail
        refine (l01NameTok_any _ _ hsz).mono ?_
        rintro e w1 ⟨⟨kd, ok, rfl, hkd⟩, hb1⟩
        have ecut : (s.extract i k).data.toList = cut s.data.toList i k := by rw [HEX.out]; rfl
        rw [ecut] at hkd
        have HKD : Hid (nameKindM (cut s.data.toList i k) = if ok = true then some kd else none) := hkd
        have HB1 : Hid _ := hb1
        obtain ⟨hc1, hf1⟩ := bcell hb1
        have hz1 : w.heap.size < w1.heap.size := by have := hb1.size; simp at this; omega
        clear hkd hb1 ecut
        cases ok
        · have HT : Hid _ := next_name_no HD0.out HN0.out HRK.out (by rw [HKD.out]; rfl)
          go_wp2
          refine bodyPost_ret (v := .tuple #[.agg #[.int .i64 0, .string ⟨#[]⟩, .int .i64 0, .int .i64 0], .int .i64 (-1)]) (by simp [results, Tryz.results49, go_sem, hc1, hz1]) rfl ⟨⟨_, _, rfl, .inr ⟨HT.out, rfl, rfl⟩⟩, (((((((Below.refl w.heap.size w).alloc (Nat.le_refl _) _).trans (HB1.out.mono (by simp))).setCell (by simp) _).setCell (by simp) _).setCell (by simp) _).setCell (by simp) _).alloc (by simp; omega) _⟩
        · have HT : Hid _ := next_name_yes HD0.out HN0.out HRK.out (by rw [HKD.out]; rfl)
          go_wp2
          refine bodyPost_ret (v := .tuple #[.agg #[.int .i64 kd, .string (s.extract i k), .int .i64 0, .int .i64 0], .int .i64 k]) (by simp [results, Tryz.results49, go_sem, hc1, hz1]) rfl ⟨⟨_, _, rfl, .inl ⟨_, _, HT.out, by rw [HEX.out]; rfl, rfl⟩⟩, (((((((Below.refl w.heap.size w).alloc (Nat.le_refl _) _).trans (HB1.out.mono (by simp))).setCell (by simp) _).setCell (by simp) _).setCell (by simp) _).setCell (by simp) _).alloc (by simp; omega) _⟩
end Go.Proofs.YtkomkhiinfdfmaaGreatDoor
