/-
  The specification's l12Plain, by contract.
-/
import Derived.Test.YtafehfpjogbmfaaDoorRvSpecA
import Derived.Deep.DeepCutAuto
import Derived.Lib.Strings
namespace Go.Proofs.YtafehfpjogbmfaaDoor
open Go.ChangeShapes Go.WideShapes Go.ChangeAt Go.RowKit
set_option linter.unusedVariables false
set_option linter.unusedSimpArgs false
set_option maxRecDepth 100000

def vaC (x : Va) : Array Value := #[.int .i64 x.kind, .int .i64 x.n, .string x.text, .slice none 0 0]
theorem plainV_atom {l : List UInt8} (h : atomB (byteArr l) = true) : plainV l = (.mk 1 0 (byteArr l) [], true) := by unfold plainV; rw [if_pos h]
theorem plainV_bad {l : List UInt8} (h : atomB (byteArr l) = false) (hb : allDig (l.drop (minN l)) = false ∨ (minN l < l.length ∧ 10 < l.length)) : plainV l = (va0, false) := by
  unfold plainV; rw [h]; rw [if_neg (by simp), if_pos hb]
theorem plainV_num {l : List UInt8} (h : atomB (byteArr l) = false) (hb : allDig (l.drop (minN l)) = true) (hl : minN l < l.length → l.length ≤ 10) : plainV l = (.mk 0 (numV l) ⟨#[]⟩ [], decide (l ≠ []) && ((Lib.itoa (numV l) == l) && inB (numV l) (-999999999) 999999999)) := by
  have hn : ¬ (allDig (l.drop (minN l)) = false ∨ (minN l < l.length ∧ 10 < l.length)) := fun h1 => by
    rcases h1 with h1 | h1
    · rw [hb] at h1; cases h1
    · have := hl h1.1; omega
  unfold plainV
  rw [h, if_neg (by simp), if_neg hn]
theorem minN_le (l : List UInt8) : minN l ≤ l.length := by
  unfold minN minB
  split
  · rename_i h; simp at h; omega
  · exact Nat.zero_le _
theorem take_drop_snoc (l : List UInt8) (m k : Nat) (hm : m ≤ k) (hk : k < l.length) : (l.take (k + 1)).drop m = (l.take k).drop m ++ [l.getD k 0] := by
  have h : l.take (k + 1) = l.take k ++ [l.getD k 0] := by
    rw [List.take_add_one, List.getElem?_eq_getElem hk]
    simp [List.getD_eq_getElem?_getD, List.getElem?_eq_getElem hk]
  rw [h, List.drop_append_of_le_length (by rw [List.length_take]; omega)]
theorem allDig_split {l : List UInt8} {m k : Nat} (h : allDig (l.drop m) = true) : allDig ((l.take k).drop m) = true := by
  unfold allDig at *
  rw [List.drop_take]
  rw [List.all_eq_true] at *
  exact fun x hx => h x (List.mem_of_mem_take hx)
theorem allDig_no' {l : List UInt8} {m k : Nat} (hm : m ≤ k) (hk : k < l.length) (hd : digB (l.getD k 0) = false) : allDig (l.drop m) = false := by
  unfold allDig
  rw [List.all_eq_false]
  refine ⟨l.getD k 0, ?_, by rw [hd]; simp⟩
  rw [List.getD_eq_getElem?_getD, List.getElem?_eq_getElem hk]
  have : l[k] = (l.drop m)[k - m]'(by rw [List.length_drop]; omega) := by
    rw [List.getElem_drop]; congr 1; omega
  simp only [Option.getD_some]
  rw [this]
  exact List.getElem_mem _
theorem numV_of (l : List UInt8) : numV l = if minB l = true then - valOf (l.drop (minN l)) else valOf (l.drop (minN l)) := by
  unfold numV minN
  split <;> rfl

set_option maxHeartbeats 8000000 in
theorem l12Plain_any (s : ByteArray) (w : World) (hs : s.size ≤ maxLen) :
    Calls Tryd.prog 18 #[.string s] w fun e w' => e = .returned (.tuple #[.agg (vaC (plainV s.data.toList).1), .bool (plainV s.data.toList).2]) ∧ Below w.heap.size w w' := by
  have hs0 := hs
  unfold maxLen at hs
  have hll : s.data.toList.length = s.size := by simp
  have hba : byteArr s.data.toList = s := by simp [byteArr]
  have HLL : Hid (s.data.toList.length = s.size) := hll
  have AT : Hid (∀ w', Calls Tryd.prog 26 #[.string s] w' fun e w'' => e = .returned (.bool (atomB s)) ∧ w'' = w') := fun w' => specAtomOk_any s w' hs0
  have hA := @plainV_atom s.data.toList
  have hB := @plainV_bad s.data.toList
  have hN := @plainV_num s.data.toList
  rw [hba] at hA hB hN
  have HA : Hid _ := hA
  have HB : Hid _ := hB
  have HN : Hid _ := hN
  have HML := minN_le s.data.toList
  rw [hll] at HML
  have HNV : Hid _ := numV_of s.data.toList
  obtain ⟨W1, hW1⟩ : ∃ W1, W1 = w.alloc (.cells #[.int .i64 0, .int .i64 0, .string ⟨#[]⟩, .slice none 0 0] 24) := ⟨_, rfl⟩
  have B1 : Hid (Below w.heap.size w W1) := by show Below _ _ _; rw [hW1]; exact (Below.refl _ _).alloc (Nat.le_refl _) _
  have X1 : Hid (Blk W1 w.heap.size #[.int .i64 0, .int .i64 0, .string ⟨#[]⟩, .slice none 0 0] 24) := by show Blk _ _ _ _; rw [hW1]; exact Blk.new
  have HW1 : Hid (W1 = w.alloc (.cells #[.int .i64 0, .int .i64 0, .string ⟨#[]⟩, .slice none 0 0] 24)) := hW1
  have FIN : Hid (∀ (a b : Int) (t : ByteArray), Blk ((((W1.setCell ⟨w.heap.size, 0, none⟩ (.int .i64 a)).setCell ⟨w.heap.size, 1, none⟩ (.int .i64 b)).setCell ⟨w.heap.size, 2, none⟩ (.string t)).setCell ⟨w.heap.size, 3, none⟩ (.slice none 0 0)) w.heap.size #[.int .i64 a, .int .i64 b, .string t, .slice none 0 0] 24 ∧ Below w.heap.size w ((((W1.setCell ⟨w.heap.size, 0, none⟩ (.int .i64 a)).setCell ⟨w.heap.size, 1, none⟩ (.int .i64 b)).setCell ⟨w.heap.size, 2, none⟩ (.string t)).setCell ⟨w.heap.size, 3, none⟩ (.slice none 0 0))) := fun a b t =>
    ⟨(((X1.out.same (j := 0) (v := .int .i64 a) rfl).same (j := 1) (v := .int .i64 b) rfl).same (j := 2) (v := .string t) rfl).same (j := 3) (v := .slice none 0 0) rfl, (((B1.out.setCell (p := ⟨w.heap.size, 0, none⟩) (Nat.le_refl _) _).setCell (p := ⟨w.heap.size, 1, none⟩) (Nat.le_refl _) _).setCell (p := ⟨w.heap.size, 2, none⟩) (Nat.le_refl _) _).setCell (p := ⟨w.heap.size, 3, none⟩) (Nat.le_refl _) _⟩
  obtain ⟨RES, hRES⟩ : ∃ RES, RES = plainV s.data.toList := ⟨_, rfl⟩
  rw [← hRES]
  rw [← hRES] at HA HB HN
  have c0 := X1.out.cell 0 _ rfl
  have c1 := X1.out.cell 1 _ rfl
  have c2 := X1.out.cell 2 _ rfl
  have c3 := X1.out.cell 3 _ rfl
  have z0 := X1.out.frozen 0
  have z1 := X1.out.frozen 1
  have z2 := X1.out.frozen 2
  have z3 := X1.out.frozen 3
  have END : Hid (∀ (a b : Int) (t : ByteArray) (ok : Bool), RES = (.mk a b t [], ok) → (RES.1.kind = a ∧ RES.1.n = b ∧ RES.1.text = t ∧ RES.2 = ok)) := fun a b t ok h => by rw [h]; exact ⟨rfl, rfl, rfl, rfl⟩
  clear hll hba hA hB hN hRES hW1
  unfold vaC
  cases ha : atomB s with
  | true =>
    have HR := END.out _ _ _ _ (HA.out ha)
    rw [ha] at AT
    clear ha HA HB HN HML
    obtain ⟨h0, h1, h2, h3⟩ := HR
    rw [h0, h1, h2, h3]
    clear h0 h1 h2 h3
    go_enter Tryd.func18, Tryd.ntmps18
    go_wp2_with fail
    rw [← HW1.out]
    refine (AT.out _).mono ?_
    rintro e w2 ⟨rfl, rfl⟩
    go_wp2_with fail
    obtain ⟨hx, hb⟩ := FIN.out (1) (0) s
    have q0 := hx.cell 0 _ rfl
    have q1 := hx.cell 1 _ rfl
    have q2 := hx.cell 2 _ rfl
    have q3 := hx.cell 3 _ rfl
    exact bodyPost_ret (v := .tuple #[.agg #[.int .i64 (1), .int .i64 (0), .string s, .slice none 0 0], .bool true]) (by simp [results, Tryd.results18, go_sem, q0, q1, q2, q3]) rfl ⟨rfl, hb⟩
  | false =>
    rw [ha] at AT
    obtain ⟨mB, hmB⟩ : ∃ mB, mB = minB s.data.toList := ⟨_, rfl⟩
    obtain ⟨m, hm⟩ : ∃ m, m = minN s.data.toList := ⟨_, rfl⟩
    have hmm : (mB = true ∧ m = 1 ∧ 1 ≤ s.size) ∨ (mB = false ∧ m = 0) := by
      rw [hmB, hm]
      unfold minN
      cases h : minB s.data.toList with
      | true =>
        refine .inl ⟨rfl, rfl, ?_⟩
        unfold minB at h
        simp only [Bool.and_eq_true, decide_eq_true_eq] at h
        rw [HLL.out] at h
        omega
      | false => exact .inr ⟨rfl, rfl⟩
    have HMB : Hid (minB s.data.toList = mB) := hmB.symm
    have HMM : Hid (minN s.data.toList = m) := hm.symm
    have HBN : Hid _ := HB.out ha
    have HNN : Hid _ := HN.out ha
    rw [HMM.out] at HBN HNN HNV
    rw [HMB.out] at HNV
    have MBV : Hid (mB = (decide (0 < s.size) && decide (s.data.toList.getD 0 0 = 45))) := by
      show _ = _
      rw [hmB]; unfold minB; rw [HLL.out, Bool.and_comm]
    clear ha HA HB HN HML hmB hm HMB HMM
    go_enter Tryd.func18, Tryd.ntmps18
    go_wp2_with fail
    rw [← HW1.out]
    refine (AT.out _).mono ?_
    rintro e w2 ⟨rfl, rfl⟩
    go_upto_region 4 with fail
    go_cut [5] (fun s5 wc => s5 = .bool mB ∧ w2 = wc)
    case first =>
      by_cases hz : 0 < s.size
      · have hz' : (0 : Int) < (s.size : Int) := by omega
        have hb := byte_lt s 0 hz
        have hg := byte_getD s 0 hz
        by_cases h45 : s[0].toNat = 45
        · have h45' : ((s[0].toNat : Int) == 45) = true := by simp [h45]
          have HMT : Hid (mB = true) := by
            show _ = _
            rw [MBV.out, hg, decide_eq_true hz, Bool.true_and]
            exact decide_eq_true (UInt8.toNat_inj.1 h45)
          clear hg
          go_wp2_with fail
          go_meet
          case rel => exact ⟨by rw [HMT.out], rfl⟩
        · have h45' : ((s[0].toNat : Int) == 45) = false := by simp; omega
          have HMT : Hid (mB = false) := by
            show _ = _
            rw [MBV.out, hg, decide_eq_true hz, Bool.true_and]
            exact decide_eq_false (fun h => h45 (by rw [h]; rfl))
          clear hg
          go_wp2_with fail
          go_meet
          case rel => exact ⟨by rw [HMT.out], rfl⟩
      · have hz' : ¬ (0 : Int) < (s.size : Int) := by omega
        have HMT : Hid (mB = false) := by
          show _ = _
          rw [MBV.out, decide_eq_false hz, Bool.false_and]
        go_wp2_with fail
        go_meet
        case rel => exact ⟨by rw [HMT.out], rfl⟩
    case rest =>
      obtain ⟨rfl, rfl⟩ := hcut
      go_wp2_with fail
      go_loop [4, 6] (fun n i => ∃ k : Nat, k ≤ s.size ∧ n = .int .i64 (valOf ((s.data.toList.take k).drop m)) ∧ i = .int .i64 k ∧ Hid (allDig ((s.data.toList.take k).drop m) = true) ∧ Hid (m < k → s.size ≤ 10)) (fun _ i => s.size - (intOf i).toNat)
      case atStart => exact ⟨0, Nat.zero_le _, by simp [valOf], rfl, by show _ = _; simp [allDig], fun h => by omega⟩
      case round =>
        obtain ⟨k, hk, rfl, rfl, HD, HT⟩ := hrel
        by_cases hlt : k < s.size
        · by_cases hskip : k = 0 ∧ mB = true
          · obtain ⟨rfl, rfl⟩ := hskip
            have hm1 : m = 1 := by rcases hmm with ⟨_, h, _⟩ | ⟨h, _⟩; exact h; cases h
            subst hm1
            have E1 : (s.data.toList.take 0).drop 1 = [] := by simp
            have E2 : (s.data.toList.take 1).drop 1 = [] := List.drop_eq_nil_of_le (by rw [List.length_take]; omega)
            have HR : Hid (Value.int .i64 (valOf ((s.data.toList.take 0).drop 1)) = .int .i64 (valOf ((s.data.toList.take 1).drop 1))) := by show _ = _; rw [E1, E2]
            have HR2 : Hid (allDig ((s.data.toList.take 1).drop 1) = true) := by show _ = _; rw [E2]; rfl
            clear E1 E2
            generalize Value.int .i64 (valOf ((s.data.toList.take 0).drop 1)) = v0 at *
            go_wp2_with fail
            go_round
            case rel => exact ⟨1, by omega, HR.out, rfl, HR2.out, fun h => by omega⟩
            case measure => simp [intOf]; omega
          · have hmk : m ≤ k := by
              rcases hmm with ⟨h, h2, _⟩ | ⟨_, h2⟩
              · rw [h2]
                exact Nat.one_le_iff_ne_zero.2 (fun hk0 => hskip ⟨hk0, h⟩)
              · omega
            have HSK : Hid (¬ (k = 0 ∧ mB = true)) := hskip
            clear hskip
            go_upto_region 8 with fail
            go_cut [29] (fun s29 wc => s29 = .bool false ∧ w2 = wc)
            case first =>
              by_cases hk0 : k = 0
              · have hmf : mB = false := by cases mB; rfl; exact (HSK.out ⟨hk0, rfl⟩).elim
                have hk1 : ((k : Int) == 0) = true := by simp [hk0]
                clear hk0
                subst hmf
                go_wp2_with fail
                all_goals
                  go_meet
                  case rel => exact ⟨by first | rfl | simp [hk1], rfl⟩
              · have hk1 : ((k : Int) == 0) = false := by simp; omega
                have hk2 : ¬ (k : Int) = 0 := by omega
                go_wp2_with fail
                all_goals
                  go_meet
                  case rel => exact ⟨by first | rfl | simp [hk1], rfl⟩
            case rest =>
              obtain ⟨rfl, rfl⟩ := hcut
              have hb := byte_lt s k hlt
              have HG : Hid (s.data.toList.getD k 0 = s[k]) := byte_getD s k hlt
              have HKL : Hid (k < s.data.toList.length) := by show _ < _; rw [HLL.out]; exact hlt
              have hc : inB (s[k].toNat : Int) 48 57 = true ∨ inB (s[k].toNat : Int) 48 57 = false := by cases inB (s[k].toNat : Int) 48 57 <;> simp
              rcases hc with hc | hc
              · by_cases h10 : s.size ≤ 10
                · have h10' : ¬ (10 : Int) < (s.size : Int) := by omega
                  have hbd := valOf_bd 10 ((s.data.toList.take k).drop m) (by rw [List.length_drop, List.length_take]; omega) HD.out
                  have hdg := dig_of _ hc
                  have HS : Hid ((s.data.toList.take (k + 1)).drop m = (s.data.toList.take k).drop m ++ [s.data.toList.getD k 0]) := take_drop_snoc _ _ _ hmk HKL.out
                  have hgd : digB (s.data.toList.getD k 0) = true := by rw [HG.out]; exact hc
                  have HV : Hid (valOf ((s.data.toList.take (k + 1)).drop m) = 10 * valOf ((s.data.toList.take k).drop m) + (s[k].toNat : Int) - 48) := by show _ = _; rw [HS.out, valOf_snoc, HG.out]; rfl
                  have HDD : Hid (allDig ((s.data.toList.take (k + 1)).drop m) = true) := by
                    show _ = _
                    rw [HS.out]
                    have := HD.out
                    unfold allDig at *
                    rw [List.all_append, this]
                    show (true && (digB (s.data.toList.getD k 0) && true)) = true
                    rw [hgd]; rfl
                  generalize valOf ((s.data.toList.take k).drop m) = V at *
                  obtain ⟨hv0, hv1⟩ := hbd
                  obtain ⟨hd0, hd1⟩ := hdg
                  have hv2 : V < 10000000000 := hv1
                  clear HD HS hv1 hgd
                  go_wp2_with (go_at_call 27; go_must (refine (l01Digit_any _ _ hb.1 hb.2).mono ?_; rintro e w' ⟨rfl, rfl⟩))
                  all_goals try (exfalso; first | omega | (rename_i hy hx; exact Bool.false_ne_true (hc.symm.trans hy)) | (rename_i hx; exact hx hc) | (rename_i hx; exact Bool.false_ne_true (hc.symm.trans hx)) | (rename_i hx; exact Bool.false_ne_true (hx.symm.trans hc)))
                  go_round
                  case rel => exact ⟨k + 1, by omega, by rw [HV.out]; rfl, by go_num, HDD.out, fun _ => h10⟩
                  case measure => simp [intOf]; omega
                · have h10' : (10 : Int) < (s.size : Int) := by omega
                  have HR : Hid _ := END.out _ _ _ _ (HBN.out (.inr ⟨by rw [HLL.out]; omega, by rw [HLL.out]; omega⟩))
                  clear HBN HNN HNV
                  go_wp2_with (go_at_call 27; go_must (refine (l01Digit_any _ _ hb.1 hb.2).mono ?_; rintro e w' ⟨rfl, rfl⟩))
                  all_goals try (exfalso; first | omega | (rename_i hy hx; exact Bool.false_ne_true (hc.symm.trans hy)) | (rename_i hx; exact hx hc) | (rename_i hx; exact Bool.false_ne_true (hc.symm.trans hx)) | (rename_i hx; exact Bool.false_ne_true (hx.symm.trans hc)))
                  obtain ⟨h0, h1, h2, h3⟩ := HR.out
                  rw [h0, h1, h2, h3]
                  clear h0 h1 h2 h3
                  obtain ⟨hx, hb⟩ := FIN.out (0) (0) ⟨#[]⟩
                  have q0 := hx.cell 0 _ rfl
                  have q1 := hx.cell 1 _ rfl
                  have q2 := hx.cell 2 _ rfl
                  have q3 := hx.cell 3 _ rfl
                  exact bodyPost_ret (v := .tuple #[.agg #[.int .i64 (0), .int .i64 (0), .string ⟨#[]⟩, .slice none 0 0], .bool false]) (by simp [results, Tryd.results18, go_sem, q0, q1, q2, q3]) rfl ⟨rfl, hb⟩

              · have HR : Hid _ := END.out _ _ _ _ (HBN.out (.inl (allDig_no' (k := k) hmk HKL.out (by rw [HG.out]; exact hc))))
                clear HBN HNN HNV
                go_wp2_with (go_at_call 27; go_must (refine (l01Digit_any _ _ hb.1 hb.2).mono ?_; rintro e w' ⟨rfl, rfl⟩))
                all_goals try (exfalso; first | omega | (rename_i hy hx; exact Bool.false_ne_true (hc.symm.trans hy)) | (rename_i hx; exact hx hc) | (rename_i hx; exact Bool.false_ne_true (hc.symm.trans hx)) | (rename_i hx; exact Bool.false_ne_true (hx.symm.trans hc)))
                obtain ⟨h0, h1, h2, h3⟩ := HR.out
                rw [h0, h1, h2, h3]
                clear h0 h1 h2 h3
                obtain ⟨hx, hb⟩ := FIN.out (0) (0) ⟨#[]⟩
                have q0 := hx.cell 0 _ rfl
                have q1 := hx.cell 1 _ rfl
                have q2 := hx.cell 2 _ rfl
                have q3 := hx.cell 3 _ rfl
                exact bodyPost_ret (v := .tuple #[.agg #[.int .i64 (0), .int .i64 (0), .string ⟨#[]⟩, .slice none 0 0], .bool false]) (by simp [results, Tryd.results18, go_sem, q0, q1, q2, q3]) rfl ⟨rfl, hb⟩
        · have HK2 : Hid (s.data.toList.take k = s.data.toList) := List.take_of_length_le (by rw [HLL.out]; omega)
          have HD2 : Hid (allDig (s.data.toList.drop m) = true) := by have := HD.out; rw [HK2.out] at this; exact this
          have HRX : Hid (RES = (.mk 0 (numV s.data.toList) ⟨#[]⟩ [], decide (s.data.toList ≠ []) && ((Lib.itoa (numV s.data.toList) == s.data.toList) && inB (numV s.data.toList) (-999999999) 999999999))) := HNN.out HD2.out (fun h => by rw [HLL.out] at h ⊢; exact HT.out (by omega))
          have hbd := valOf_bd 10 (s.data.toList.drop m) (by
            rw [List.length_drop, HLL.out]
            by_cases hmk : m < k
            · have := HT.out hmk; omega
            · omega) HD2.out
          rw [HK2.out]
          obtain ⟨V, hV⟩ : ∃ V, V = valOf (s.data.toList.drop m) := ⟨_, rfl⟩
          rw [← hV] at hbd ⊢
          obtain ⟨hv0, hv1⟩ := hbd
          have hv2 : V < 10000000000 := hv1
          have HNW : Hid (numV s.data.toList = if mB = true then - V else V) := by show _ = _; rw [hV]; exact HNV.out
          generalize numV s.data.toList = NV at *
          clear hV HNV HNN HBN HK2 HD2 HD HT hv1
          have HR : Hid _ := END.out _ _ _ _ HRX.out
          clear HRX
          have hnb : -9223372036854775808 ≤ NV ∧ NV ≤ 9223372036854775807 := by rw [HNW.out]; split <;> omega
          have DT : Hid (∀ w', Calls Tryd.prog 28 #[.int .i64 NV] w' fun e w'' => e = .returned (.string ⟨(Lib.itoa NV).toArray⟩) ∧ w'' = w') := fun w' => specDecText_any NV w' hnb.1 hnb.2
          have WIN : Hid (∀ w', Calls Tryd.prog 29 #[.int .i64 NV, .int .i64 (-999999999), .int .i64 999999999] w' fun e w'' => e = .returned (.bool (inB NV (-999999999) 999999999)) ∧ w'' = w') := fun w' => l01In_any NV _ _ w'
          obtain ⟨hn1, hn2⟩ := hnb
          have HW : Hid (mB = true → IntKind.i64.wrap (- V) = NV) := fun h => by rw [HNW.out, h, if_pos rfl, IntKind.wrap_i64]; omega
          have HV0 : Hid (mB = false → V = NV) := fun h => by rw [HNW.out, h]; rfl
          cases mB with
          | true =>
            have hw := HW.out rfl
            clear HW HV0 HNW
            go_upto_region 14 with fail
            go_wp2_with (first | (go_at_call 28; go_must (refine (DT.out _).mono ?_; rintro e w' ⟨rfl, rfl⟩)) | (go_at_call 29; go_must (refine (WIN.out _).mono ?_; rintro e w' ⟨rfl, rfl⟩)))
            · have he : s.toList = [] := by assumption
              have hl : s.data.toList = [] := by rw [← Lib.toList_data]; exact he
              obtain ⟨h0, h1, h2, h3⟩ := HR.out
              rw [h0, h1, h2, h3]
              clear h0 h1 h2 h3
              obtain ⟨hx, hb⟩ := FIN.out 0 NV ⟨#[]⟩
              have q0 := hx.cell 0 _ rfl
              have q1 := hx.cell 1 _ rfl
              have q2 := hx.cell 2 _ rfl
              have q3 := hx.cell 3 _ rfl
              exact bodyPost_ret (v := .tuple #[.agg #[.int .i64 0, .int .i64 NV, .string ⟨#[]⟩, .slice none 0 0], .bool (false)]) (by simp [results, Tryd.results18, go_sem, q0, q1, q2, q3]) rfl ⟨by rw [hl]; simp, hb⟩
            · have he : ¬ s.toList = [] := by assumption
              have hd : Lib.itoa NV = s.toList := by assumption
              rw [Lib.toList_data] at he hd
              obtain ⟨h0, h1, h2, h3⟩ := HR.out
              rw [h0, h1, h2, h3]
              clear h0 h1 h2 h3
              obtain ⟨hx, hb⟩ := FIN.out 0 NV ⟨#[]⟩
              have q0 := hx.cell 0 _ rfl
              have q1 := hx.cell 1 _ rfl
              have q2 := hx.cell 2 _ rfl
              have q3 := hx.cell 3 _ rfl
              exact bodyPost_ret (v := .tuple #[.agg #[.int .i64 0, .int .i64 NV, .string ⟨#[]⟩, .slice none 0 0], .bool (!s.toList.isEmpty && inB NV (-999999999) 999999999)]) (by simp [results, Tryd.results18, go_sem, q0, q1, q2, q3]) rfl ⟨by rw [Lib.toList_data]; simp [he, hd, List.isEmpty_iff]; exact fun _ h => he (by rw [h]), hb⟩
            · have he : ¬ s.toList = [] := by assumption
              have hd : ¬ Lib.itoa NV = s.toList := by assumption
              rw [Lib.toList_data] at he hd
              obtain ⟨h0, h1, h2, h3⟩ := HR.out
              rw [h0, h1, h2, h3]
              clear h0 h1 h2 h3
              obtain ⟨hx, hb⟩ := FIN.out 0 NV ⟨#[]⟩
              have q0 := hx.cell 0 _ rfl
              have q1 := hx.cell 1 _ rfl
              have q2 := hx.cell 2 _ rfl
              have q3 := hx.cell 3 _ rfl
              exact bodyPost_ret (v := .tuple #[.agg #[.int .i64 0, .int .i64 NV, .string ⟨#[]⟩, .slice none 0 0], .bool (false)]) (by simp [results, Tryd.results18, go_sem, q0, q1, q2, q3]) rfl ⟨by simp [hd], hb⟩
          | false =>
            have hw := HV0.out rfl
            clear HW HV0 HNW
            subst hw
            go_upto_region 14 with fail
            go_wp2_with (first | (go_at_call 28; go_must (refine (DT.out _).mono ?_; rintro e w' ⟨rfl, rfl⟩)) | (go_at_call 29; go_must (refine (WIN.out _).mono ?_; rintro e w' ⟨rfl, rfl⟩)))
            · have he : s.toList = [] := by assumption
              have hl : s.data.toList = [] := by rw [← Lib.toList_data]; exact he
              obtain ⟨h0, h1, h2, h3⟩ := HR.out
              rw [h0, h1, h2, h3]
              clear h0 h1 h2 h3
              obtain ⟨hx, hb⟩ := FIN.out 0 V ⟨#[]⟩
              have q0 := hx.cell 0 _ rfl
              have q1 := hx.cell 1 _ rfl
              have q2 := hx.cell 2 _ rfl
              have q3 := hx.cell 3 _ rfl
              exact bodyPost_ret (v := .tuple #[.agg #[.int .i64 0, .int .i64 V, .string ⟨#[]⟩, .slice none 0 0], .bool (false)]) (by simp [results, Tryd.results18, go_sem, q0, q1, q2, q3]) rfl ⟨by rw [hl]; simp, hb⟩
            · have he : ¬ s.toList = [] := by assumption
              have hd : Lib.itoa V = s.toList := by assumption
              rw [Lib.toList_data] at he hd
              obtain ⟨h0, h1, h2, h3⟩ := HR.out
              rw [h0, h1, h2, h3]
              clear h0 h1 h2 h3
              obtain ⟨hx, hb⟩ := FIN.out 0 V ⟨#[]⟩
              have q0 := hx.cell 0 _ rfl
              have q1 := hx.cell 1 _ rfl
              have q2 := hx.cell 2 _ rfl
              have q3 := hx.cell 3 _ rfl
              exact bodyPost_ret (v := .tuple #[.agg #[.int .i64 0, .int .i64 V, .string ⟨#[]⟩, .slice none 0 0], .bool (!s.toList.isEmpty && inB V (-999999999) 999999999)]) (by simp [results, Tryd.results18, go_sem, q0, q1, q2, q3]) rfl ⟨by rw [Lib.toList_data]; simp [he, hd, List.isEmpty_iff]; exact fun _ h => he (by rw [h]), hb⟩
            · have he : ¬ s.toList = [] := by assumption
              have hd : ¬ Lib.itoa V = s.toList := by assumption
              rw [Lib.toList_data] at he hd
              obtain ⟨h0, h1, h2, h3⟩ := HR.out
              rw [h0, h1, h2, h3]
              clear h0 h1 h2 h3
              obtain ⟨hx, hb⟩ := FIN.out 0 V ⟨#[]⟩
              have q0 := hx.cell 0 _ rfl
              have q1 := hx.cell 1 _ rfl
              have q2 := hx.cell 2 _ rfl
              have q3 := hx.cell 3 _ rfl
              exact bodyPost_ret (v := .tuple #[.agg #[.int .i64 0, .int .i64 V, .string ⟨#[]⟩, .slice none 0 0], .bool (false)]) (by simp [results, Tryd.results18, go_sem, q0, q1, q2, q3]) rfl ⟨by simp [hd], hb⟩
end Go.Proofs.YtafehfpjogbmfaaDoor
