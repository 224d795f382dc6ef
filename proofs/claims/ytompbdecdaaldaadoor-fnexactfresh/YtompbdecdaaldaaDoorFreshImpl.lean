/-
  What the program's Fresh answers, by contract. Conditions: the row of used names is a row, of at most 1048576; the library's table of powers of ten holds them.
-/
import Derived.Test.YtompbdecdaaldaaDoorFreshSpec
import Derived.Test.YtompbdecdaaldaaDoorFrImp
import Derived.Test.YtompbdecdaaldaaDoorAddN
import Derived.WalkMore
namespace Go.Proofs.YtompbdecdaaldaaDoor
open Go.ChangeShapes Go.WideShapes Go.ChangeAt Go.RowKit Go.Maps Go.WideMaps
set_option linter.unusedVariables false
set_option maxRecDepth 100000

theorem mkMapF (w : World) : Sem.run Tryd.prog (Instr.makeMap 32 none) w = .ok (.map (some w.heap.size)) (w.alloc (.map #[] 0)) := by kernel_rfl
theorem zeroU (w : World) : (zeroValue 36).run Tryd.prog w = .ok (.agg #[]) w := by kernel_rfl
theorem withinF_any (a b c : Int) (w : World) : Calls Tryd.prog 14 #[.int .i64 a, .int .i64 b, .int .i64 c] w fun e w' => e = .returned (.bool (inF a b c)) ∧ w' = w := by
  by_cases h1 : b ≤ a <;> by_cases h2 : a ≤ c
  all_goals
    go_enter Tryd.func14, Tryd.ntmps14
    go_wp2
    go_ret
    exact ⟨ret_boolF (by simp [inF, h1, h2]), rfl⟩
theorem hasN_any (w : World) (mb n : Nat) (S : List UInt8 → Prop) (s : ByteArray) (b : Bool) (h : SetAt w mb n S) (hs : okS s) (hb : b = true ↔ S s.data.toList) :
    Calls Tryd.prog 17 #[.map (some mb), .string s] w fun e w' => e = .returned (.bool b) ∧ Below w.heap.size w w' := by
  obtain ⟨D, hm, hD, hh⟩ := h
  have H : Hid (w.ownsMap Tryd.prog 9 unitElem mb n D) := hm
  have hk : keyOf Tryd.prog 9 (.string s) = some (.string s.data.toList) := keyOf_string_mk Tryd.underlying9 hs
  have hB : has D (.string s.data.toList) = b := by
    have := hh s.data.toList
    cases hx : has D (.string s.data.toList) <;> cases b <;> simp_all
  clear hm
  go_enter Tryd.func17, Tryd.ntmps17
  go_wp2_with (at_lookup; refine wpList_lookup_own_unit _ rfl _ _ 32 rfl 9 36 lawN Tryd.underlying32 (zeroU _) mb n D rfl H.out _ _ rfl hk ?_)
  go_ret
  exact ⟨rfl, (Below.refl _ _).alloc (Nat.le_refl _) _⟩

theorem set_more {S : List UInt8 → Prop} {U : List ByteArray} {k : Nat} {x : ByteArray} (h : U[k]? = some x) (z : List UInt8) : ((S z ∨ ∃ y ∈ U.take k, z = y.data.toList) ∨ z = x.data.toList) ↔ (S z ∨ ∃ y ∈ U.take (k + 1), z = y.data.toList) := by
  rw [List.take_add_one, h]
  constructor
  · rintro ((h | ⟨y, hy, e⟩) | e)
    · exact .inl h
    · exact .inr ⟨y, by simp [hy], e⟩
    · exact .inr ⟨x, by simp, e⟩
  · rintro (h | ⟨y, hy, e⟩)
    · exact .inl (.inl h)
    · rcases List.mem_append.1 hy with hy | hy
      · exact .inl (.inr ⟨y, hy, e⟩)
      · obtain rfl : y = x := by simpa using hy
        exact .inr e
set_option maxHeartbeats 4000000 in
theorem addAll_any (w : World) (mb n : Nat) (S : List UInt8 → Prop) (v : Value) (U : List ByteArray) (h : SetAt w mb n S) (hv : Rows w (fun g => g ≠ mb) 1 HStr v U) (hn : n + U.length ≤ 1048576) :
    Calls Tryd.prog 15 #[.map (some mb), v] w fun e w' => e = .returned (.tuple #[]) ∧ SetAt w' mb (n + U.length) (fun z => S z ∨ ∃ x ∈ U, z = x.data.toList) ∧ Off [mb] w w' := by
  obtain ⟨p, cap, rfl, hcl, hcm, hx⟩ := hv
  have H0 : Hid (SetAt w mb n S) := h
  have HX : Hid (U ≠ [] → ∃ g off, p = some ⟨g, off, none⟩ ∧ g ≠ mb ∧ g < w.heap.size ∧ ∀ i x, U[i]? = some x → ∃ cs, cs.length = 1 ∧ (∀ j, j < 1 → w.cell? ⟨g, off + i * 1 + j, none⟩ = cs[j]?) ∧ HStr cs x) := hx
  generalize hm : U.length = m at *
  have HM : Hid (U.length = m) := hm
  clear h hx hm
  go_enter Tryd.func15, Tryd.ntmps15
  go_wp2_with fail
  go_loopw [8] (fun iv wr => ∃ k : Nat, k ≤ m ∧ iv = .int .i64 k ∧ Hid (SetAt wr mb (n + k) (fun z => S z ∨ ∃ x ∈ U.take k, z = x.data.toList)) ∧ Hid (Off [mb] w wr)) (fun iv _ => m - (intOf iv).toNat)
  case atStart => exact ⟨0, Nat.zero_le _, rfl, H0.out.iff (fun z => by simp), Off.refl _ _⟩
  case round =>
    obtain ⟨k, hk, rfl, hs, ho⟩ := hrel
    by_cases hlt : k < m
    · obtain ⟨x, hxk⟩ : ∃ x, U[k]? = some x := ⟨U[k]'(by rw [HM.out]; exact hlt), List.getElem?_eq_getElem _⟩
      obtain ⟨g, off, rfl, hgm, hgl, hat⟩ := HX.out (by intro h; rw [h] at hxk; simp at hxk)
      obtain ⟨cs, hcsl, hcs, rfl, hok⟩ := hat k x hxk
      have a0 := hcs 0 (by omega)
      have hbk : wr.heap[g]? = w.heap[g]? := ho.out.block g hgl (by simpa using hgm)
      rw [← World.cell?_of_block (a := ⟨g, off + k * 1 + 0, none⟩) hbk] at a0
      simp at a0
      have hki : (k : Int) < (m : Int) := by omega
      have hk0 : (0 : Int) ≤ (k : Int) := by omega
      have HN : Hid (∀ z, ((S z ∨ ∃ y ∈ U.take k, z = y.data.toList) ∨ z = x.data.toList) ↔ (S z ∨ ∃ y ∈ U.take (k + 1), z = y.data.toList)) := set_more hxk
      clear hcs hat hcsl hbk
      go_wp2_with (go_at_call 19; go_must (refine (addN_any _ _ _ _ _ hs.out hok (by unfold maxLen; omega)).mono ?_; rintro e w9 ⟨rfl, hs9, ho9⟩))
      exact ⟨⟨k + 1, by omega, by go_num, hs9.iff HN.out, ho.out.trans ho9⟩, by simp [intOf]; omega⟩
    · have HE : Hid (U.take k = U) := List.take_of_length_le (by rw [HM.out]; omega)
      go_wp2_with fail
      go_end0
      refine ⟨rfl, ?_, ho.out⟩
      have := hs.out
      rw [HE.out, show k = m by omega] at this
      exact this
theorem OwnS.ne_map {w : World} {B mb n : Nat} {v : Value} {l : List ByteArray} {S : List UInt8 → Prop} (h : OwnS w B v l) (hs : SetAt w mb n S) : v.ownBlock ≠ some mb := by
  intro e
  obtain ⟨D, ⟨es, clock, h1, h2⟩, h3⟩ := hs
  rcases h.1.2 with hn | ⟨g, cap, cur, hv, hB, hg, hr⟩
  · rw [hn.1] at e; cases e
  · rw [hv] at e
    have e' : g = mb := by simpa [Value.ownBlock] using e
    subst e'
    rw [hg] at h1
    cases h1
theorem has_iff {U : List ByteArray} (s : ByteArray) : hasS U s = true ↔ (False ∨ ∃ x ∈ U, s.data.toList = x.data.toList) := by
  unfold hasS
  rw [List.any_eq_true]
  constructor
  · rintro ⟨x, hx, e⟩
    have e := beq_iff_eq.1 e
    rw [ByteArray.toList_eq, ByteArray.toList_eq] at e
    exact .inr ⟨x, hx, e.symm⟩
  · rintro (h | ⟨x, hx, e⟩)
    · cases h
    · exact ⟨x, hx, beq_iff_eq.2 (by rw [ByteArray.toList_eq, ByteArray.toList_eq]; exact e.symm)⟩
theorem StrR.other {w w' : World} {v : Value} {U : List ByteArray} {mb : Nat} (h : StrR w v U) (hb : Below w.heap.size w w') (hm : w.heap.size ≤ mb) : Rows w' (fun g => g ≠ mb) 1 HStr v U := by
  obtain ⟨p, cap, hv, hcl, hcm, hx⟩ := h
  refine ⟨p, cap, hv, hcl, hcm, fun hne => ?_⟩
  obtain ⟨g, off, hp, -, hgl, hat⟩ := hx hne
  refine ⟨g, off, hp, by omega, Nat.lt_of_lt_of_le hgl hb.size, fun i x hi => ?_⟩
  obtain ⟨cs, h1, h2, h3⟩ := hat i x hi
  exact ⟨cs, h1, fun j hj => by rw [hb.cell (p := ⟨g, _, none⟩) hgl]; exact h2 j hj, h3⟩

set_option maxHeartbeats 4000000 in
theorem implFresh_any (w : World) (v : Value) (U : List ByteArray) (n : Int) (h : StrR w v U) (hU : U.length ≤ 1048576) (hp : PowAt w) :
    Calls Tryd.prog 7 #[v, .int .i64 n] w fun e w' => ∃ u, e = .returned u ∧ OwnS w' w.heap.size u (freshOf U n) ∧ Below w.heap.size w w' := by
  obtain ⟨ti, hi, hz0, hz1, hz2⟩ := info_parts info_str
  have O0 : Hid (OwnS (w.alloc (.cells #[] 9)) w.heap.size (.slice (some ⟨w.heap.size, 0, none⟩) 0 0) []) := OwnS.fresh
  have BL : Hid (Below w.heap.size w (w.alloc (.cells #[] 9))) := (Below.refl _ _).alloc (Nat.le_refl _) _
  have HS : Hid (StrR w v U) := h
  have HP : Hid (PowAt w) := hp
  clear h hp
  by_cases hin : 0 ≤ n ∧ n ≤ 60
  · obtain ⟨m, rfl⟩ : ∃ m : Nat, n = m := ⟨n.toNat, by omega⟩
    have hm : m ≤ 60 := by omega
    have CI : Hid (∀ w', Calls Tryd.prog 14 #[.int .i64 (m : Int), .int .i64 0, .int .i64 60] w' fun e w'' => e = .returned (.bool true) ∧ w'' = w') := fun w' => (withinF_any _ _ _ w').mono fun e w'' ⟨he, hw⟩ => ⟨he.trans (ret_boolF (by simp [inF]; omega)), hw⟩
    clear hin
    have sA : (w.alloc (.cells #[] 9)).heap.size = w.heap.size + 1 := alloc_hs _ _
    have BM : Hid (Below w.heap.size w ((w.alloc (.cells #[] 9)).alloc (.map #[] 0))) := BL.out.alloc BL.out.size _
    have SM : Hid (SetAt ((w.alloc (.cells #[] 9)).alloc (.map #[] 0)) (w.heap.size + 1) 0 (fun _ => False)) := by rw [← sA]; exact SetAt.made _
    have OM : Hid (OwnS ((w.alloc (.cells #[] 9)).alloc (.map #[] 0)) w.heap.size (.slice (some ⟨w.heap.size, 0, none⟩) 0 0) []) := O0.out.next ((Below.refl _ _).alloc (Nat.le_refl _) _)
    have RM : Hid (Rows ((w.alloc (.cells #[] 9)).alloc (.map #[] 0)) (fun g => g ≠ w.heap.size + 1) 1 HStr v U) := HS.out.other BM.out (by omega)
    have MK := mkMapF (w.alloc (.cells #[] 9))
    rw [sA] at MK
    clear sA
    go_enter Tryd.func7, Tryd.ntmps7
    go_wp2_with fail
    go_step3
    go_wp2_with (first
      | (go_at_call 14; go_must (refine (CI.out _).mono ?_; rintro e w9 ⟨rfl, hw9⟩; rw [hw9]; clear hw9 w9))
      | (go_at_call 15; go_must (refine (addAll_any _ _ _ _ _ _ SM.out RM.out (by omega)).mono ?_; rintro e wC ⟨rfl, hsC, hoC⟩)))
    go_step3
    go_wp2_with fail
    have S1 : Hid (SetAt wC (w.heap.size + 1) U.length (fun z => False ∨ ∃ x ∈ U, z = x.data.toList)) := by
      have := hsC; rw [Nat.zero_add] at this; exact this
    have B1 : Hid (Below w.heap.size w wC) := BM.out.trans (hoC.below (fun g hg => by simp at hg; omega) BM.out.size)
    have O1 : Hid (OwnS wC w.heap.size (.slice (some ⟨w.heap.size, 0, none⟩) 0 0) []) := by
      refine ⟨⟨OM.out.1.1, ?_⟩, B1.out.size⟩
      rcases OM.out.1.2 with hn | ⟨g, cap, cur, hv, hB, hg, hr⟩
      · exact .inl hn
      · refine .inr ⟨g, cap, cur, hv, hB, (hoC.block g (Array.getElem?_eq_some_iff.1 hg).1 ?_).trans hg, hr⟩
        have : w.heap.size = g := by simp at hv; exact hv.1
        simp; omega
    clear hsC hoC
    go_loopw [5, 7] (fun ov iv wr => ∃ i : Nat, i ≤ U.length + 60 ∧ iv = .int .i64 ((i : Int) + 1) ∧ Hid ((frL U i).length ≤ m) ∧ Hid (OwnS wr w.heap.size ov (frL U i)) ∧ Hid (SetAt wr (w.heap.size + 1) U.length (fun z => False ∨ ∃ x ∈ U, z = x.data.toList)) ∧ Hid (Below w.heap.size w wr)) (fun _ iv _ => U.length + 62 - (intOf iv).toNat)
    case atStart => exact ⟨0, Nat.zero_le _, rfl, by show _ ≤ _; simp [frL], O1.out, S1.out, B1.out⟩
    case round =>
      obtain ⟨i, hil, rfl, hlm, ho, hs, hb⟩ := hrel
      obtain ⟨ap, cap, hsl, hcap⟩ := ho.out.slice
      subst hsl
      have hle := frL_len U i
      have hlm' := hlm.out
      have PW : Hid (PowAt wr) := powAt_below HP.out hb.out
      have hLI : (Lib.itoa ((i : Int) + 1)).length ≤ 20 := by rw [itoa_pos _ (by omega)]; exact digits_le _ (by omega) (by omega)
      have ES : ((⟨#[73]⟩ : ByteArray) ++ ⟨(Lib.itoa ((i : Int) + 1)).toArray⟩) = frN (i + 1) := fr_str i _ (by omega)
      have OKF : Hid (okS (frN (i + 1))) := by
        have := okS_frN (i + 1) (by omega)
        show _ ≤ _; unfold maxLen; omega
      have FA : Hid ((frL U i).length = m → frL U i = freshOf U (m : Int)) := fun h => freshOf_at hm h
      generalize hJ : frL U i = J at *
      have HJ : Hid (frL U i = J) := hJ
      clear hJ
      by_cases hlt : J.length < m
      · have hne : ((J.length : Int) == (m : Int)) = false := by rw [beq_eq_false_iff_ne]; omega
        cases hq : hasS U (frN (i + 1)) with
        | true =>
          have HJ2 : Hid (frL U (i + 1) = J) := by show _ = _; rw [frL, hq, if_pos rfl]; exact HJ.out
          go_wp2_with (first
            | (go_at_call 16; go_must (refine (implDecText_any _ _ (by omega) (by omega) PW.out).mono ?_; rintro e w8 ⟨rfl, hb8⟩; have O8 : Hid (OwnS w8 w.heap.size (.slice ap J.length cap) J) := ho.out.next hb8; have S8 : Hid (SetAt w8 (w.heap.size + 1) U.length (fun z => False ∨ ∃ x ∈ U, z = x.data.toList)) := hs.out.keep (hb8.block _ hs.out.lt); have B8 : Hid (Below w.heap.size w w8) := hb.out.trans (hb8.mono hb.out.size); clear hb8))
            | (go_at_call 17; go_must (refine (hasN_any _ _ _ _ _ true S8.out OKF.out (by have hx := has_iff (U := U) (frN (i + 1)); rw [hq] at hx; exact hx)).mono ?_; rintro e w9 ⟨rfl, hb9⟩; have O9 : Hid (OwnS w9 w.heap.size (.slice ap J.length cap) J) := O8.out.next hb9; have S9 : Hid (SetAt w9 (w.heap.size + 1) U.length (fun z => False ∨ ∃ x ∈ U, z = x.data.toList)) := S8.out.keep (hb9.block _ S8.out.lt); have B9 : Hid (Below w.heap.size w w9) := B8.out.trans (hb9.mono B8.out.size); clear hb9)))
          exact ⟨⟨i + 1, by omega, by go_num, by show _ ≤ _; rw [HJ2.out]; omega, by show OwnS _ _ _ _; rw [HJ2.out]; exact O9.out, S9, B9⟩, by simp [intOf]; omega⟩
        | false =>
          have HJ2 : Hid (frL U (i + 1) = J ++ [frN (i + 1)]) := by show _ = _; rw [frL, hq, if_neg (by simp)]; rw [HJ.out]
          go_wp2_with (first
            | (go_at_call 16; go_must (refine (implDecText_any _ _ (by omega) (by omega) PW.out).mono ?_; rintro e w8 ⟨rfl, hb8⟩; have O8 : Hid (OwnS w8 w.heap.size (.slice ap J.length cap) J) := ho.out.next hb8; have S8 : Hid (SetAt w8 (w.heap.size + 1) U.length (fun z => False ∨ ∃ x ∈ U, z = x.data.toList)) := hs.out.keep (hb8.block _ hs.out.lt); have B8 : Hid (Below w.heap.size w w8) := hb.out.trans (hb8.mono hb.out.size); clear hb8))
            | (go_at_call 17; go_must (refine (hasN_any _ _ _ _ _ false S8.out OKF.out (by have hx := has_iff (U := U) (frN (i + 1)); rw [hq] at hx; exact hx)).mono ?_; rintro e w9 ⟨rfl, hb9⟩; have O9 : Hid (OwnS w9 w.heap.size (.slice ap J.length cap) J) := O8.out.next hb9; have S9 : Hid (SetAt w9 (w.heap.size + 1) U.length (fun z => False ∨ ∃ x ∈ U, z = x.data.toList)) := S8.out.keep (hb9.block _ S8.out.lt); have B9 : Hid (Below w.heap.size w w9) := B8.out.trans (hb9.mono B8.out.size); clear hb9))
            | (at_builtin; refine wpList_append_own _ rfl _ _ 22 rfl w.heap.size 9 ti (.string ⟨#[]⟩) 1 16 Tryd.underlying22 hi hz0 hz1 hz2 rfl (by decide) (.slice ap J.length cap) _ _ rfl (O9.out.next ((Below.refl _ _).alloc (Nat.le_refl _) _)).1 _ 1 1 (strs [frN (i + 1)]) rfl rfl (one_str w9 _ _ rfl) (strs_oneCell _) (by unfold maxLen; omega) (by omega) (O9.out.next ((Below.refl _ _).alloc (Nat.le_refl _) _)).2 ?_))
          intro u2 w2 hown2 hgr2 _
          have bA : Below w9.heap.size w9 (w9.alloc (.cells #[.string (frN (i + 1))] 9)) := (Below.refl _ _).alloc (Nat.le_refl _) _
          have OA := O9.out.next bA
          have SA : SetAt (w9.alloc (.cells #[.string (frN (i + 1))] 9)) (w.heap.size + 1) U.length (fun z => False ∨ ∃ x ∈ U, z = x.data.toList) := S9.out.keep (bA.block _ S9.out.lt)
          have SX : Hid (SetAt w2 (w.heap.size + 1) U.length (fun z => False ∨ ∃ x ∈ U, z = x.data.toList)) := SA.keep (hgr2.block _ SA.lt (fun e => OA.ne_map SA e.symm))
          have HO2 : Hid (OwnS w2 w.heap.size u2 (J ++ [frN (i + 1)])) := OwnS.of hown2 (by simp) rfl (Nat.le_trans OA.2 hgr2.size)
          have HB2 : Hid (Below w.heap.size w w2) := (B9.out.trans (bA.mono B9.out.size)).trans (OA.below hgr2)
          clear hown2 hgr2 SA OA bA
          go_wp2_with fail
          exact ⟨⟨i + 1, by omega, by go_num, by show _ ≤ _; rw [HJ2.out]; simp; omega, by show OwnS _ _ _ _; rw [HJ2.out]; exact HO2.out, SX, HB2⟩, by simp [intOf]; omega⟩
      · have HF : Hid (J = freshOf U (m : Int)) := FA.out (by omega)
        have hne : ((J.length : Int) == (m : Int)) = true := by rw [beq_iff_eq]; omega
        go_wp2_with (first
            | (go_at_call 16; go_must (refine (implDecText_any _ _ (by omega) (by omega) PW.out).mono ?_; rintro e w8 ⟨rfl, hb8⟩; have O8 : Hid (OwnS w8 w.heap.size (.slice ap J.length cap) J) := ho.out.next hb8; have S8 : Hid (SetAt w8 (w.heap.size + 1) U.length (fun z => False ∨ ∃ x ∈ U, z = x.data.toList)) := hs.out.keep (hb8.block _ hs.out.lt); have B8 : Hid (Below w.heap.size w w8) := hb.out.trans (hb8.mono hb.out.size); clear hb8)))
        try rw [Exit.noGoto_ret]
        go_ret
        exact ⟨_, rfl, by rw [← HF.out]; exact O8.out, B8.out⟩
  · have CI : Hid (∀ w', Calls Tryd.prog 14 #[.int .i64 n, .int .i64 0, .int .i64 60] w' fun e w'' => e = .returned (.bool false) ∧ w'' = w') := fun w' => (withinF_any _ _ _ w').mono fun e w'' ⟨he, hw⟩ => ⟨he.trans (ret_boolF (by simp only [inF, decide_eq_false_iff_not]; exact hin)), hw⟩
    have HF : Hid ([] = freshOf U n) := (freshOf_out hin).symm
    clear hin
    go_enter Tryd.func7, Tryd.ntmps7
    go_wp2_with fail
    go_step3
    go_wp2_with (first
      | (go_at_call 14; go_must (refine (CI.out _).mono ?_; rintro e w9 ⟨rfl, hw9⟩; rw [hw9]; clear hw9 w9)))
    try rw [Exit.noGoto_ret]
    go_ret
    exact ⟨_, rfl, by rw [← HF.out]; exact O0.out, BL.out⟩
end Go.Proofs.YtompbdecdaaldaaDoor
