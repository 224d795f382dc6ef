/-
  The specification's chapter 4, by contract: l01Has, l04Once, l04PatVars.
-/
import Derived.Test.YtgmcjmmdhfbfpaaStrRow
namespace Go.Proofs.Ytgmcjmmdhfbfpaa
open Go.ChangeShapes Go.WideShapes Go.ChangeAt Go.RowKit
set_option linter.unusedVariables false

theorem anyT_succ' {α : Type} (f : α → Bool) (xs : List α) (k : Nat) (x : α) (h : xs[k]? = some x) (ht : (xs.take k).any f = false) (hx : f x = false) : (xs.take (k + 1)).any f = false := by
  rw [List.take_add_one, h, List.any_append, ht]; simp [hx]
theorem anyT_at' {α : Type} (f : α → Bool) (xs : List α) (k : Nat) (x : α) (h : xs[k]? = some x) (hx : f x = true) : xs.any f = true := by
  rw [List.any_eq_true]; exact ⟨x, List.mem_of_getElem? h, hx⟩

set_option maxHeartbeats 1000000 in
theorem hasS_any (w : World) (v : Value) (xs : List ByteArray) (s : ByteArray) (h : StrR w v xs) :
    Calls Try.prog 35 #[v, .string s] w fun e w' => e = .returned (.bool (hasS xs s)) ∧ w' = w := by
  have hv : hasS xs s = xs.any (fun x => x.toList == s.toList) := rfl
  rw [hv]
  clear hv
  obtain ⟨p, cap, rfl, hcl, hcm, hx⟩ := h
  have hnb : xs.length ≤ 9223372036854775807 := by unfold maxLen at hcm; omega
  generalize hn : xs.length = n at *
  have HN : Hid (xs.length = n) := hn
  have HX : Hid (xs ≠ [] → ∃ g off, p = some ⟨g, off, none⟩ ∧ All g ∧ g < w.heap.size ∧ ∀ i x, xs[i]? = some x → ∃ cs, cs.length = 1 ∧ (∀ j, j < 1 → w.cell? ⟨g, off + i * 1 + j, none⟩ = cs[j]?) ∧ HStr cs x) := hx
  clear hx hn
  go_enter Try.func35, Try.ntmps35
  go_wp2
  go_loop [5] (fun iv => ∃ k : Nat, k ≤ n ∧ iv = .int .i64 k ∧ Hid ((xs.take k).any (fun x => x.toList == s.toList) = false)) (fun iv => n - (intOf iv).toNat)
  case atStart => exact ⟨0, Nat.zero_le _, rfl, by show _ = _; simp⟩
  case round =>
    obtain ⟨k, hk, rfl, hno⟩ := hrel
    by_cases hlt : k < n
    · obtain ⟨x, hxk⟩ : ∃ x, xs[k]? = some x := ⟨xs[k]'(by rw [HN.out]; exact hlt), List.getElem?_eq_getElem _⟩
      obtain ⟨g, off, rfl, -, hgl, hat⟩ := HX.out (by intro h; rw [h] at hxk; simp at hxk)
      obtain ⟨cs, hcsl, hcs, rfl, -⟩ := hat k x hxk
      have a0 := hcs 0 (by omega)
      simp at a0
      have hki : (k : Int) < (n : Int) := by omega
      have hk0 : (0 : Int) ≤ (k : Int) := by omega
      clear hcs hat hcsl
      cases hq : (x.toList == s.toList) with
      | true =>
        have HS : Hid ((xs.any fun x => x.toList == s.toList) = true) := anyT_at' _ xs k x hxk hq
        go_wp2
        go_ret
        exact ⟨by rw [HS.out]; rfl, rfl⟩
      | false =>
        have HS : Hid ((xs.take (k + 1)).any (fun x => x.toList == s.toList) = false) := anyT_succ' _ xs k x hxk hno.out hq
        go_wp2
        go_round
        case rel => exact ⟨k + 1, by omega, by go_num, HS⟩
        case measure => simp [intOf]; omega
    · have HS : Hid ((xs.any fun x => x.toList == s.toList) = false) := by
        have := hno.out
        rwa [List.take_of_length_le (by rw [HN.out]; omega)] at this
      go_wp2
      go_ret
      exact ⟨by rw [HS.out]; rfl, rfl⟩

theorem one_str (W : World) (s : ByteArray) (g : Nat) (hg : g = W.heap.size) : ∀ j u, (strs [s])[j]? = some u → (W.alloc (.cells #[.string s] 9)).cell? ((⟨g, 0, none⟩ : Addr).add j) = some u := by
  subst hg
  intro j u h
  match j, h with
  | 0, h => simp [strs] at h; subst h; rw [Addr.add]; exact cell_new W _ _ 0 _ rfl

set_option maxHeartbeats 4000000 in
set_option maxRecDepth 100000 in
/-- Names with more behind. -/
theorem once_any (w : World) (v1 v2 : Value) (xs ys : List ByteArray) (h1 : StrV w v1 xs) (h2 : StrR w v2 ys) (hl : xs.length + ys.length ≤ 8388608) :
    Calls Try.prog 29 #[v1, v2] w fun e w' => ∃ u, e = .returned u ∧ OwnS w' w.heap.size u (onceS xs ys) ∧ Below w.heap.size w w' := by
  obtain ⟨h1, hnil⟩ := h1
  have OX := h1.okS
  have OY := h2.okS
  obtain ⟨p, cap, rfl, hcl, hcm, hx⟩ := h1
  obtain ⟨q, cap', rfl, hcl', hcm', hy⟩ := h2
  obtain ⟨i, hi, hz0, hz1, hz2⟩ := info_parts info_str
  have hlx : xs.length ≤ 8388608 := by omega
  have hly : ys.length ≤ 8388608 := by omega
  have LQ : Hid (∀ k, (onceS xs (ys.take k)).length ≤ 8388608) := fun k => by
    have h3 := onceS_length xs (ys.take k)
    have h4 : (ys.take k).length ≤ ys.length := by rw [List.length_take]; omega
    omega
  have OQ : Hid (∀ k, ∀ x ∈ onceS xs (ys.take k), okS x) := fun k x hx => by
    rcases onceS_mem _ _ x hx with h | h
    · exact OX x h
    · exact OY x (List.mem_of_mem_take h)
  have HY : Hid (ys ≠ [] → ∃ g off, q = some ⟨g, off, none⟩ ∧ All g ∧ g < w.heap.size ∧ ∀ i x, ys[i]? = some x → ∃ cs, cs.length = 1 ∧ (∀ j, j < 1 → w.cell? ⟨g, off + i * 1 + j, none⟩ = cs[j]?) ∧ HStr cs x) := hy
  have O0 : Hid (OwnS (w.alloc (.cells #[] 9)) w.heap.size (.slice (some ⟨w.heap.size, 0, none⟩) 0 0) []) := OwnS.fresh
  have BL : Hid (Below w.heap.size w (w.alloc (.cells #[] 9))) := (Below.refl _ _).alloc (Nat.le_refl _) _
  have HC : Hid (∀ a, p = some a → ∀ j u, (strs xs)[j]? = some u → (w.alloc (.cells #[] 9)).cell? (a.add j) = some u) := fun a ha j u hj => by
    have hne : xs ≠ [] := by intro e; rw [e] at hj; simp [strs] at hj
    obtain ⟨g, off, hp, -, hgl, hat⟩ := hx hne
    have hj' := hj
    simp only [strs, List.getElem?_map, Option.map_eq_some_iff] at hj'
    obtain ⟨x, hxj, rfl⟩ := hj'
    obtain ⟨cs, _, hcs, rfl, _⟩ := hat j x hxj
    have h0 := hcs 0 (by omega)
    rw [hp] at ha
    obtain rfl := Option.some.inj ha
    have e1 : (⟨g, off, none⟩ : Addr).add j = ⟨g, off + j * 1 + 0, none⟩ := by simp [Addr.add]
    rw [e1, BL.out.cell (p := ⟨g, _, none⟩) hgl]
    exact h0
  generalize hn : ys.length = n at *
  have HN : Hid (ys.length = n) := hn
  clear hy OX OY hx hn
  cases p with
  | none =>
    have hxs : xs = [] := by
      have := hnil _ _ rfl
      simp only [Value.slice.injEq, true_and] at this
      exact List.length_eq_zero_iff.1 this.1
    have hcz : cap = 0 := by
      have := hnil _ _ rfl
      simp only [Value.slice.injEq, true_and] at this
      exact this.2
    subst hxs hcz
    simp only [List.length_nil] at *
    clear hnil
    go_enter Try.func29, Try.ntmps29
    go_wp2_with (first | (at_builtin; refine wpList_append_own_none rfl _ _ 27 rfl w.heap.size 9 i 1 Try.underlying27 hi _ _ _ rfl O0.out.1 rfl ?_))
    have HO1 := O0
    have HB1 := BL
    go_wp2_with fail
    go_loopw [5, 6] (fun ov iv wr => ∃ k : Nat, k ≤ n ∧ iv = .int .i64 k ∧ Hid (OwnS wr w.heap.size ov (onceS [] (ys.take k))) ∧ Below w.heap.size w wr) (fun _ iv _ => n - (intOf iv).toNat)
    case atStart => exact ⟨0, Nat.zero_le _, rfl, HO1.out, HB1.out⟩
    case round =>
      obtain ⟨k, hk, rfl, ho, hb⟩ := hrel
      have HB : Hid (Below w.heap.size w wr) := hb
      by_cases hlt : k < n
      · obtain ⟨y, hyk⟩ : ∃ y, ys[k]? = some y := ⟨ys[k]'(by rw [HN.out]; exact hlt), List.getElem?_eq_getElem _⟩
        obtain ⟨g, off, rfl, -, hgl, hat⟩ := HY.out (by intro h; rw [h] at hyk; simp at hyk)
        obtain ⟨cs, hcsl, hcs, rfl, -⟩ := hat k y hyk
        have a0 := hcs 0 (by omega)
        rw [← hb.cell (p := ⟨g, _, none⟩) hgl] at a0
        simp at a0
        have hki : (k : Int) < (n : Int) := by omega
        have hk0 : (0 : Int) ≤ (k : Int) := by omega
        have HJ : Hid (onceS [] (ys.take (k + 1)) = if hasS (onceS [] (ys.take k)) y then onceS [] (ys.take k) else onceS [] (ys.take k) ++ [y]) := by
          show _ = _
          rw [List.take_add_one, hyk]
          exact onceS_snoc [] (ys.take k) y
        have lq := LQ.out k
        have oq := OQ.out k
        have SR : Hid (StrR wr u5 (onceS [] (ys.take k))) := ho.out.strR oq
        generalize hJ0 : onceS [] (ys.take k) = J at *
        clear hb hcs hat hcsl oq hJ0
        cases hq : hasS J y with
        | true =>
          have HJ2 : Hid (onceS [] (ys.take (k + 1)) = J) := by show _ = _; rw [HJ.out, hq]; rfl
          go_wp2_with (first | (go_at_call 35; go_must (refine (hasS_any _ _ _ _ SR.out).mono ?_; rintro e w9 ⟨rfl, hw9⟩; rw [hq, hw9]; clear hw9 w9)))
          exact ⟨⟨k + 1, by omega, by go_num, by show OwnS _ _ _ _; rw [HJ2.out]; exact ho.out, HB.out⟩, by simp [intOf]; omega⟩
        | false =>
          have HJ2 : Hid (onceS [] (ys.take (k + 1)) = J ++ [y]) := by show _ = _; rw [HJ.out, hq]; rfl
          have OA : Hid (OwnS (wr.alloc (.cells #[.string y] 9)) w.heap.size u5 J) := ho.out.next ((Below.refl _ _).alloc (Nat.le_refl _) _)
          have N1 : Hid (∀ j u, (strs [y])[j]? = some u → (wr.alloc (.cells #[.string y] 9)).cell? ((⟨wr.heap.size, 0, none⟩ : Addr).add j) = some u) := one_str wr y _ rfl
          have BA : Hid (Below w.heap.size w (wr.alloc (.cells #[.string y] 9))) := HB.out.alloc HB.out.size _
          go_wp2_with (first | (go_at_call 35; go_must (refine (hasS_any _ _ _ _ SR.out).mono ?_; rintro e w9 ⟨rfl, hw9⟩; rw [hq, hw9]; clear hw9 w9)) | (at_builtin; refine wpList_append_own _ rfl _ _ 27 rfl w.heap.size 9 i (.string ⟨#[]⟩) 1 16 Try.underlying27 hi hz0 hz1 hz2 rfl (by decide) u5 _ _ rfl OA.out.1 _ 1 1 (strs [y]) rfl rfl N1.out (strs_oneCell _) (by unfold maxLen; omega) (by omega) OA.out.2 ?_))
          intro u2 w2 hown2 hgr2 _
          have HO2 : Hid (OwnS w2 w.heap.size u2 (J ++ [y])) := OwnS.of hown2 (by simp) rfl (Nat.le_trans OA.out.2 hgr2.size)
          have HB2 : Hid (Below w.heap.size w w2) := BA.out.trans (OA.out.below hgr2)
          clear hown2 hgr2
          go_wp2_with fail
          exact ⟨⟨k + 1, by omega, by go_num, by show OwnS _ _ _ _; rw [HJ2.out]; exact HO2.out, HB2.out⟩, by simp [intOf]; omega⟩
      · have HS : Hid (OwnS wr w.heap.size u5 (onceS [] ys)) := by
          have := ho.out
          rwa [List.take_of_length_le (by rw [HN.out]; omega)] at this
        clear hb
        go_wp2_with fail
        go_ret
        exact ⟨u5, rfl, HS.out, HB.out⟩
  | some a =>
    go_enter Try.func29, Try.ntmps29
    go_wp2_with (first | (at_builtin; refine wpList_append_own _ rfl _ _ 27 rfl w.heap.size 9 i (.string ⟨#[]⟩) 1 16 Try.underlying27 hi hz0 hz1 hz2 rfl (by decide) _ _ _ rfl O0.out.1 a xs.length cap (strs xs) rfl (by rw [strs_length]; omega) (HC.out a rfl) (strs_oneCell _) (by unfold maxLen; simp only [List.length_nil]; omega) (by simp only [List.length_nil]; omega) O0.out.2 ?_))
    intro u1 w1 hown1 hgr1 _
    have HO1 : Hid (OwnS w1 w.heap.size u1 xs) := by
      have := OwnS.of (l := []) (m := xs) hown1 (by simp) (by simp [strs]) (Nat.le_trans O0.out.2 hgr1.size)
      show OwnS _ _ _ _
      simpa using this
    have HB1 : Hid (Below w.heap.size w w1) := BL.out.trans (O0.out.below hgr1)
    clear hown1 hgr1
    go_wp2_with fail
    go_loopw [5, 6] (fun ov iv wr => ∃ k : Nat, k ≤ n ∧ iv = .int .i64 k ∧ Hid (OwnS wr w.heap.size ov (onceS xs (ys.take k))) ∧ Below w.heap.size w wr) (fun _ iv _ => n - (intOf iv).toNat)
    case atStart => exact ⟨0, Nat.zero_le _, rfl, HO1.out, HB1.out⟩
    case round =>
      obtain ⟨k, hk, rfl, ho, hb⟩ := hrel
      have HB : Hid (Below w.heap.size w wr) := hb
      by_cases hlt : k < n
      · obtain ⟨y, hyk⟩ : ∃ y, ys[k]? = some y := ⟨ys[k]'(by rw [HN.out]; exact hlt), List.getElem?_eq_getElem _⟩
        obtain ⟨g, off, rfl, -, hgl, hat⟩ := HY.out (by intro h; rw [h] at hyk; simp at hyk)
        obtain ⟨cs, hcsl, hcs, rfl, -⟩ := hat k y hyk
        have a0 := hcs 0 (by omega)
        rw [← hb.cell (p := ⟨g, _, none⟩) hgl] at a0
        simp at a0
        have hki : (k : Int) < (n : Int) := by omega
        have hk0 : (0 : Int) ≤ (k : Int) := by omega
        have HJ : Hid (onceS xs (ys.take (k + 1)) = if hasS (onceS xs (ys.take k)) y then onceS xs (ys.take k) else onceS xs (ys.take k) ++ [y]) := by
          show _ = _
          rw [List.take_add_one, hyk]
          exact onceS_snoc xs (ys.take k) y
        have lq := LQ.out k
        have oq := OQ.out k
        have SR : Hid (StrR wr u5 (onceS xs (ys.take k))) := ho.out.strR oq
        generalize hJ0 : onceS xs (ys.take k) = J at *
        clear hb hcs hat hcsl oq hJ0
        cases hq : hasS J y with
        | true =>
          have HJ2 : Hid (onceS xs (ys.take (k + 1)) = J) := by show _ = _; rw [HJ.out, hq]; rfl
          go_wp2_with (first | (go_at_call 35; go_must (refine (hasS_any _ _ _ _ SR.out).mono ?_; rintro e w9 ⟨rfl, hw9⟩; rw [hq, hw9]; clear hw9 w9)))
          exact ⟨⟨k + 1, by omega, by go_num, by show OwnS _ _ _ _; rw [HJ2.out]; exact ho.out, HB.out⟩, by simp [intOf]; omega⟩
        | false =>
          have HJ2 : Hid (onceS xs (ys.take (k + 1)) = J ++ [y]) := by show _ = _; rw [HJ.out, hq]; rfl
          have OA : Hid (OwnS (wr.alloc (.cells #[.string y] 9)) w.heap.size u5 J) := ho.out.next ((Below.refl _ _).alloc (Nat.le_refl _) _)
          have N1 : Hid (∀ j u, (strs [y])[j]? = some u → (wr.alloc (.cells #[.string y] 9)).cell? ((⟨wr.heap.size, 0, none⟩ : Addr).add j) = some u) := one_str wr y _ rfl
          have BA : Hid (Below w.heap.size w (wr.alloc (.cells #[.string y] 9))) := HB.out.alloc HB.out.size _
          go_wp2_with (first | (go_at_call 35; go_must (refine (hasS_any _ _ _ _ SR.out).mono ?_; rintro e w9 ⟨rfl, hw9⟩; rw [hq, hw9]; clear hw9 w9)) | (at_builtin; refine wpList_append_own _ rfl _ _ 27 rfl w.heap.size 9 i (.string ⟨#[]⟩) 1 16 Try.underlying27 hi hz0 hz1 hz2 rfl (by decide) u5 _ _ rfl OA.out.1 _ 1 1 (strs [y]) rfl rfl N1.out (strs_oneCell _) (by unfold maxLen; omega) (by omega) OA.out.2 ?_))
          intro u2 w2 hown2 hgr2 _
          have HO2 : Hid (OwnS w2 w.heap.size u2 (J ++ [y])) := OwnS.of hown2 (by simp) rfl (Nat.le_trans OA.out.2 hgr2.size)
          have HB2 : Hid (Below w.heap.size w w2) := BA.out.trans (OA.out.below hgr2)
          clear hown2 hgr2
          go_wp2_with fail
          exact ⟨⟨k + 1, by omega, by go_num, by show OwnS _ _ _ _; rw [HJ2.out]; exact HO2.out, HB2.out⟩, by simp [intOf]; omega⟩
      · have HS : Hid (OwnS wr w.heap.size u5 (onceS xs ys)) := by
          have := ho.out
          rwa [List.take_of_length_le (by rw [HN.out]; omega)] at this
        clear hb
        go_wp2_with fail
        go_ret
        exact ⟨u5, rfl, HS.out, HB.out⟩
end Go.Proofs.Ytgmcjmmdhfbfpaa
