/-
  The specification's chapter 4, by contract: l04PatVars.
-/
import Derived.Test.YtgmcjmmdhfbfpaaNameSpecA
import Derived.Test.YtgmcjmmdhfbfpaaNameMath
namespace Go.Proofs.Ytgmcjmmdhfbfpaa
open Go.ChangeShapes Go.WideShapes Go.ChangeAt Go.RowKit
set_option linter.unusedVariables false

theorem OwnS.base {w : World} {B B' : Nat} {v : Value} {l : List ByteArray} (h : OwnS w B v l) (hB : B' ≤ B) : OwnS w B' v l := by
  refine ⟨⟨h.1.1, ?_⟩, Nat.le_trans hB h.2⟩
  rcases h.1.2 with hn | ⟨g, cap, cur, hv, hb, hr⟩
  · exact .inl hn
  · exact .inr ⟨g, cap, cur, hv, Nat.le_trans hB hb, hr⟩

/-- A function of an expression that answers names, in new memory. -/
def NmC (F : FuncId) (d : Nat) (f : Ex → List ByteArray) : Prop :=
  ∀ (w : World) (cs : List Value) (x : Ex), HEx w All d cs x → wtEx d x ≤ 1048576 → Calls Try.prog F #[.agg cs.toArray] w fun e w' => ∃ u, e = .returned u ∧ OwnS w' w.heap.size u (f x) ∧ Below w.heap.size w w'

set_option maxHeartbeats 8000000 in
set_option maxRecDepth 100000 in
theorem patVars_of {d : Nat} (hE : NmC 28 d (patV d)) : NmC 28 (d + 1) (patV (d + 1)) := by
  intro w cs x h hwt
  have hok := h.txts
  obtain ⟨kv, cv, rfl, -, -, hts, hms, f0, -⟩ := h
  obtain ⟨kx, nx, tx, mx, ks, cl⟩ := x
  simp only [Ex.kind, Ex.n, Ex.text, Ex.mod, Ex.kids] at *
  have hw : wtEx (d + 1) (.mk kx nx tx mx ks cl) = tx.size + mx.size + wtS (wtEx d) ks + wtS (wtCl (wtEx d)) cl := rfl
  have wks : wtS (wtEx d) ks ≤ 1048576 := by omega
  obtain ⟨p, cap, rfl, hcl, hcm, hx⟩ := f0
  have hnb : ks.length ≤ 9223372036854775807 := by unfold maxLen at hcm; omega
  obtain ⟨i, hi, hz0, hz1, hz2⟩ := info_parts info_str
  have hpv : patV (d + 1) (.mk kx nx tx mx ks cl) = foldV (patV d) (if kx = 2 then [tx] else []) ks := rfl
  rw [hpv]
  have hl0 : (if kx = 2 then [tx] else ([] : List ByteArray)).length ≤ 1 := by split <;> simp
  have ok0 : ∀ s ∈ (if kx = 2 then [tx] else ([] : List ByteArray)), okS s := fun s hs => by
    split at hs
    · simp at hs; subst hs; exact hts
    · simp at hs
  have LQ : Hid (∀ k, (foldV (patV d) (if kx = 2 then [tx] else []) (ks.take k)).length ≤ 1048577) := fun k => by
    have h1 := foldV_len (patV d) (wtEx d) (ks.take k) (if kx = 2 then [tx] else []) (fun y _ => patV_len d y)
    have h2 : wtS (wtEx d) (ks.take k) ≤ wtS (wtEx d) ks := by
      have h3 := sum_take_le (wtEx d) ks k
      have h4 : (ks.take k).length ≤ ks.length := by rw [List.length_take]; omega
      unfold wtS; omega
    omega
  have OQ : Hid (∀ k, ∀ s ∈ foldV (patV d) (if kx = 2 then [tx] else []) (ks.take k), okS s) := fun k s hs => by
    rcases foldV_mem _ _ _ s hs with h | ⟨y, hy, h⟩
    · exact ok0 s h
    · exact patV_ok d y (hok.2.1 y (List.mem_of_mem_take hy)) s h
  have BX : Hid (∀ k x, ks[k]? = some x → wtEx d x ≤ 1048576 ∧ exS d x ∧ (patV d x).length ≤ 1048577) := fun k x hk => by
    have h1 := sum_take_succ (wtEx d) ks k x hk
    have h2 := sum_take_le (wtEx d) ks (k + 1)
    have h3 := patV_len d x
    have h4 : wtEx d x ≤ 1048576 := by unfold wtS at wks; omega
    exact ⟨h4, hok.2.1 x (List.mem_of_getElem? hk), by omega⟩
  generalize hn : ks.length = n at *
  have HN : Hid (ks.length = n) := hn
  have HX : Hid (ks ≠ [] → ∃ g off, p = some ⟨g, off, none⟩ ∧ All g ∧ g < w.heap.size ∧ ∀ i x, ks[i]? = some x → ∃ cs, cs.length = 6 ∧ (∀ j, j < 6 → w.cell? ⟨g, off + i * 6 + j, none⟩ = cs[j]?) ∧ HEx w All d cs x) := hx
  obtain ⟨W1, hW1⟩ : ∃ W1, W1 = w.alloc (.cells #[.int .i64 kx, .int .i64 nx, .string tx, .string mx, .slice p n cap, cv] 32) := ⟨_, rfl⟩
  have bA : Hid (Blk W1 w.heap.size #[.int .i64 kx, .int .i64 nx, .string tx, .string mx, .slice p n cap, cv] 32) := by show Blk _ _ _ _; rw [hW1]; exact Blk.new
  have B1 : Hid (Below w.heap.size w W1) := by show Below _ _ _; rw [hW1]; exact (Below.refl _ _).alloc (Nat.le_refl _) _
  have hs1 : W1.heap.size = w.heap.size + 1 := by rw [hW1]; simp
  have HW1 : Hid (W1 = w.alloc (.cells #[.int .i64 kx, .int .i64 nx, .string tx, .string mx, .slice p n cap, cv] 32)) := hW1
  have O1 : Hid (OwnS (W1.alloc (.cells #[] 9)) (w.heap.size + 1) (.slice (some ⟨w.heap.size + 1, 0, none⟩) 0 0) []) := by
    have := OwnS.fresh (w := W1)
    rwa [hs1] at this
  have BB : Hid (Below w.heap.size w (W1.alloc (.cells #[] 9))) := B1.out.alloc B1.out.size _
  have bB : Hid (Blk (W1.alloc (.cells #[] 9)) w.heap.size #[.int .i64 kx, .int .i64 nx, .string tx, .string mx, .slice p n cap, cv] 32) := bA.out.alloc
  clear hx hn hok ok0 hw hwt hW1 hpv
  by_cases k2 : kx = 2
  · subst k2
    simp only [if_true] at LQ OQ ⊢
    have O2 : Hid (OwnS ((W1.alloc (.cells #[] 9)).alloc (.cells #[.string tx] 9)) (w.heap.size + 1) (.slice (some ⟨w.heap.size + 1, 0, none⟩) 0 0) []) := O1.out.next ((Below.refl _ _).alloc (Nat.le_refl _) _)
    have N1 : Hid (∀ j u, (strs [tx])[j]? = some u → ((W1.alloc (.cells #[] 9)).alloc (.cells #[.string tx] 9)).cell? ((⟨w.heap.size + 1 + 1, 0, none⟩ : Addr).add j) = some u) := one_str _ tx _ (by simp only [alloc_hs]; omega)
    have B2 : Hid (Below w.heap.size w ((W1.alloc (.cells #[] 9)).alloc (.cells #[.string tx] 9))) := BB.out.alloc BB.out.size _
    have bC : Hid (Blk ((W1.alloc (.cells #[] 9)).alloc (.cells #[.string tx] 9)) w.heap.size #[.int .i64 2, .int .i64 nx, .string tx, .string mx, .slice p n cap, cv] 32) := bB.out.alloc
    have y0 := bB.out.cell 0 _ rfl
    have y2 := bB.out.cell 2 _ rfl
    go_enter Try.func28, Try.ntmps28
    go_wp2_with (first | (at_builtin; rw [← HW1.out]; refine wpList_append_own _ rfl _ _ 27 rfl (w.heap.size + 1) 9 i (.string ⟨#[]⟩) 1 16 Try.underlying27 hi hz0 hz1 hz2 rfl (by decide) (.slice (some ⟨w.heap.size + 1, 0, none⟩) 0 0) _ _ rfl O2.out.1 ⟨w.heap.size + 1 + 1, 0, none⟩ 1 1 (strs [tx]) rfl rfl N1.out (strs_oneCell _) (by unfold maxLen; simp) (by simp) O2.out.2 ?_))
    intro u2 w2 hown2 hgr2 _
    have HO2 : Hid (OwnS w2 w.heap.size u2 [tx]) := by
      have := OwnS.of (l := []) (m := [tx]) hown2 (by simp) rfl (Nat.le_trans O2.out.2 hgr2.size)
      exact OwnS.base (by simpa using this) (by omega)
    have bD : Hid (Blk w2 w.heap.size #[.int .i64 2, .int .i64 nx, .string tx, .string mx, .slice p n cap, cv] 32) := O2.out.blk hgr2 bC.out (by simp [Value.ownBlock])
    have HB2 : Hid (Below w.heap.size w w2) := B2.out.trans ((O2.out.below hgr2).mono (by omega))
    clear hown2 hgr2 y0 y2
    go_wp2_with fail
    go_loopw [3, 4] (fun ov iv wr => ∃ k : Nat, k ≤ n ∧ iv = .int .i64 k ∧ Hid (OwnS wr w.heap.size ov (foldV (patV d) [tx] (ks.take k))) ∧ Hid (Blk wr w.heap.size #[.int .i64 2, .int .i64 nx, .string tx, .string mx, .slice p n cap, cv] 32) ∧ Below w.heap.size w wr) (fun _ iv _ => n - (intOf iv).toNat)
    case atStart => exact ⟨0, Nat.zero_le _, rfl, HO2.out, bD.out, HB2.out⟩
    case round =>
      obtain ⟨k, hk, rfl, ho, hbk, hb⟩ := hrel
      have HB : Hid (Below w.heap.size w wr) := hb
      have xa4 := hbk.out.cell 4 _ rfl
      by_cases hlt : k < n
      · obtain ⟨x, hxk⟩ : ∃ x, ks[k]? = some x := ⟨ks[k]'(by rw [HN.out]; exact hlt), List.getElem?_eq_getElem _⟩
        obtain ⟨g, off, rfl, -, hgl, hat⟩ := HX.out (by intro h; rw [h] at hxk; simp at hxk)
        obtain ⟨cs, hcsl, hcs, r1⟩ := hat k x hxk
        have E1 : ∀ w', Below w.heap.size w w' → HEx w' All d cs x := fun w' hw => r1.mono (SameOn.of_below hw) (fun _ h => h)
        obtain ⟨c0, c1, c2, c3, c4, c5, rfl⟩ := len6 hcsl
        have a0 := hcs 0 (by omega)
        have a1 := hcs 1 (by omega)
        have a2 := hcs 2 (by omega)
        have a3 := hcs 3 (by omega)
        have a4 := hcs 4 (by omega)
        have a5 := hcs 5 (by omega)
        rw [← hb.cell (p := ⟨g, _, none⟩) hgl] at a0 a1 a2 a3 a4 a5
        simp at a0 a1 a2 a3 a4 a5
        have hki : (k : Int) < (n : Int) := by omega
        have hk0 : (0 : Int) ≤ (k : Int) := by omega
        obtain ⟨wx, sx, lx⟩ := BX.out k x hxk
        have HJ : Hid (foldV (patV d) [tx] (ks.take (k + 1)) = onceS (foldV (patV d) [tx] (ks.take k)) (patV d x)) := foldV_snoc _ _ ks k x hxk
        have lq := LQ.out k
        have oq := OQ.out k
        generalize hJ0 : foldV (patV d) [tx] (ks.take k) = J at *
        clear hb hcs hat hcsl r1 hJ0
        go_wp2_with fail
        refine (hE _ _ x (E1 _ HB.out) wx).mono ?_
        rintro e w4 ⟨u4, rfl, ho4, hb4⟩
        have HB4 : Hid (Below w.heap.size w w4) := HB.out.trans (hb4.mono HB.out.size)
        have SV : Hid (StrV w4 u3 J) := (ho.out.next hb4).strV oq
        have SR : Hid (StrR w4 u4 (patV d x)) := ho4.strR (patV_ok d x sx)
        have bk4 : Hid (Blk w4 w.heap.size #[.int .i64 2, .int .i64 nx, .string tx, .string mx, .slice (some ⟨g, off, none⟩) n cap, cv] 32) := hbk.out.next hb4
        clear hb4 ho4 xa4 a0 a1 a2 a3 a4 a5
        go_wp2_with fail
        refine (once_any _ _ _ J (patV d x) SV.out SR.out (by omega)).mono ?_
        rintro e w5 ⟨u5, rfl, ho5, hb5⟩
        have HB5 : Hid (Below w.heap.size w w5) := HB4.out.trans (hb5.mono HB4.out.size)
        have HO5 : Hid (OwnS w5 w.heap.size u5 (onceS J (patV d x))) := ho5.base HB4.out.size
        have bk5 : Hid (Blk w5 w.heap.size #[.int .i64 2, .int .i64 nx, .string tx, .string mx, .slice (some ⟨g, off, none⟩) n cap, cv] 32) := bk4.out.next hb5
        clear hb5 ho5
        go_wp2_with fail
        exact ⟨⟨k + 1, by omega, by go_num, by show OwnS _ _ _ _; rw [HJ.out]; exact HO5.out, bk5.out, HB5.out⟩, by simp [intOf]; omega⟩
      · have HS : Hid (OwnS wr w.heap.size u3 (foldV (patV d) [tx] ks)) := by
          have := ho.out
          rwa [List.take_of_length_le (by rw [HN.out]; omega)] at this
        clear hb
        go_wp2_with fail
        go_ret
        exact ⟨u3, rfl, HS.out, HB.out⟩
  · have L2 : (if kx = 2 then [tx] else ([] : List ByteArray)) = [] := if_neg k2
    simp only [L2] at LQ OQ ⊢
    clear L2
    have k2b : (kx == 2) = false := by simpa using k2
    have O9 : Hid (OwnS (W1.alloc (.cells #[] 9)) w.heap.size (.slice (some ⟨w.heap.size + 1, 0, none⟩) 0 0) []) := O1.out.base (by omega)
    have y0 := bA.out.cell 0 _ rfl
    go_enter Try.func28, Try.ntmps28
    go_wp2_with fail
    rw [← HW1.out]
    go_loopw [3, 4] (fun ov iv wr => ∃ k : Nat, k ≤ n ∧ iv = .int .i64 k ∧ Hid (OwnS wr w.heap.size ov (foldV (patV d) [] (ks.take k))) ∧ Hid (Blk wr w.heap.size #[.int .i64 kx, .int .i64 nx, .string tx, .string mx, .slice p n cap, cv] 32) ∧ Below w.heap.size w wr) (fun _ iv _ => n - (intOf iv).toNat)
    case atStart => exact ⟨0, Nat.zero_le _, rfl, O9.out, bB.out, BB.out⟩
    case round =>
      obtain ⟨k, hk, rfl, ho, hbk, hb⟩ := hrel
      have HB : Hid (Below w.heap.size w wr) := hb
      have xa4 := hbk.out.cell 4 _ rfl
      by_cases hlt : k < n
      · obtain ⟨x, hxk⟩ : ∃ x, ks[k]? = some x := ⟨ks[k]'(by rw [HN.out]; exact hlt), List.getElem?_eq_getElem _⟩
        obtain ⟨g, off, rfl, -, hgl, hat⟩ := HX.out (by intro h; rw [h] at hxk; simp at hxk)
        obtain ⟨cs, hcsl, hcs, r1⟩ := hat k x hxk
        have E1 : ∀ w', Below w.heap.size w w' → HEx w' All d cs x := fun w' hw => r1.mono (SameOn.of_below hw) (fun _ h => h)
        obtain ⟨c0, c1, c2, c3, c4, c5, rfl⟩ := len6 hcsl
        have a0 := hcs 0 (by omega)
        have a1 := hcs 1 (by omega)
        have a2 := hcs 2 (by omega)
        have a3 := hcs 3 (by omega)
        have a4 := hcs 4 (by omega)
        have a5 := hcs 5 (by omega)
        rw [← hb.cell (p := ⟨g, _, none⟩) hgl] at a0 a1 a2 a3 a4 a5
        simp at a0 a1 a2 a3 a4 a5
        have hki : (k : Int) < (n : Int) := by omega
        have hk0 : (0 : Int) ≤ (k : Int) := by omega
        obtain ⟨wx, sx, lx⟩ := BX.out k x hxk
        have HJ : Hid (foldV (patV d) [] (ks.take (k + 1)) = onceS (foldV (patV d) [] (ks.take k)) (patV d x)) := foldV_snoc _ _ ks k x hxk
        have lq := LQ.out k
        have oq := OQ.out k
        generalize hJ0 : foldV (patV d) [] (ks.take k) = J at *
        clear hb hcs hat hcsl r1 hJ0
        go_wp2_with fail
        refine (hE _ _ x (E1 _ HB.out) wx).mono ?_
        rintro e w4 ⟨u4, rfl, ho4, hb4⟩
        have HB4 : Hid (Below w.heap.size w w4) := HB.out.trans (hb4.mono HB.out.size)
        have SV : Hid (StrV w4 u3 J) := (ho.out.next hb4).strV oq
        have SR : Hid (StrR w4 u4 (patV d x)) := ho4.strR (patV_ok d x sx)
        have bk4 : Hid (Blk w4 w.heap.size #[.int .i64 kx, .int .i64 nx, .string tx, .string mx, .slice (some ⟨g, off, none⟩) n cap, cv] 32) := hbk.out.next hb4
        clear hb4 ho4 xa4 a0 a1 a2 a3 a4 a5
        go_wp2_with fail
        refine (once_any _ _ _ J (patV d x) SV.out SR.out (by omega)).mono ?_
        rintro e w5 ⟨u5, rfl, ho5, hb5⟩
        have HB5 : Hid (Below w.heap.size w w5) := HB4.out.trans (hb5.mono HB4.out.size)
        have HO5 : Hid (OwnS w5 w.heap.size u5 (onceS J (patV d x))) := ho5.base HB4.out.size
        have bk5 : Hid (Blk w5 w.heap.size #[.int .i64 kx, .int .i64 nx, .string tx, .string mx, .slice (some ⟨g, off, none⟩) n cap, cv] 32) := bk4.out.next hb5
        clear hb5 ho5
        go_wp2_with fail
        exact ⟨⟨k + 1, by omega, by go_num, by show OwnS _ _ _ _; rw [HJ.out]; exact HO5.out, bk5.out, HB5.out⟩, by simp [intOf]; omega⟩
      · have HS : Hid (OwnS wr w.heap.size u3 (foldV (patV d) [] ks)) := by
          have := ho.out
          rwa [List.take_of_length_le (by rw [HN.out]; omega)] at this
        clear hb
        go_wp2_with fail
        go_ret
        exact ⟨u3, rfl, HS.out, HB.out⟩

theorem patVars_all : ∀ d, NmC 28 d (patV d)
  | 0 => fun w cs x h _ => h.elim
  | d + 1 => patVars_of (patVars_all d)
end Go.Proofs.Ytgmcjmmdhfbfpaa
