/-
  The specification's l04All: all variables of an expression, each once.
-/
import Derived.Test.YtgmcjmmdhfbfpaaNameSpecB
import Derived.Test.YtgmcjmmdhfbfpaaNameMath2
namespace Go.Proofs.Ytgmcjmmdhfbfpaa
open Go.ChangeShapes Go.WideShapes Go.ChangeAt Go.RowKit
set_option linter.unusedVariables false
set_option maxRecDepth 100000

theorem Got.once {d : Nat} {x : Ex} {l m : List ByteArray} (h : Got d x l) (hs : ∀ s ∈ m, keyS s ∈ varL d x ∧ okS s) : Got d x (onceS l m) :=
  ⟨onceS_nd _ _ h.nd, fun s hs' => by rcases onceS_mem _ _ s hs' with h1 | h1; exact h.sub s h1; exact (hs s h1).1, fun s hs' => by rcases onceS_mem _ _ s hs' with h1 | h1; exact h.ok s h1; exact (hs s h1).2⟩
/-- One cell of an expression's row, and what lies there. -/
def ExAt (w : World) (d : Nat) (p : Option Addr) (ks : List Ex) : Prop := ks ≠ [] → ∃ g off, p = some ⟨g, off, none⟩ ∧ All g ∧ g < w.heap.size ∧ ∀ i x, ks[i]? = some x → ∃ cs, cs.length = 6 ∧ (∀ j, j < 6 → w.cell? ⟨g, off + i * 6 + j, none⟩ = cs[j]?) ∧ HEx w All d cs x
theorem foldC_snoc (f : Ex → List ByteArray) (l : List ByteArray) (cs : List Cl) (k : Nat) (c : Cl) (h : cs[k]? = some c) : (cs.take (k + 1)).foldl (allC f) l = foldV f (foldV f ((cs.take k).foldl (allC f) l) c.1) c.2 := by
  rw [List.take_add_one, h]; simp [allC]

set_option maxHeartbeats 16000000 in
theorem all_of {d : Nat} (hE : NmC 16 d (allV d)) : NmC 16 (d + 1) (allV (d + 1)) := by
  intro w cs x h hwt
  have hok := h.txts
  have HEX : Hid (HEx w All (d + 1) cs x) := h
  obtain ⟨kv, cv, rfl, -, -, hts, hms, f0, f1⟩ := h
  obtain ⟨kx, nx, tx, mx, ks, cl⟩ := x
  simp only [Ex.kind, Ex.n, Ex.text, Ex.mod, Ex.kids, Ex.clauses] at *
  have hw : wtEx (d + 1) (.mk kx nx tx mx ks cl) = tx.size + mx.size + wtS (wtEx d) ks + wtS (wtCl (wtEx d)) cl := rfl
  have wks : wtS (wtEx d) ks ≤ 1048576 := by omega
  have wcl : wtS (wtCl (wtEx d)) cl ≤ 1048576 := by omega
  obtain ⟨p, cap, rfl, hcl, hcm, hx⟩ := f0
  obtain ⟨pc, capc, rfl, hcl', hcm', hxc⟩ := f1
  have hnb : ks.length ≤ 9223372036854775807 := by unfold maxLen at hcm; omega
  have hnc : cl.length ≤ 9223372036854775807 := by unfold maxLen at hcm'; omega
  have HX : Hid (ExAt w d p ks) := hx
  have HXC : Hid (cl ≠ [] → ∃ g off, pc = some ⟨g, off, none⟩ ∧ All g ∧ g < w.heap.size ∧ ∀ i x, cl[i]? = some x → ∃ cs, cs.length = 2 ∧ (∀ j, j < 2 → w.cell? ⟨g, off + i * 2 + j, none⟩ = cs[j]?) ∧ HCl w All (HEx w All d) cs x) := hxc
  have HW : Hid (wtEx (d + 1) (.mk kx nx tx mx ks cl) ≤ 1048576) := hwt
  have HOK : Hid (exS (d + 1) (.mk kx nx tx mx ks cl)) := hok
  -- how the kids and the clauses' expressions are bounded
  have BK : Hid (∀ (j : Nat) y, ks[j]? = some y → wtEx d y ≤ 1048576 ∧ (∀ s ∈ allV d y, keyS s ∈ varL (d + 1) (.mk kx nx tx mx ks cl) ∧ okS s) ∧ exS d y) := fun j y hj => by
    have h1 := sum_take_succ (wtEx d) ks j y hj
    have h2 := sum_take_le (wtEx d) ks (j + 1)
    have hm := List.mem_of_getElem? hj
    exact ⟨by unfold wtS at wks; omega, fun s hs => ⟨varL_kid hm (allV_sub d y s hs), allV_ok d y (hok.2.1 y hm) s hs⟩, hok.2.1 y hm⟩
  have BC : Hid (∀ (i : Nat) c, cl[i]? = some c → ∀ y, (y ∈ c.1 ∨ y ∈ c.2) → wtEx d y ≤ 1048576 ∧ (∀ s ∈ allV d y, keyS s ∈ varL (d + 1) (.mk kx nx tx mx ks cl) ∧ okS s) ∧ exS d y) := fun i c hi y hy => by
    have h1 := sum_take_succ (wtCl (wtEx d)) cl i c hi
    have h2 := sum_take_le (wtCl (wtEx d)) cl (i + 1)
    have hm := List.mem_of_getElem? hi
    have hc : wtCl (wtEx d) c = wtS (wtEx d) c.1 + wtS (wtEx d) c.2 := rfl
    have hy' : wtEx d y ≤ wtCl (wtEx d) c := by
      rcases hy with hy | hy
      · obtain ⟨q, hq⟩ := List.mem_iff_getElem?.1 hy
        have g1 := sum_take_succ (wtEx d) c.1 q y hq
        have g2 := sum_take_le (wtEx d) c.1 (q + 1)
        unfold wtS at hc; omega
      · obtain ⟨q, hq⟩ := List.mem_iff_getElem?.1 hy
        have g1 := sum_take_succ (wtEx d) c.2 q y hq
        have g2 := sum_take_le (wtEx d) c.2 (q + 1)
        unfold wtS at hc; omega
    have he : exS d y := by
      rcases hy with hy | hy
      · exact (hok.2.2 c hm).1 y hy
      · exact (hok.2.2 c hm).2 y hy
    exact ⟨by unfold wtS at wcl; omega, fun s hs => ⟨varL_cl hm hy (allV_sub d y s hs), allV_ok d y he s hs⟩, he⟩
  have G0 : Hid (Got (d + 1) (.mk kx nx tx mx ks cl) (patV (d + 1) (.mk kx nx tx mx ks cl))) := ⟨patV_nd _ _, patV_sub _ _, patV_ok _ _ hok⟩
  have hall : allV (d + 1) (.mk kx nx tx mx ks cl) = cl.foldl (allC (allV d)) (foldV (allV d) (patV (d + 1) (.mk kx nx tx mx ks cl)) ks) := rfl
  rw [hall]
  generalize hP0 : patV (d + 1) (.mk kx nx tx mx ks cl) = P0 at *
  have HP0 : Hid (patV (d + 1) (.mk kx nx tx mx ks cl) = P0) := hP0
  clear hx hxc hwt hok hall hP0 hw
  generalize hn : ks.length = n at *
  have HN : Hid (ks.length = n) := hn
  generalize hm : cl.length = nc at *
  have HNC : Hid (cl.length = nc) := hm
  clear hn hm
  have bA : Hid (Blk (w.alloc (.cells #[.int .i64 kx, .int .i64 nx, .string tx, .string mx, .slice p n cap, .slice pc nc capc] 32)) w.heap.size #[.int .i64 kx, .int .i64 nx, .string tx, .string mx, .slice p n cap, .slice pc nc capc] 32) := Blk.new
  have BA : Hid (Below w.heap.size w (w.alloc (.cells #[.int .i64 kx, .int .i64 nx, .string tx, .string mx, .slice p n cap, .slice pc nc capc] 32))) := (Below.refl _ _).alloc (Nat.le_refl _) _
  have EA : Hid (HEx (w.alloc (.cells #[.int .i64 kx, .int .i64 nx, .string tx, .string mx, .slice p n cap, .slice pc nc capc] 32)) All (d + 1) [.int .i64 kx, .int .i64 nx, .string tx, .string mx, .slice p n cap, .slice pc nc capc] (.mk kx nx tx mx ks cl)) := HEX.out.mono (SameOn.of_below BA.out) (fun _ h => h)
  go_enter Try.func16, Try.ntmps16
  go_wp2_with fail
  have q0 := patVars_all (d + 1) _ _ _ EA.out HW.out
  rw [HP0.out] at q0
  refine q0.mono ?_
  rintro e w1 ⟨u1, rfl, ho1, hb1⟩
  have O1 : Hid (OwnS w1 w.heap.size u1 P0) := ho1.base BA.out.size
  have B1 : Hid (Below w.heap.size w w1) := BA.out.trans (hb1.mono BA.out.size)
  have b1 : Hid (Blk w1 w.heap.size #[.int .i64 kx, .int .i64 nx, .string tx, .string mx, .slice p n cap, .slice pc nc capc] 32) := bA.out.next hb1
  clear q0 ho1 hb1 EA bA BA HEX
  go_wp2_with fail
  go_loopw [3, 4] (fun ov iv wr => ∃ k : Nat, k ≤ n ∧ iv = .int .i64 k ∧ Hid (OwnS wr w.heap.size ov (foldV (allV d) P0 (ks.take k))) ∧ Hid (Got (d + 1) (.mk kx nx tx mx ks cl) (foldV (allV d) P0 (ks.take k))) ∧ Hid (Blk wr w.heap.size #[.int .i64 kx, .int .i64 nx, .string tx, .string mx, .slice p n cap, .slice pc nc capc] 32) ∧ Hid (Below w.heap.size w wr)) (fun _ iv _ => n - (intOf iv).toNat)
  case atStart => exact ⟨0, Nat.zero_le _, rfl, O1.out, G0.out, b1.out, B1.out⟩
  case round =>
    obtain ⟨k, hk, rfl, ho, hg, hbk, HB⟩ := hrel
    clear O1 b1 B1
    have xa4 := hbk.out.cell 4 _ rfl
    have xa5 := hbk.out.cell 5 _ rfl
    by_cases hlt : k < n
    · obtain ⟨x, hxk⟩ : ∃ x, ks[k]? = some x := ⟨ks[k]'(by rw [HN.out]; exact hlt), List.getElem?_eq_getElem _⟩
      obtain ⟨g, off, rfl, -, hgl, hat⟩ := HX.out (by intro h; rw [h] at hxk; simp at hxk)
      obtain ⟨cs, hcsl, hcs, r1⟩ := hat k x hxk
      have E1 : ∀ w', Below w.heap.size w w' → HEx w' All d cs x := fun w' hw => r1.mono (SameOn.of_below hw) (fun _ h => h)
      obtain ⟨c0, c1, c2, c3, c4, c5, rfl⟩ := len6 hcsl
      have a0 := hcs 0 (by omega)
      have a1 := hcs 1 (by omega)
      have a2 := hcs 2 (by omega)
      have a3 := hcs 3 (by omega)
      have a4 := hcs 4 (by omega)
      have a5 := hcs 5 (by omega)
      rw [← HB.out.cell (p := ⟨g, _, none⟩) hgl] at a0 a1 a2 a3 a4 a5
      simp at a0 a1 a2 a3 a4 a5
      have hki : (k : Int) < (n : Int) := by omega
      have hk0 : (0 : Int) ≤ (k : Int) := by omega
      obtain ⟨wx, sx, ex⟩ := BK.out k x hxk
      have GX : Hid (Got (d + 1) (.mk kx nx tx mx ks cl) (onceS (foldV (allV d) P0 (ks.take k)) (allV d x))) := hg.out.once sx
      have HJ : Hid (foldV (allV d) P0 (ks.take (k + 1)) = onceS (foldV (allV d) P0 (ks.take k)) (allV d x)) := foldV_snoc _ _ ks k x hxk
      have lq := hg.out.len HW.out
      have lx := (allV_got ex).len wx
      have OX : Hid (∀ s ∈ allV d x, okS s) := fun s hs => (sx s hs).2
      have OJ : Hid (∀ s ∈ foldV (allV d) P0 (ks.take k), okS s) := hg.out.ok
      generalize hJ0 : foldV (allV d) P0 (ks.take k) = J at *
      clear hcs hat hcsl r1 hJ0 hg sx
      go_wp2_with fail
      refine (hE _ _ x (E1 _ HB.out) wx).mono ?_
      rintro e w4 ⟨u4, rfl, ho4, hb4⟩
      have HB4 : Hid (Below w.heap.size w w4) := HB.out.trans (hb4.mono HB.out.size)
      have SV : Hid (StrV w4 u3 J) := (ho.out.next hb4).strV OJ.out
      have SR : Hid (StrR w4 u4 (allV d x)) := ho4.strR OX.out
      have bk4 : Hid (Blk w4 w.heap.size #[.int .i64 kx, .int .i64 nx, .string tx, .string mx, .slice (some ⟨g, off, none⟩) n cap, .slice pc nc capc] 32) := hbk.out.next hb4
      clear hb4 ho4 xa4 xa5 a0 a1 a2 a3 a4 a5
      go_wp2_with fail
      refine (once_any _ _ _ J (allV d x) SV.out SR.out (by omega)).mono ?_
      rintro e w5 ⟨u5, rfl, ho5, hb5⟩
      have HB5 : Hid (Below w.heap.size w w5) := HB4.out.trans (hb5.mono HB4.out.size)
      have HO5 : Hid (OwnS w5 w.heap.size u5 (onceS J (allV d x))) := ho5.base HB4.out.size
      have bk5 : Hid (Blk w5 w.heap.size #[.int .i64 kx, .int .i64 nx, .string tx, .string mx, .slice (some ⟨g, off, none⟩) n cap, .slice pc nc capc] 32) := bk4.out.next hb5
      clear hb5 ho5
      go_wp2_with fail
      exact ⟨⟨k + 1, by omega, by go_num, by show OwnS _ _ _ _; rw [HJ.out]; exact HO5.out, by show Got _ _ _; rw [HJ.out]; exact GX.out, bk5.out, HB5.out⟩, by simp [intOf]; omega⟩
    · have HS : Hid (OwnS wr w.heap.size u3 (foldV (allV d) P0 ks)) := by
        have := ho.out
        rwa [List.take_of_length_le (by rw [HN.out]; omega)] at this
      have GS : Hid (Got (d + 1) (.mk kx nx tx mx ks cl) (foldV (allV d) P0 ks)) := by
        have := hg.out
        rwa [List.take_of_length_le (by rw [HN.out]; omega)] at this
      generalize hP1 : foldV (allV d) P0 ks = P1 at HS GS
      have HP1 : Hid (foldV (allV d) P0 ks = P1) := hP1
      clear hP1
      clear ho hg
      go_wp2_with fail
      go_loopw [3, 5] (fun ov iv wr => ∃ i : Nat, i ≤ nc ∧ iv = .int .i64 i ∧ Hid (OwnS wr w.heap.size ov ((cl.take i).foldl (allC (allV d)) P1)) ∧ Hid (Got (d + 1) (.mk kx nx tx mx ks cl) ((cl.take i).foldl (allC (allV d)) P1)) ∧ Hid (Blk wr w.heap.size #[.int .i64 kx, .int .i64 nx, .string tx, .string mx, .slice p n cap, .slice pc nc capc] 32) ∧ Hid (Below w.heap.size w wr)) (fun _ iv _ => nc - (intOf iv).toNat)
      case atStart => exact ⟨0, Nat.zero_le _, rfl, HS.out, GS.out, hbk.out, HB.out⟩
      case round =>
        clear HS GS hbk HB xa4 xa5
        obtain ⟨i, hi, rfl, hoI, hgI, hbI, HBI⟩ := hrel
        have xa5 := hbI.out.cell 5 _ rfl
        by_cases hlt : i < nc
        · obtain ⟨c, hci⟩ : ∃ c, cl[i]? = some c := ⟨cl[i]'(by rw [HNC.out]; exact hlt), List.getElem?_eq_getElem _⟩
          obtain ⟨gc, oc, rfl, -, hgcl, hat⟩ := HXC.out (by intro h; rw [h] at hci; simp at hci)
          obtain ⟨cs, hcsl, hcs, pv, bv, rfl, rp, rb⟩ := hat i c hci
          obtain ⟨pp, capp, rfl, hp1, hp2, hxp⟩ := rp
          obtain ⟨pb, capb, rfl, hb1, hb2, hxb⟩ := rb
          have y0 := hcs 0 (by omega)
          have y1 := hcs 1 (by omega)
          simp at y0 y1
          have hnp : c.1.length ≤ 9223372036854775807 := by unfold maxLen at hp2; omega
          have hnb' : c.2.length ≤ 9223372036854775807 := by unfold maxLen at hb2; omega
          generalize hnp0 : c.1.length = np at *
          generalize hnb0 : c.2.length = nb at *
          have HN0 : Hid (c.1.length = np) := hnp0
          have HN1 : Hid (c.2.length = nb) := hnb0
          have HXP0 : Hid (ExAt w d pp c.1) := hxp
          have HXP1 : Hid (ExAt w d pb c.2) := hxb
          have HP0c : Hid (w.cell? ⟨gc, oc + i * 2, none⟩ = some (.slice pp np capp)) := y0
          have HP1c : Hid (w.cell? ⟨gc, oc + i * 2 + 1, none⟩ = some (.slice pb nb capb)) := y1
          have HJC : Hid ((cl.take (i + 1)).foldl (allC (allV d)) P1 = foldV (allV d) (foldV (allV d) ((cl.take i).foldl (allC (allV d)) P1) c.1) c.2) := foldC_snoc _ _ cl i c hci
          have hii : (i : Int) < (nc : Int) := by omega
          have hi0 : (0 : Int) ≤ (i : Int) := by omega
          generalize (cl.take i).foldl (allC (allV d)) P1 = J at *
          clear hat hcs hcsl hxp hxb y0 y1 hnp0 hnb0
          go_wp2_with fail
          go_loopw [3, 6] (fun ov iv wr => ∃ k : Nat, k ≤ np ∧ iv = .int .i64 k ∧ Hid (OwnS wr w.heap.size ov (foldV (allV d) J (c.1.take k))) ∧ Hid (Got (d + 1) (.mk kx nx tx mx ks cl) (foldV (allV d) J (c.1.take k))) ∧ Hid (Blk wr w.heap.size #[.int .i64 kx, .int .i64 nx, .string tx, .string mx, .slice p n cap, .slice (some ⟨gc, oc, none⟩) nc capc] 32) ∧ Hid (Below w.heap.size w wr)) (fun _ iv _ => np - (intOf iv).toNat)
          case atStart => exact ⟨0, Nat.zero_le _, rfl, hoI.out, hgI.out, hbI.out, HBI.out⟩
          case round =>
            obtain ⟨k, hk, rfl, ho, hg, hbk, HB⟩ := hrel
            have xa5 := hbk.out.cell 5 _ rfl
            have xp0 := (HB.out.cell (p := ⟨gc, oc + i * 2, none⟩) hgcl).trans HP0c.out
            have xp1 := (HB.out.cell (p := ⟨gc, oc + i * 2 + 1, none⟩) hgcl).trans HP1c.out
            by_cases hlk : k < np
            · obtain ⟨x, hxk⟩ : ∃ x, c.1[k]? = some x := ⟨c.1[k]'(by rw [HN0.out]; exact hlk), List.getElem?_eq_getElem _⟩
              obtain ⟨g, off, rfl, -, hgl, hat⟩ := HXP0.out (by intro h; rw [h] at hxk; simp at hxk)
              obtain ⟨cs, hcsl, hcs, r1⟩ := hat k x hxk
              have E1 : ∀ w', Below w.heap.size w w' → HEx w' All d cs x := fun w' hw => r1.mono (SameOn.of_below hw) (fun _ h => h)
              obtain ⟨c0, c1, c2, c3, c4, c5, rfl⟩ := len6 hcsl
              have a0 := hcs 0 (by omega)
              have a1 := hcs 1 (by omega)
              have a2 := hcs 2 (by omega)
              have a3 := hcs 3 (by omega)
              have a4 := hcs 4 (by omega)
              have a5 := hcs 5 (by omega)
              rw [← HB.out.cell (p := ⟨g, _, none⟩) hgl] at a0 a1 a2 a3 a4 a5
              simp at a0 a1 a2 a3 a4 a5
              have hki : (k : Int) < (np : Int) := by omega
              have hk0 : (0 : Int) ≤ (k : Int) := by omega
              obtain ⟨wx, sx, ex⟩ := BC.out i c hci x (.inl (List.mem_of_getElem? hxk))
              have GX : Hid (Got (d + 1) (.mk kx nx tx mx ks cl) (onceS (foldV (allV d) J (c.1.take k)) (allV d x))) := hg.out.once sx
              have HJ : Hid (foldV (allV d) J (c.1.take (k + 1)) = onceS (foldV (allV d) J (c.1.take k)) (allV d x)) := foldV_snoc _ _ c.1 k x hxk
              have lq := hg.out.len HW.out
              have lx := (allV_got ex).len wx
              have OX : Hid (∀ s ∈ allV d x, okS s) := fun s hs => (sx s hs).2
              have OJ : Hid (∀ s ∈ foldV (allV d) J (c.1.take k), okS s) := hg.out.ok
              generalize hJ0 : foldV (allV d) J (c.1.take k) = J at *
              clear hcs hat hcsl r1 hJ0 hg sx
              go_wp2_with fail
              refine (hE _ _ x (E1 _ HB.out) wx).mono ?_
              rintro e w4 ⟨u4, rfl, ho4, hb4⟩
              have HB4 : Hid (Below w.heap.size w w4) := HB.out.trans (hb4.mono HB.out.size)
              have SV : Hid (StrV w4 u3 J) := (ho.out.next hb4).strV OJ.out
              have SR : Hid (StrR w4 u4 (allV d x)) := ho4.strR OX.out
              have bk4 : Hid (Blk w4 w.heap.size #[.int .i64 kx, .int .i64 nx, .string tx, .string mx, .slice p n cap, .slice (some ⟨gc, oc, none⟩) nc capc] 32) := hbk.out.next hb4
              clear hb4 ho4 xa5 xp0 xp1 a0 a1 a2 a3 a4 a5
              go_wp2_with fail
              refine (once_any _ _ _ J (allV d x) SV.out SR.out (by omega)).mono ?_
              rintro e w5 ⟨u5, rfl, ho5, hb5⟩
              have HB5 : Hid (Below w.heap.size w w5) := HB4.out.trans (hb5.mono HB4.out.size)
              have HO5 : Hid (OwnS w5 w.heap.size u5 (onceS J (allV d x))) := ho5.base HB4.out.size
              have bk5 : Hid (Blk w5 w.heap.size #[.int .i64 kx, .int .i64 nx, .string tx, .string mx, .slice p n cap, .slice (some ⟨gc, oc, none⟩) nc capc] 32) := bk4.out.next hb5
              clear hb5 ho5
              go_wp2_with fail
              exact ⟨⟨k + 1, by omega, by go_num, by show OwnS _ _ _ _; rw [HJ.out]; exact HO5.out, by show Got _ _ _; rw [HJ.out]; exact GX.out, bk5.out, HB5.out⟩, by simp [intOf]; omega⟩
            · have HS0 : Hid (OwnS wr w.heap.size u3 (foldV (allV d) J c.1)) := by
                have := ho.out
                rwa [List.take_of_length_le (by rw [HN0.out]; omega)] at this
              have GS0 : Hid (Got (d + 1) (.mk kx nx tx mx ks cl) (foldV (allV d) J c.1)) := by
                have := hg.out
                rwa [List.take_of_length_le (by rw [HN0.out]; omega)] at this
              clear ho hg
              have HBq : Hid (Below w.heap.size w wr) := HB.out
              have hbq : Hid (Blk wr w.heap.size #[.int .i64 kx, .int .i64 nx, .string tx, .string mx, .slice p n cap, .slice (some ⟨gc, oc, none⟩) nc capc] 32) := hbk.out
              clear HB hbk
              go_wp2_with fail
              go_loopw [3, 7] (fun ov iv wr => ∃ k : Nat, k ≤ nb ∧ iv = .int .i64 k ∧ Hid (OwnS wr w.heap.size ov (foldV (allV d) (foldV (allV d) J c.1) (c.2.take k))) ∧ Hid (Got (d + 1) (.mk kx nx tx mx ks cl) (foldV (allV d) (foldV (allV d) J c.1) (c.2.take k))) ∧ Hid (Blk wr w.heap.size #[.int .i64 kx, .int .i64 nx, .string tx, .string mx, .slice p n cap, .slice (some ⟨gc, oc, none⟩) nc capc] 32) ∧ Hid (Below w.heap.size w wr)) (fun _ iv _ => nb - (intOf iv).toNat)
              case atStart => exact ⟨0, Nat.zero_le _, rfl, HS0.out, GS0.out, hbq.out, HBq.out⟩
              case round =>
                obtain ⟨k, hk, rfl, ho, hg, hbk, HB⟩ := hrel
                have xa5 := hbk.out.cell 5 _ rfl
                have xp0 := (HB.out.cell (p := ⟨gc, oc + i * 2, none⟩) hgcl).trans HP0c.out
                have xp1 := (HB.out.cell (p := ⟨gc, oc + i * 2 + 1, none⟩) hgcl).trans HP1c.out
                by_cases hlk : k < nb
                · obtain ⟨x, hxk⟩ : ∃ x, c.2[k]? = some x := ⟨c.2[k]'(by rw [HN1.out]; exact hlk), List.getElem?_eq_getElem _⟩
                  obtain ⟨g, off, rfl, -, hgl, hat⟩ := HXP1.out (by intro h; rw [h] at hxk; simp at hxk)
                  obtain ⟨cs, hcsl, hcs, r1⟩ := hat k x hxk
                  have E1 : ∀ w', Below w.heap.size w w' → HEx w' All d cs x := fun w' hw => r1.mono (SameOn.of_below hw) (fun _ h => h)
                  obtain ⟨c0, c1, c2, c3, c4, c5, rfl⟩ := len6 hcsl
                  have a0 := hcs 0 (by omega)
                  have a1 := hcs 1 (by omega)
                  have a2 := hcs 2 (by omega)
                  have a3 := hcs 3 (by omega)
                  have a4 := hcs 4 (by omega)
                  have a5 := hcs 5 (by omega)
                  rw [← HB.out.cell (p := ⟨g, _, none⟩) hgl] at a0 a1 a2 a3 a4 a5
                  simp at a0 a1 a2 a3 a4 a5
                  have hki : (k : Int) < (nb : Int) := by omega
                  have hk0 : (0 : Int) ≤ (k : Int) := by omega
                  obtain ⟨wx, sx, ex⟩ := BC.out i c hci x (.inr (List.mem_of_getElem? hxk))
                  have GX : Hid (Got (d + 1) (.mk kx nx tx mx ks cl) (onceS (foldV (allV d) (foldV (allV d) J c.1) (c.2.take k)) (allV d x))) := hg.out.once sx
                  have HJ : Hid (foldV (allV d) (foldV (allV d) J c.1) (c.2.take (k + 1)) = onceS (foldV (allV d) (foldV (allV d) J c.1) (c.2.take k)) (allV d x)) := foldV_snoc _ _ c.2 k x hxk
                  have lq := hg.out.len HW.out
                  have lx := (allV_got ex).len wx
                  have OX : Hid (∀ s ∈ allV d x, okS s) := fun s hs => (sx s hs).2
                  have OJ : Hid (∀ s ∈ foldV (allV d) (foldV (allV d) J c.1) (c.2.take k), okS s) := hg.out.ok
                  generalize hJ0 : foldV (allV d) (foldV (allV d) J c.1) (c.2.take k) = J at *
                  clear hcs hat hcsl r1 hJ0 hg sx
                  go_wp2_with fail
                  refine (hE _ _ x (E1 _ HB.out) wx).mono ?_
                  rintro e w4 ⟨u4, rfl, ho4, hb4⟩
                  have HB4 : Hid (Below w.heap.size w w4) := HB.out.trans (hb4.mono HB.out.size)
                  have SV : Hid (StrV w4 u3 J) := (ho.out.next hb4).strV OJ.out
                  have SR : Hid (StrR w4 u4 (allV d x)) := ho4.strR OX.out
                  have bk4 : Hid (Blk w4 w.heap.size #[.int .i64 kx, .int .i64 nx, .string tx, .string mx, .slice p n cap, .slice (some ⟨gc, oc, none⟩) nc capc] 32) := hbk.out.next hb4
                  clear hb4 ho4 xa5 xp0 xp1 a0 a1 a2 a3 a4 a5
                  go_wp2_with fail
                  refine (once_any _ _ _ J (allV d x) SV.out SR.out (by omega)).mono ?_
                  rintro e w5 ⟨u5, rfl, ho5, hb5⟩
                  have HB5 : Hid (Below w.heap.size w w5) := HB4.out.trans (hb5.mono HB4.out.size)
                  have HO5 : Hid (OwnS w5 w.heap.size u5 (onceS J (allV d x))) := ho5.base HB4.out.size
                  have bk5 : Hid (Blk w5 w.heap.size #[.int .i64 kx, .int .i64 nx, .string tx, .string mx, .slice p n cap, .slice (some ⟨gc, oc, none⟩) nc capc] 32) := bk4.out.next hb5
                  clear hb5 ho5
                  go_wp2_with fail
                  exact ⟨⟨k + 1, by omega, by go_num, by show OwnS _ _ _ _; rw [HJ.out]; exact HO5.out, by show Got _ _ _; rw [HJ.out]; exact GX.out, bk5.out, HB5.out⟩, by simp [intOf]; omega⟩
                · have HS1 : Hid (OwnS wr w.heap.size u3 (foldV (allV d) (foldV (allV d) J c.1) c.2)) := by
                    have := ho.out
                    rwa [List.take_of_length_le (by rw [HN1.out]; omega)] at this
                  have GS1 : Hid (Got (d + 1) (.mk kx nx tx mx ks cl) (foldV (allV d) (foldV (allV d) J c.1) c.2)) := by
                    have := hg.out
                    rwa [List.take_of_length_le (by rw [HN1.out]; omega)] at this
                  clear ho hg
                  go_wp2_with fail
                  exact ⟨⟨i + 1, by omega, by go_num, by show OwnS _ _ _ _; rw [HJC.out]; exact HS1.out, by show Got _ _ _; rw [HJC.out]; exact GS1.out, hbk.out, HB.out⟩, by simp [intOf]; omega⟩
        · have HS2 : Hid (OwnS wr w.heap.size u3 (cl.foldl (allC (allV d)) P1)) := by
            have := hoI.out
            rwa [List.take_of_length_le (by rw [HNC.out]; omega)] at this
          clear hoI hgI
          go_wp2_with fail
          go_ret
          exact ⟨u3, rfl, by show OwnS _ _ _ _; rw [HP1.out]; exact HS2.out, HBI.out⟩

theorem all_all : ∀ d, NmC 16 d (allV d)
  | 0 => fun w cs x h _ => h.elim
  | d + 1 => all_of (all_all d)
end Go.Proofs.Ytgmcjmmdhfbfpaa
