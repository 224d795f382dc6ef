/-
  The specification's Lookup and what it calls, by contract.
-/
import Derived.Test.YtkcajmkagbgfnaaLookImpl
import Derived.Test.YtkcajmkagbgfnaaGrow
import Derived.Deep.RegionLaw
namespace Go.Proofs.Ytkcajmkagbgfnaa
open Go.ChangeShapes Go.WideShapes Go.ChangeAt Go.RowKit
set_option linter.unusedVariables false

theorem infoVal : (Try.prog.info? 41).map (fun i => (i.zero, i.size, i.bytes)) = some (some (.agg #[.int .i64 0, .int .i64 0, .string ⟨#[]⟩, .slice none 0 0]), 4, 56) := by kernel_rfl
theorem ownsB_below {w w' : World} {B : Nat} {e : TypeId} {c n : Nat} {v : Value} {cells : List Value} (h : w.ownsRow B e c v n cells) (hb : Below w.heap.size w w') : w'.ownsRow B e c v n cells :=
  h.kept (grownBy_belowR (r := none) hb) (by cases v.ownBlock <;> simp)
theorem HVa.low {w : World} {S : Nat → Prop} : ∀ {d : Nat} {cs : List Value} {e : Va}, HVa w S d cs e → HVa w (fun a => S a ∧ a < w.heap.size) d cs e
  | 0, _, _, h => h.elim
  | d + 1, cs, e, h => by
    obtain ⟨kv, rfl, h1, h2, h3, p, cap, hv, g1, g2, hx⟩ := h
    refine ⟨kv, rfl, h1, h2, h3, p, cap, hv, g1, g2, fun hne => ?_⟩
    obtain ⟨g, off, hp, hS, hl, hat⟩ := hx hne
    refine ⟨g, off, hp, ⟨hS, hl⟩, hl, fun i x hi => ?_⟩
    obtain ⟨cs, q1, q2, q3⟩ := hat i x hi
    exact ⟨cs, q1, q2, q3.low⟩
theorem frozen_next {w w' : World} {a : Addr} {v : Value} (hb : Below w.heap.size w w') (h : w.cell? a = some v) (hf : w.frozen? a = false) : w'.frozen? a = false := by
  have hl : a.block < w.heap.size := by
    unfold World.cell? at h
    split at h
    · rename_i heq; exact (Array.getElem?_eq_some_iff.1 heq).1
    · cases h
  exact (World.frozen?_of_block (hb.block a.block hl)).trans hf

theorem hva_mono {d : Nat} (w w' : World) (S S' : Nat → Prop) (cs : List Value) (x : Va) (h : HVa w S d cs x) (h1 : SameOn S w w') (h2 : ∀ g, S g → S' g) : HVa w' S' d cs x := h.mono h1 h2
theorem Blk.grown {w w' : World} {b : Nat} {cs : Array Value} {t : TypeId} {row : Option Nat} (h : Blk w b cs t) (hg : w.grownBy w' row) (hne : some b ≠ row) : Blk w' b cs t := (hg.block b h.lt hne).trans h

set_option maxHeartbeats 8000000 in
set_option maxRecDepth 100000 in
theorem l03Copy_of {d : Nat} (hE : ToC 68 (fun w v e => ∃ cs, v = .agg cs.toArray ∧ HVa w All d cs e) (fun w S v e => ∃ cs, v = .agg cs.toArray ∧ HVa w S d cs e) (wtVa d)) :
    ToC 68 (fun w v e => ∃ cs, v = .agg cs.toArray ∧ HVa w All (d + 1) cs e) (fun w S v e => ∃ cs, v = .agg cs.toArray ∧ HVa w S (d + 1) cs e) (wtVa (d + 1)) := by
  intro w v x i1 hwt
  obtain ⟨cs, rfl, kv, rfl, o0, o1, o2, f0⟩ := i1
  obtain ⟨kx, nx, tx, es⟩ := x
  simp only [Va.kind, Va.n, Va.text, Va.kids] at *
  obtain ⟨p, cap, rfl, hcl, hcm, hx⟩ := f0
  have hw0 : wtS (wtVa d) es ≤ 1048576 := by have : wtVa (d + 1) (.mk kx nx tx es) = tx.size + wtS (wtVa d) es := rfl; omega
  have HWT : Hid (wtS (wtVa d) es ≤ 1048576) := hw0
  have HOK : Hid (okI kx ∧ okI nx ∧ okS tx) := ⟨o0, o1, o2⟩
  have hnb : es.length ≤ 1048576 := by unfold wtS at hw0; omega
  generalize hn : es.length = n at *
  have HN : Hid (es.length = n) := hn
  have HX : Hid (es ≠ [] → ∃ g off, p = some ⟨g, off, none⟩ ∧ All g ∧ g < w.heap.size ∧ ∀ i x, es[i]? = some x → ∃ cs, cs.length = 4 ∧ (∀ j, j < 4 → w.cell? ⟨g, off + i * 4 + j, none⟩ = cs[j]?) ∧ HVa w All d cs x) := hx
  obtain ⟨i0, hi, hz0, hz1, hz2⟩ := info_parts infoVal
  have HI : Hid (Try.prog.info? 41 = some i0 ∧ i0.zero = some (.agg #[.int .i64 0, .int .i64 0, .string ⟨#[]⟩, .slice none 0 0]) ∧ i0.size = 4 ∧ i0.bytes = 56) := ⟨hi, hz0, hz1, hz2⟩
  clear hx hn hwt hw0 o0 o1 o2 hi hz0 hz1 hz2
  obtain ⟨W3, hW3⟩ : ∃ W3, W3 = (((w.alloc (.cells #[.int .i64 kx, .int .i64 nx, .string tx, .slice p n cap] 41)).alloc (.cells #[.int .i64 0, .int .i64 0, .string ⟨#[]⟩, .slice none 0 0] 41)).alloc (.cells #[.int .i64 kx, .int .i64 nx, .string tx, .slice none 0 0] 41)) := ⟨_, rfl⟩
  have bA : Hid (Blk W3 w.heap.size #[.int .i64 kx, .int .i64 nx, .string tx, .slice p n cap] 41) := by show Blk _ _ _ _; rw [hW3]; exact Blk.new.alloc.alloc
  have bR : Hid (Blk W3 (w.heap.size + 1) #[.int .i64 0, .int .i64 0, .string ⟨#[]⟩, .slice none 0 0] 41) := by
    show Blk _ _ _ _
    rw [hW3]
    have := (Blk.new (w := (w.alloc (.cells #[.int .i64 kx, .int .i64 nx, .string tx, .slice p n cap] 41))) (cs := #[.int .i64 0, .int .i64 0, .string ⟨#[]⟩, .slice none 0 0]) (t := 41)).alloc (o := .cells #[.int .i64 kx, .int .i64 nx, .string tx, .slice none 0 0] 41)
    simp only [alloc_hs] at this
    exact this
  have bO : Hid (Blk W3 (w.heap.size + 1 + 1) #[.int .i64 kx, .int .i64 nx, .string tx, .slice none 0 0] 41) := by
    show Blk _ _ _ _
    rw [hW3]
    have := Blk.new (w := ((w.alloc (.cells #[.int .i64 kx, .int .i64 nx, .string tx, .slice p n cap] 41)).alloc (.cells #[.int .i64 0, .int .i64 0, .string ⟨#[]⟩, .slice none 0 0] 41))) (cs := #[.int .i64 kx, .int .i64 nx, .string tx, .slice none 0 0]) (t := 41)
    simp only [alloc_hs] at this
    exact this
  have B3 : Hid (Below w.heap.size w W3) := by show Below _ _ _; rw [hW3]; exact (((Below.refl _ _).alloc (Nat.le_refl _) _).alloc (by simp only [alloc_hs]; omega) _).alloc (by simp only [alloc_hs]; omega) _
  have HZ3 : Hid (W3.heap.size = w.heap.size + 3) := by show _ = _; rw [hW3]; simp only [alloc_hs]
  have HW3 : Hid (W3 = (((w.alloc (.cells #[.int .i64 kx, .int .i64 nx, .string tx, .slice p n cap] 41)).alloc (.cells #[.int .i64 0, .int .i64 0, .string ⟨#[]⟩, .slice none 0 0] 41)).alloc (.cells #[.int .i64 kx, .int .i64 nx, .string tx, .slice none 0 0] 41))) := hW3
  clear hW3
  go_enter Try.func68, Try.ntmps68
  go_wp2
  rw [← HW3.out]
  go_loopw [4] (fun iv wr => ∃ (k : Nat) (u : Value) (xs : List Value), k ≤ n ∧ iv = .int .i64 k ∧ Hid (Grow wr (w.heap.size + 3) 41 4 (fun w S => HVa w S d) es k u xs) ∧
      Hid (Blk wr w.heap.size #[.int .i64 kx, .int .i64 nx, .string tx, .slice p n cap] 41) ∧ Hid (Blk wr (w.heap.size + 1) #[.int .i64 0, .int .i64 0, .string ⟨#[]⟩, .slice none 0 0] 41) ∧ Hid (Blk wr (w.heap.size + 1 + 1) #[.int .i64 kx, .int .i64 nx, .string tx, u] 41) ∧ Hid (Below w.heap.size w wr)) (fun iv _ => n - (intOf iv).toNat)
  case atStart => exact ⟨0, .slice none 0 0, [], Nat.zero_le _, rfl, Grow.start (by rw [HZ3.out]; exact Nat.le_refl _), bA, bR, bO, B3⟩
  case round =>
    obtain ⟨k, u, xs, hk, rfl, HGR, cA, cR, cO, HB⟩ := hrel
    have xa3 := cA.out.cell 3 _ rfl
    have hlA := cA.out.lt
    have hlO := cO.out.lt
    by_cases hlt : k < n
    · obtain ⟨x, hxk⟩ : ∃ x, es[k]? = some x := ⟨es[k]'(by rw [HN.out]; exact hlt), List.getElem?_eq_getElem _⟩
      obtain ⟨g, off, rfl, -, hgl, hat⟩ := HX.out (by intro h; rw [h] at hxk; simp at hxk)
      obtain ⟨cs, hcs4, hcs, hex⟩ := hat k x hxk
      have E1 : ∀ w', SameOn All wr w' → HVa w' All d cs x := fun w' hw => hex.mono (SameOn.trans (SameOn.of_below HB.out) hw) (fun _ h => h)
      obtain ⟨ak, an, at_, pa, na, qa, rfl⟩ := hex.shape
      have a0 := hcs 0 (by omega)
      have a1 := hcs 1 (by omega)
      have a2 := hcs 2 (by omega)
      have a3 := hcs 3 (by omega)
      rw [← HB.out.cell (p := ⟨g, _, none⟩) hgl] at a0 a1 a2 a3
      simp at a0 a1 a2 a3
      have xo3 := cO.out.cell 3 _ rfl
      have zo3 := cO.out.frozen 3
      have hgw : g < wr.heap.size := Nat.lt_of_lt_of_le hgl HB.out.size
      have hki : (k : Int) < (n : Int) := by omega
      have hk0 : (0 : Int) ≤ (k : Int) := by omega
      have hwx : wtVa d x ≤ 1048576 := by
        have h1 := HWT.out
        have h2 := sum_take_succ (wtVa d) es k x hxk
        have h3 := sum_take_le (wtVa d) es (k + 1)
        unfold wtS at h1
        omega
      have nA : some w.heap.size ≠ u.ownBlock := fun e => by have := (owns_own_lt HGR.out.own e.symm).1; omega
      have nO : some (w.heap.size + 1 + 1) ≠ u.ownBlock := fun e => by have := (owns_own_lt HGR.out.own e.symm).1; omega
      have nR : some (w.heap.size + 1) ≠ u.ownBlock := fun e => by have := (owns_own_lt HGR.out.own e.symm).1; omega
      have nG : some g ≠ u.ownBlock := fun e => by have := (owns_own_lt HGR.out.own e.symm).1; omega
      have NN : Hid (some w.heap.size ≠ u.ownBlock ∧ some (w.heap.size + 1 + 1) ≠ u.ownBlock ∧ some g ≠ u.ownBlock ∧ some (w.heap.size + 1) ≠ u.ownBlock) := ⟨nA, nO, nG, nR⟩
      have hlow := HGR.out.low
      clear hat hcs hcs4 hex nA nO nG nR
      go_wp2_with fail
      go_region_law
        (first
          | (refine step_append_lies _ (by rfl) _ _ _ (by rfl) (w.heap.size + 3) 41 i0 _ 4 56 Try.underlying39 HI.out.1 HI.out.2.1 HI.out.2.2.1 HI.out.2.2.2 rfl (by omega) u k xs (by rfl) ((ownsB_below HGR.out.own K1.out).alloc _) ⟨w1.heap.size, 0, none⟩ 1 1 [.int .i64 sk, .int .i64 sn, .string st, .slice p1 n1 q1] (by rfl) (by rfl) (World.news_of_block (cs := #[.int .i64 sk, .int .i64 sn, .string st, .slice p1 n1 q1]) (t := 41) (fr := (0, 0)) (heap_alloc_new w1 _)) (by simp [Value.oneCell']) (by omega) (by unfold maxLen; omega) (by omega) (by simp; omega) (w1.heap.size + 1) (by simp) ?_; intro gg cap2 w2 hown hgrow hat2 hlt2; have y3 := (hgrow.cell_far ⟨w.heap.size + 1 + 1, 3, none⟩ (by simp; omega) NN.out.2.1).trans y2; have t3 := (hgrow.frozen_far ⟨w.heap.size + 1 + 1, 3, none⟩ (by simp; omega) NN.out.2.1).trans t2)
          | (go_simp; go_at_call 68; refine (hE _ _ x ⟨_, rfl, E1 _ (by exact ⟨Nat.le_refl _, fun _ _ _ => rfl⟩)⟩ hwx).mono ?_; rintro e w1 ⟨v', rfl, ⟨cs', rfl, hx1⟩, hb⟩; obtain ⟨sk, sn, st, p1, n1, q1, hsh⟩ := hx1.shape; subst hsh; have HX1 : Hid (HVa w1 (fun a => wr.heap.size ≤ a) d [.int .i64 sk, .int .i64 sn, .string st, .slice p1 n1 q1] x) := hx1; have K1 : Hid (Below wr.heap.size wr w1) := ⟨hb.os, hb.tape, hb.output, hb.size, hb.block⟩; have hs1 := hb.size; have hs1' : wr.heap.size ≤ w1.heap.size := hs1; have y1 := cell_next K1.out xo3; have t1 := frozen_next K1.out xo3 zo3; have y2 : (w1.alloc (.cells #[.int .i64 sk, .int .i64 sn, .string st, .slice p1 n1 q1] 41)).cell? ⟨w.heap.size + 1 + 1, 3, none⟩ = some u := cell_next ((Below.refl _ _).alloc (Nat.le_refl _) _) y1; have t2 : (w1.alloc (.cells #[.int .i64 sk, .int .i64 sn, .string st, .slice p1 n1 q1] 41)).frozen? ⟨w.heap.size + 1 + 1, 3, none⟩ = false := frozen_next ((Below.refl _ _).alloc (Nat.le_refl _) _) y1 t1; clear hx1 hs1; dsimp only))
      all_goals
        have hs2 := hgrow.size
        have hgro : Hid (Grow (w2.setCell ⟨w.heap.size + 1 + 1, 3, none⟩ (.slice (some ⟨gg, 0, none⟩) (k + 1) cap2)) (w.heap.size + 3) 41 4 (fun w S => HVa w S d) es (k + 1) (.slice (some ⟨gg, 0, none⟩) (k + 1) cap2) (xs ++ [.int .i64 sk, .int .i64 sn, .string st, .slice p1 n1 q1])) := Grow.step (R := fun w S => HVa w S d) (c := 4) (o := w.heap.size + 1 + 1) hva_mono HGR.out hxk K1.out HX1.out.low rfl ((Below.refl _ _).alloc (Nat.le_refl _) _) (H := w1.heap.size + 1) (by omega) (by simp) hown hgrow hat2 (by omega) 3 _
        have dA : Hid (Blk (w2.setCell ⟨w.heap.size + 1 + 1, 3, none⟩ (.slice (some ⟨gg, 0, none⟩) (k + 1) cap2)) w.heap.size #[.int .i64 kx, .int .i64 nx, .string tx, .slice (some ⟨g, off, none⟩) n cap] 41) := (((cA.out.next K1.out).alloc).grown hgrow NN.out.1).other (by show w.heap.size ≠ w.heap.size + 1 + 1; omega)
        have dR : Hid (Blk (w2.setCell ⟨w.heap.size + 1 + 1, 3, none⟩ (.slice (some ⟨gg, 0, none⟩) (k + 1) cap2)) (w.heap.size + 1) #[.int .i64 0, .int .i64 0, .string ⟨#[]⟩, .slice none 0 0] 41) := (((cR.out.next K1.out).alloc).grown hgrow NN.out.2.2.2).other (by show w.heap.size + 1 ≠ w.heap.size + 1 + 1; omega)
        have dO : Hid (Blk (w2.setCell ⟨w.heap.size + 1 + 1, 3, none⟩ (.slice (some ⟨gg, 0, none⟩) (k + 1) cap2)) (w.heap.size + 1 + 1) #[.int .i64 kx, .int .i64 nx, .string tx, (.slice (some ⟨gg, 0, none⟩) (k + 1) cap2)] 41) := (((cO.out.next K1.out).alloc).grown hgrow NN.out.2.1).same rfl
        have HB2 : Hid (Below w.heap.size w (w2.setCell ⟨w.heap.size + 1 + 1, 3, none⟩ (.slice (some ⟨gg, 0, none⟩) (k + 1) cap2))) := Below.setCell (((HB.out.trans (K1.out.mono HB.out.size)).trans (((Below.refl _ _).alloc (Nat.le_refl _) _).mono (by have := HB.out.size; omega))).grown hgrow (by simp; have := HB.out.size; omega) (fun j hj => by have := (owns_own_lt HGR.out.own hj).1; omega)) (by show _ ≤ w.heap.size + 1 + 1; omega) _
        clear hown hgrow hat2 hlt2 y1 y2 y3 t1 t2 t3 hb xo3 zo3 a0 a1 a2 a3 xa3 E1 HX1
        go_wp2_with fail
        exact ⟨⟨k + 1, _, _, by omega, by go_num, hgro, dA, dR, dO, HB2⟩, by simp [intOf]; omega⟩
    · obtain rfl : k = n := by omega
      obtain ⟨pu, cu, hu, -⟩ := id (Grow.done (R := fun w S => HVa w S d) hva_mono HGR.out HN.out)
      have HRW : Hid (Rows wr (fun a => w.heap.size + 3 ≤ a) 4 (HVa wr (fun a => w.heap.size + 3 ≤ a) d) u es) := Grow.done (R := fun w S => HVa w S d) hva_mono HGR.out HN.out
      rw [HN.out] at hu
      subst hu
      have xo0 := cO.out.cell 0 _ rfl
      have xo1 := cO.out.cell 1 _ rfl
      have xo2 := cO.out.cell 2 _ rfl
      have xo3 := cO.out.cell 3 _ rfl
      have r0 := cR.out.cell 0 _ rfl
      have r1 := cR.out.cell 1 _ rfl
      have r2 := cR.out.cell 2 _ rfl
      have r3 := cR.out.cell 3 _ rfl
      have z0 := cR.out.frozen 0
      have z1 := cR.out.frozen 1
      have z2 := cR.out.frozen 2
      have z3 := cR.out.frozen 3
      have bF : Blk ((((wr.setCell ⟨w.heap.size + 1, 0, none⟩ (.int .i64 kx)).setCell ⟨w.heap.size + 1, 1, none⟩ (.int .i64 nx)).setCell ⟨w.heap.size + 1, 2, none⟩ (.string tx)).setCell ⟨w.heap.size + 1, 3, none⟩ (.slice pu k cu)) (w.heap.size + 1) #[.int .i64 kx, .int .i64 nx, .string tx, .slice pu k cu] 41 := (((cR.out.same (j := 0) (v := .int .i64 kx) rfl).same (j := 1) (v := .int .i64 nx) rfl).same (j := 2) (v := .string tx) rfl).same (j := 3) (v := .slice pu k cu) rfl
      have c0 := bF.cell 0 _ rfl
      have c1 := bF.cell 1 _ rfl
      have c2 := bF.cell 2 _ rfl
      have c3 := bF.cell 3 _ rfl
      have HBF : Hid (Below w.heap.size w ((((wr.setCell ⟨w.heap.size + 1, 0, none⟩ (.int .i64 kx)).setCell ⟨w.heap.size + 1, 1, none⟩ (.int .i64 nx)).setCell ⟨w.heap.size + 1, 2, none⟩ (.string tx)).setCell ⟨w.heap.size + 1, 3, none⟩ (.slice pu k cu))) := Below.setCell (Below.setCell (Below.setCell (Below.setCell HB.out (by show _ ≤ w.heap.size + 1; omega) _) (by show _ ≤ w.heap.size + 1; omega) _) (by show _ ≤ w.heap.size + 1; omega) _) (by show _ ≤ w.heap.size + 1; omega) _
      have SF : Hid (SameOn (fun g => w.heap.size + 3 ≤ g) wr ((((wr.setCell ⟨w.heap.size + 1, 0, none⟩ (.int .i64 kx)).setCell ⟨w.heap.size + 1, 1, none⟩ (.int .i64 nx)).setCell ⟨w.heap.size + 1, 2, none⟩ (.string tx)).setCell ⟨w.heap.size + 1, 3, none⟩ (.slice pu k cu))) := SameOn.setCell (SameOn.setCell (SameOn.setCell (SameOn.setCell (SameOn.of_below (Below.refl _ _)) (by show ¬ (_ ≤ w.heap.size + 1); omega) _) (by show ¬ (_ ≤ w.heap.size + 1); omega) _) (by show ¬ (_ ≤ w.heap.size + 1); omega) _) (by show ¬ (_ ≤ w.heap.size + 1); omega) _
      clear bF
      go_wp2_with fail
      exact bodyPost_ret (v := .agg #[.int .i64 kx, .int .i64 nx, .string tx, .slice pu k cu]) (by simp [results, Try.results68, go_sem, c0, c1, c2, c3]) rfl
        ⟨_, rfl, ⟨[.int .i64 kx, .int .i64 nx, .string tx, .slice pu k cu], rfl, _, rfl, HOK.out.1, HOK.out.2.1, HOK.out.2.2, HRW.out.mono SF.out (fun a ha => by show _ ≤ _; have : w.heap.size + 3 ≤ a := ha; omega) (fun _ _ _ h => h.mono SF.out (fun a ha => by show _ ≤ _; have : w.heap.size + 3 ≤ a := ha; omega))⟩, HBF.out⟩

theorem l03Copy_all : ∀ d, ToC 68 (fun w v e => ∃ cs, v = .agg cs.toArray ∧ HVa w All d cs e) (fun w S v e => ∃ cs, v = .agg cs.toArray ∧ HVa w S d cs e) (wtVa d)
  | 0 => fun w v x ⟨_, _, h⟩ _ => h.elim
  | d + 1 => l03Copy_of (l03Copy_all d)

set_option maxHeartbeats 4000000 in
set_option maxRecDepth 100000 in
theorem specLookup_any (d : Nat) (w : World) (v : Value) (es : List Bd) (s : ByteArray) (h : Rows w All 5 (HBd w All d) v es) (hwt : wtS (wtBd d) es ≤ 1048576) :
    Calls Try.prog 29 #[v, .string s] w fun e w' => ∃ cs, e = .returned (.tuple #[.agg cs.toArray, .bool (lookR s es).2]) ∧ HVa w' All (d + 1) cs (lookR s es).1 ∧ Below w.heap.size w w' := by
  obtain ⟨p, cap, rfl, hcl, hcm, hx⟩ := h
  have hnb : es.length ≤ 9223372036854775807 := by unfold maxLen at hcm; omega
  generalize hn : es.length = n at *
  have HN : Hid (es.length = n) := hn
  have HWT : Hid (wtS (wtBd d) es ≤ 1048576) := hwt
  have HX : Hid (es ≠ [] → ∃ g off, p = some ⟨g, off, none⟩ ∧ All g ∧ g < w.heap.size ∧ ∀ i x, es[i]? = some x → ∃ cs, cs.length = 5 ∧ (∀ j, j < 5 → w.cell? ⟨g, off + i * 5 + j, none⟩ = cs[j]?) ∧ HBd w All d cs x) := hx
  clear hx hn hwt
  obtain ⟨W1, hW1⟩ : ∃ W1, W1 = w.alloc (.cells #[.int .i64 0, .int .i64 0, .string ⟨#[]⟩, .slice none 0 0] 41) := ⟨_, rfl⟩
  have bR : Hid (Blk W1 w.heap.size #[.int .i64 0, .int .i64 0, .string ⟨#[]⟩, .slice none 0 0] 41) := by show Blk _ _ _ _; rw [hW1]; exact Blk.new
  have B1 : Hid (Below w.heap.size w W1) := by show Below _ _ _; rw [hW1]; exact (Below.refl _ _).alloc (Nat.le_refl _) _
  have HW1 : Hid (W1 = w.alloc (.cells #[.int .i64 0, .int .i64 0, .string ⟨#[]⟩, .slice none 0 0] 41)) := hW1
  clear hW1
  go_enter Try.func29, Try.ntmps29
  go_wp2
  rw [← HW1.out]
  go_loopw [6] (fun iv wr => ∃ k : Nat, k ≤ n ∧ iv = .int .i64 k ∧ Hid (lookV s es = lookV s (es.drop k)) ∧ Hid (SameOn All W1 wr) ∧ Below w.heap.size w wr) (fun iv _ => n - (intOf iv).toNat)
  case atStart => exact ⟨0, Nat.zero_le _, rfl, rfl, ⟨Nat.le_refl _, fun _ _ _ => rfl⟩, B1.out⟩
  case round =>
    obtain ⟨k, hk, rfl, hsame, hso, hb⟩ := hrel
    have HB : Hid (Below w.heap.size w wr) := hb
    have b1 : Hid (Blk wr w.heap.size #[.int .i64 0, .int .i64 0, .string ⟨#[]⟩, .slice none 0 0] 41) := bR.out.same_on hso.out
    by_cases hlt : k < n
    · obtain ⟨x, hxk⟩ : ∃ x, es[k]? = some x := ⟨es[k]'(by rw [HN.out]; exact hlt), List.getElem?_eq_getElem _⟩
      obtain ⟨g, off, rfl, -, hgl, hat⟩ := HX.out (by intro h; rw [h] at hxk; simp at hxk)
      obtain ⟨cs, hcs5, hcs, hex⟩ := hat k x hxk
      obtain ⟨vs, rfl, -, hv⟩ := hex
      obtain ⟨sk, sn, st, p1, n1, q1, rfl⟩ := hv.shape
      have E1 : ∀ w', Below w.heap.size w w' → HVa w' All d [.int .i64 sk, .int .i64 sn, .string st, .slice p1 n1 q1] x.val := fun w' hw => hv.mono (SameOn.of_below hw) (fun _ h => h)
      have a0 := hcs 0 (by omega)
      have a1 := hcs 1 (by omega)
      have a2 := hcs 2 (by omega)
      have a3 := hcs 3 (by omega)
      have a4 := hcs 4 (by omega)
      rw [← hb.cell (p := ⟨g, _, none⟩) hgl] at a0 a1 a2 a3 a4
      simp at a0 a1 a2 a3 a4
      have hki : (k : Int) < (n : Int) := by omega
      have hk0 : (0 : Int) ≤ (k : Int) := by omega
      have hwx : wtVa d x.val ≤ 1048576 := by
        have h1 := HWT.out
        have h2 := sum_take_succ (wtBd d) es k x hxk
        have h3 := sum_take_le (wtBd d) es (k + 1)
        have h4 : wtBd d x = x.name.size + wtVa d x.val := rfl
        unfold wtS at h1
        omega
      obtain ⟨nm, vl⟩ := x
      simp only at *
      clear hb hat hcs hcs5 hv
      by_cases hs : nm = s
      · have HL : Hid (lookR s es = (vl, true)) := by show _ = _; exact lookR_some (by rw [hsame.out]; exact lookV_hit hxk hs)
        subst hs
        go_wp2_with fail
        refine (l03Copy_all d _ _ vl ⟨_, rfl, E1 _ HB.out⟩ hwx).mono ?_
        rintro e w1 ⟨u, rfl, ⟨cs, rfl, ho⟩, hb⟩
        obtain ⟨tk, tn, tt, p2, n2, q2, rfl⟩ := ho.shape
        have b4 := b1.out.next hb
        have r0 := b4.cell 0 _ rfl
        have r1 := b4.cell 1 _ rfl
        have r2 := b4.cell 2 _ rfl
        have r3 := b4.cell 3 _ rfl
        have z0 := b4.frozen 0
        have z1 := b4.frozen 1
        have z2 := b4.frozen 2
        have z3 := b4.frozen 3
        have hrl := b1.out.lt
        have bF : Blk ((((w1.setCell ⟨w.heap.size, 0, none⟩ (.int .i64 tk)).setCell ⟨w.heap.size, 1, none⟩ (.int .i64 tn)).setCell ⟨w.heap.size, 2, none⟩ (.string tt)).setCell ⟨w.heap.size, 3, none⟩ (.slice p2 n2 q2)) w.heap.size #[.int .i64 tk, .int .i64 tn, .string tt, .slice p2 n2 q2] 41 := (((b4.same (j := 0) (v := .int .i64 tk) rfl).same (j := 1) (v := .int .i64 tn) rfl).same (j := 2) (v := .string tt) rfl).same (j := 3) (v := .slice p2 n2 q2) rfl
        have c0 := bF.cell 0 _ rfl
        have c1 := bF.cell 1 _ rfl
        have c2 := bF.cell 2 _ rfl
        have c3 := bF.cell 3 _ rfl
        have HBF : Hid (Below w.heap.size w ((((w1.setCell ⟨w.heap.size, 0, none⟩ (.int .i64 tk)).setCell ⟨w.heap.size, 1, none⟩ (.int .i64 tn)).setCell ⟨w.heap.size, 2, none⟩ (.string tt)).setCell ⟨w.heap.size, 3, none⟩ (.slice p2 n2 q2))) := Below.setCell (Below.setCell (Below.setCell (Below.setCell (HB.out.trans (hb.mono HB.out.size)) (by show _ ≤ w.heap.size; omega) _) (by show _ ≤ w.heap.size; omega) _) (by show _ ≤ w.heap.size; omega) _) (by show _ ≤ w.heap.size; omega) _
        have SF : SameOn (fun a => wr.heap.size ≤ a) w1 ((((w1.setCell ⟨w.heap.size, 0, none⟩ (.int .i64 tk)).setCell ⟨w.heap.size, 1, none⟩ (.int .i64 tn)).setCell ⟨w.heap.size, 2, none⟩ (.string tt)).setCell ⟨w.heap.size, 3, none⟩ (.slice p2 n2 q2)) := SameOn.setCell (SameOn.setCell (SameOn.setCell (SameOn.setCell (SameOn.of_below (Below.refl _ _)) (by show ¬ (_ ≤ w.heap.size); omega) _) (by show ¬ (_ ≤ w.heap.size); omega) _) (by show ¬ (_ ≤ w.heap.size); omega) _) (by show ¬ (_ ≤ w.heap.size); omega) _
        have HO : Hid (HVa ((((w1.setCell ⟨w.heap.size, 0, none⟩ (.int .i64 tk)).setCell ⟨w.heap.size, 1, none⟩ (.int .i64 tn)).setCell ⟨w.heap.size, 2, none⟩ (.string tt)).setCell ⟨w.heap.size, 3, none⟩ (.slice p2 n2 q2)) All (d + 1) [.int .i64 tk, .int .i64 tn, .string tt, .slice p2 n2 q2] vl) := (ho.mono SF (fun _ _ => trivial)).deeper (by omega)
        clear ho hb b4 bF SF E1
        go_wp2_with fail
        exact bodyPost_ret (v := .tuple #[.agg #[.int .i64 tk, .int .i64 tn, .string tt, .slice p2 n2 q2], .bool true]) (by simp [results, Try.results29, go_sem, c0, c1, c2, c3]) rfl
          ⟨[.int .i64 tk, .int .i64 tn, .string tt, .slice p2 n2 q2], by rw [HL.out], by rw [HL.out]; exact HO.out, HBF.out⟩
      · have HL : Hid (lookV s es = lookV s (es.drop (k + 1))) := by show _ = _; rw [hsame.out]; exact lookV_miss hxk hs
        have hq1 := str_ne hs
        have hq2 := str_neB hs
        go_wp2
        exact ⟨⟨k + 1, by omega, by go_num, HL, hso, HB.out⟩, by simp [intOf]; omega⟩
    · have HL : Hid (lookR s es = (zeroVa, false)) := by
        show _ = _
        exact lookR_none (by rw [hsame.out, List.drop_of_length_le (by rw [HN.out]; omega)]; rfl)
      have r0 := b1.out.cell 0 _ rfl
      have r1 := b1.out.cell 1 _ rfl
      have r2 := b1.out.cell 2 _ rfl
      have r3 := b1.out.cell 3 _ rfl
      have z0 := b1.out.frozen 0
      have z1 := b1.out.frozen 1
      have z2 := b1.out.frozen 2
      have z3 := b1.out.frozen 3
      have HBF : Hid (Below w.heap.size w ((((wr.setCell ⟨w.heap.size, 0, none⟩ (.int .i64 0)).setCell ⟨w.heap.size, 1, none⟩ (.int .i64 0)).setCell ⟨w.heap.size, 2, none⟩ (.string ⟨#[]⟩)).setCell ⟨w.heap.size, 3, none⟩ (.slice none 0 0))) := Below.setCell (Below.setCell (Below.setCell (Below.setCell HB.out (by show _ ≤ w.heap.size; omega) _) (by show _ ≤ w.heap.size; omega) _) (by show _ ≤ w.heap.size; omega) _) (by show _ ≤ w.heap.size; omega) _
      clear hb
      go_wp2
      exact bodyPost_ret (v := .tuple #[.agg #[.int .i64 0, .int .i64 0, .string ⟨#[]⟩, .slice none 0 0], .bool false]) (by simp [results, Try.results29, go_sem, r0, r1, r2, r3]) rfl ⟨[.int .i64 0, .int .i64 0, .string ⟨#[]⟩, .slice none 0 0], by rw [HL.out], by rw [HL.out]; exact zero_HVa, HBF.out⟩
end Go.Proofs.Ytkcajmkagbgfnaa
