/-
  The laws' toBindS: a copy of names that are bound in memory that the copy owns.
-/
import Derived.Test.YtkcajmkagbgfnaaValTo
import Derived.Test.YtkcajmkagbgfnaaBindSz
namespace Go.Proofs.Ytkcajmkagbgfnaa
open Go.ChangeShapes Go.WideShapes Go.ChangeAt Go.RowKit
set_option linter.unusedVariables false

/-- Five cells that are a name and a value which owns its memory. -/
def OBd (w : World) (d : Nat) (cs : List Value) (b : Bd) (fp : List Nat) : Prop := ∃ vs, cs = .string b.name :: vs ∧ okS b.name ∧ OVa w d vs b.val fp
theorem OBd.keep {w w' : World} {d : Nat} {cs : List Value} {b : Bd} {fp : List Nat} (h : OBd w d cs b fp) (hk : KeepOn fp w w') : OBd w' d cs b fp := by
  obtain ⟨vs, rfl, h1, h2⟩ := h
  exact ⟨vs, rfl, h1, h2.keep hk⟩
theorem OBd.tree {w : World} {S : Nat → Prop} {d : Nat} {cs : List Value} {b : Bd} {fp : List Nat} (h : OBd w d cs b fp) (hS : ∀ a ∈ fp, S a) : HBd w S d cs b := by
  obtain ⟨vs, rfl, h1, h2⟩ := h
  exact ⟨vs, rfl, h1, h2.tree hS⟩
theorem OBd.shape {w : World} {d : Nat} {cs : List Value} {b : Bd} {fp : List Nat} (h : OBd w d cs b fp) : ∃ se sk sn st p1 n1 q1, cs = [.string se, .int .i64 sk, .int .i64 sn, .string st, .slice p1 n1 q1] :=
  (h.tree (S := All) (fun _ _ => trivial)).shape
theorem ORows.binds {w : World} {S : Nat → Prop} {d : Nat} {v : Value} {es : List Bd} {fp : List Nat} (h : ORows w 99 5 (OBd w d) v es fp) (hS : ∀ a ∈ fp, S a) : Rows w S 5 (HBd w S d) v es :=
  h.rows hS (fun cs x f _ hs h => h.tree (fun a ha => hS a (hs a ha)))

set_option maxHeartbeats 4000000 in
theorem toBindS_of {d : Nat} (hE : ToO 56 (fun w v e => ∃ cs, v = .agg cs.toArray ∧ HBd w All d cs e) (fun w v e fp => ∃ cs, v = .agg cs.toArray ∧ OBd w d cs e fp) (wtBd d)) :
    ToO 21 (fun w v es => Rows w All 5 (HBd w All d) v es) (fun w v es fp => ORows w 99 5 (OBd w d) v es fp) (wtS (wtBd d)) := by
  intro w v es h hwt
  obtain ⟨p, cap, rfl, hcl, hcm, hx⟩ := h
  generalize hn : es.length = n at *
  have HN : Hid (es.length = n) := hn
  have HX : Hid _ := hx
  have hnb : n ≤ 1048576 := by unfold wtS at hwt; omega
  have HWT : Hid (wtS (wtBd d) es ≤ 1048576) := hwt
  clear hx hn hwt
  obtain ⟨M, hM, hmk⟩ := make_row (t := 52) (e := 99) (c := 5) Try.underlying52 (by kernel_rfl) w n hnb
  have HO : Hid (Made w (w.alloc (.cells M 99)) w.heap.size n 99 5 (fun w => OBd w d) es 0 M.toList []) := Made.start hM (by unfold maxLen; omega)
  generalize hG : w.heap.size = G at *
  have HG : Hid (w.heap.size = G) := hG
  go_enter Try.func21, Try.ntmps21
  go_wp2
  go_loopw [4] (fun iv wr => ∃ (k : Nat) (xs : List Value) (fps : List (List Nat)), k ≤ n ∧ iv = .int .i64 k ∧ Hid (Made w wr G n 99 5 (fun w => OBd w d) es k xs fps)) (fun iv _ => n - (intOf iv).toNat)
  case atStart => exact ⟨0, M.toList, [], Nat.zero_le _, rfl, HO⟩
  case round =>
    obtain ⟨k, xs, fps, hk, rfl, HM⟩ := hrel
    by_cases hlt : k < n
    · obtain ⟨x, hxk⟩ : ∃ x, es[k]? = some x := ⟨es[k]'(by rw [HN.out]; exact hlt), List.getElem?_eq_getElem _⟩
      obtain ⟨g, off, rfl, hg, hgl, hat⟩ := HX.out (by intro h; rw [h] at hxk; simp at hxk)
      obtain ⟨cs, hcl6, hcs, hex⟩ := hat k x hxk
      have hbw : Below w.heap.size w wr := by rw [HG.out]; exact HM.out.below
      have hex' : ∀ w', SameOn All wr w' → HBd w' All d cs x := fun w' hw => hex.mono (SameOn.trans (SameOn.of_below hbw) hw) (fun _ h => h)
      obtain ⟨z0, z1, z2, z3, z4, rfl⟩ := len5 hcl6
      have a0 := hcs 0 (by omega)
      have a1 := hcs 1 (by omega)
      have a2 := hcs 2 (by omega)
      have a3 := hcs 3 (by omega)
      have a4 := hcs 4 (by omega)
      rw [← hbw.cell (p := ⟨g, _, none⟩) (by show g < w.heap.size; rw [HG.out]; exact hgl)] at a0 a1 a2 a3 a4
      simp at a0 a1 a2 a3 a4
      have hwx : wtBd d x ≤ 1048576 := by
        have h1 := HWT.out
        have h2 := sum_take_succ (wtBd d) es k x hxk
        have h3 := sum_take_le (wtBd d) es (k + 1)
        unfold wtS at h1
        omega
      clear hbw hcs hat hex hcl6
      go_wp2_with (go_at_call 56; go_must (refine (hE _ _ x ⟨_, rfl, hex' _ (by exact ⟨Nat.le_refl _, fun _ _ _ => rfl⟩)⟩ hwx).mono ?_; rintro e w1 ⟨u, fp, rfl, ⟨cs', rfl, hx1⟩, hnd, hrg, hb1⟩; obtain ⟨se, sk, sn, st, p1, n1, q1, hsh⟩ := hx1.shape; subst hsh; have HB1 : Hid (Below wr.heap.size wr w1) := hb1; have HX1 : Hid (OBd w1 d [.string se, .int .i64 sk, .int .i64 sn, .string st, .slice p1 n1 q1] x fp) := hx1; have HND : Hid fp.Nodup := hnd; have HRG : Hid (∀ a ∈ fp, wr.heap.size ≤ a ∧ a < w1.heap.size) := hrg; have o1 := HM.out.own.kept (grownBy_belowR (r := none) hb1) (Or.inr (by simp [Value.ownBlock])); have HO1 : Hid (w1.ownsRow G 99 5 (.slice (some ⟨G, 0, none⟩) n n) n xs) := o1; have f0 := o1.frozenAt (k * 5); obtain ⟨y0, g0⟩ := own_someR o1 (k * 5) (by omega); have f1 := o1.frozenAt (k * 5 + 1); obtain ⟨y1, g1⟩ := own_someR o1 (k * 5 + 1) (by omega); have f2 := o1.frozenAt (k * 5 + 2); obtain ⟨y2, g2⟩ := own_someR o1 (k * 5 + 2) (by omega); have f3 := o1.frozenAt (k * 5 + 3); obtain ⟨y3, g3⟩ := own_someR o1 (k * 5 + 3) (by omega); have f4 := o1.frozenAt (k * 5 + 4); obtain ⟨y4, g4⟩ := own_someR o1 (k * 5 + 4) (by omega); clear o1 hb1 hx1 hnd hrg))
      have sd := stored5 HO1.out (k * 5) (.string se) (.int .i64 sk) (.int .i64 sn) (.string st) (.slice p1 n1 q1)
      have hlen : xs.length = n * 5 := HO1.out.1
      exact ⟨⟨k + 1, _, _, by omega, by go_num, HM.out.step (fun w w' cs x f h hk => h.keep hk) hxk HB1.out HX1.out HND.out HRG.out rfl sd.1 sd.2 (fun m hm => set5_other hm) (fun j hj => set5_self (by omega) j hj)⟩, by simp [intOf]; omega⟩
    · obtain rfl : k = n := by omega
      obtain ⟨fp, r1, r2, r3⟩ := HM.out.done HN.out (by unfold maxLen; omega)
      have R1 : Hid (ORows wr 99 5 (OBd wr d) (.slice (some ⟨G, 0, none⟩) k k) es fp) := r1
      have R2 : Hid (fp.Nodup ∧ ∀ a ∈ fp, G ≤ a ∧ a < wr.heap.size) := ⟨r2, r3⟩
      clear r1 r2 r3
      go_wp2
      go_ret
      exact ⟨_, fp, rfl, R1.out, R2.out.1, R2.out.2, HM.out.below⟩

set_option maxHeartbeats 4000000 in
theorem toBind_of {d : Nat} (h0 : ToO 14 (fun w v e => ∃ cs, v = .agg cs.toArray ∧ HVa w All d cs e) (fun w v e fp => ∃ cs, v = .agg cs.toArray ∧ OVa w d cs e fp) (wtVa d)) :
    ToO 56 (fun w v e => ∃ cs, v = .agg cs.toArray ∧ HBd w All d cs e) (fun w v e fp => ∃ cs, v = .agg cs.toArray ∧ OBd w d cs e fp) (wtBd d) := by
  intro w v e i1 hwt
  obtain ⟨cs, rfl, vs, rfl, s0, f0⟩ := i1
  obtain ⟨ak, an, at_, pa, na, qa, rfl⟩ := f0.shape
  have hw0 : wtVa d e.val ≤ 1048576 := by unfold wtBd at hwt; omega
  have E0 : ∀ w', SameOn All w w' → HVa w' All d [.int .i64 ak, .int .i64 an, .string at_, .slice pa na qa] e.val := fun w' hw => f0.mono hw (fun _ h => h)
  clear f0
  go_enter Try.func56, Try.ntmps56
  go_wp2_with fail
  have hal : Below w.heap.size w (((w.alloc (.cells #[.string e.name, .int .i64 ak, .int .i64 an, .string at_, .slice pa na qa] 94)).alloc (.cells #[.string ⟨#[]⟩, .int .i64 0, .int .i64 0, .string ⟨#[]⟩, .slice none 0 0] 99)).alloc (.cells #[.string e.name, .int .i64 0, .int .i64 0, .string ⟨#[]⟩, .slice none 0 0] 99)) := (((Below.refl _ _).alloc (Nat.le_refl _) _).alloc (by simp only [alloc_hs]; omega) _).alloc (by simp only [alloc_hs]; omega) _
  refine (h0 _ _ e.val ⟨_, rfl, E0 _ (SameOn.of_below hal)⟩ hw0).mono ?_
  rintro ex w1 ⟨u, fp, rfl, ⟨cs, rfl, r0⟩, hnd, hrg, hb⟩
  have bR := (Blk.new (w := (w.alloc (.cells #[.string e.name, .int .i64 ak, .int .i64 an, .string at_, .slice pa na qa] 94))) (cs := #[.string ⟨#[]⟩, .int .i64 0, .int .i64 0, .string ⟨#[]⟩, .slice none 0 0]) (t := 99)).alloc (o := .cells #[.string e.name, .int .i64 0, .int .i64 0, .string ⟨#[]⟩, .slice none 0 0] 99)
  have bO := (Blk.new (w := ((w.alloc (.cells #[.string e.name, .int .i64 ak, .int .i64 an, .string at_, .slice pa na qa] 94)).alloc (.cells #[.string ⟨#[]⟩, .int .i64 0, .int .i64 0, .string ⟨#[]⟩, .slice none 0 0] 99))) (cs := #[.string e.name, .int .i64 0, .int .i64 0, .string ⟨#[]⟩, .slice none 0 0]) (t := 99))
  simp only [alloc_hs] at bR bO hrg
  replace bR := bR.below hb (by simp only [alloc_hs]; omega)
  replace bO := bO.below hb (by simp only [alloc_hs]; omega)
  have HB1 : Hid (Below w.heap.size w w1) := hal.trans (hb.mono hal.size)
  have HND : Hid (fp.Nodup) := hnd
  have HRG : Hid (∀ a ∈ fp, w.heap.size + 1 + 1 + 1 ≤ a ∧ a < w1.heap.size) := hrg
  obtain ⟨sk, sn, st, p1, n1, q1, hu⟩ := r0.shape
  subst hu
  have T0 : Hid (OVa w1 d [.int .i64 sk, .int .i64 sn, .string st, .slice p1 n1 q1] e.val fp) := r0
  clear hal hb hnd hrg r0
  have o0 := bO.cell 0 _ rfl
  have r0_ := bR.cell 0 _ rfl
  have k0 := bR.frozen 0
  have o1 := bO.cell 1 _ rfl
  have r1_ := bR.cell 1 _ rfl
  have k1 := bR.frozen 1
  have o2 := bO.cell 2 _ rfl
  have r2_ := bR.cell 2 _ rfl
  have k2 := bR.frozen 2
  have o3 := bO.cell 3 _ rfl
  have r3_ := bR.cell 3 _ rfl
  have k3 := bR.frozen 3
  have o4 := bO.cell 4 _ rfl
  have r4_ := bR.cell 4 _ rfl
  have k4 := bR.frozen 4
  have g1 := bO.frozen 1
  have g2 := bO.frozen 2
  have g3 := bO.frozen 3
  have g4 := bO.frozen 4
  clear bR bO
  go_wp2_with fail
  have sf : SameOn (fun g => w.heap.size + 1 + 1 + 1 ≤ g) w1 (((((((((w1.setCell ⟨w.heap.size + 1 + 1, 1, none⟩ (.int .i64 sk)).setCell ⟨w.heap.size + 1 + 1, 2, none⟩ (.int .i64 sn)).setCell ⟨w.heap.size + 1 + 1, 3, none⟩ (.string st)).setCell ⟨w.heap.size + 1 + 1, 4, none⟩ (.slice p1 n1 q1)).setCell ⟨w.heap.size + 1, 0, none⟩ (.string e.name)).setCell ⟨w.heap.size + 1, 1, none⟩ (.int .i64 sk)).setCell ⟨w.heap.size + 1, 2, none⟩ (.int .i64 sn)).setCell ⟨w.heap.size + 1, 3, none⟩ (.string st)).setCell ⟨w.heap.size + 1, 4, none⟩ (.slice p1 n1 q1)) :=
    SameOn.setCell (SameOn.setCell (SameOn.setCell (SameOn.setCell (SameOn.setCell (SameOn.setCell (SameOn.setCell (SameOn.setCell (SameOn.setCell (SameOn.of_below (Below.refl _ _)) (by show ¬ (_ ≤ w.heap.size + 1 + 1); omega) _) (by show ¬ (_ ≤ w.heap.size + 1 + 1); omega) _) (by show ¬ (_ ≤ w.heap.size + 1 + 1); omega) _) (by show ¬ (_ ≤ w.heap.size + 1 + 1); omega) _) (by show ¬ (_ ≤ w.heap.size + 1); omega) _) (by show ¬ (_ ≤ w.heap.size + 1); omega) _) (by show ¬ (_ ≤ w.heap.size + 1); omega) _) (by show ¬ (_ ≤ w.heap.size + 1); omega) _) (by show ¬ (_ ≤ w.heap.size + 1); omega) _
  have bf : Below w.heap.size w (((((((((w1.setCell ⟨w.heap.size + 1 + 1, 1, none⟩ (.int .i64 sk)).setCell ⟨w.heap.size + 1 + 1, 2, none⟩ (.int .i64 sn)).setCell ⟨w.heap.size + 1 + 1, 3, none⟩ (.string st)).setCell ⟨w.heap.size + 1 + 1, 4, none⟩ (.slice p1 n1 q1)).setCell ⟨w.heap.size + 1, 0, none⟩ (.string e.name)).setCell ⟨w.heap.size + 1, 1, none⟩ (.int .i64 sk)).setCell ⟨w.heap.size + 1, 2, none⟩ (.int .i64 sn)).setCell ⟨w.heap.size + 1, 3, none⟩ (.string st)).setCell ⟨w.heap.size + 1, 4, none⟩ (.slice p1 n1 q1)) :=
    Below.setCell (Below.setCell (Below.setCell (Below.setCell (Below.setCell (Below.setCell (Below.setCell (Below.setCell (Below.setCell (HB1.out) (by show _ ≤ w.heap.size + 1 + 1; omega) _) (by show _ ≤ w.heap.size + 1 + 1; omega) _) (by show _ ≤ w.heap.size + 1 + 1; omega) _) (by show _ ≤ w.heap.size + 1 + 1; omega) _) (by show _ ≤ w.heap.size + 1; omega) _) (by show _ ≤ w.heap.size + 1; omega) _) (by show _ ≤ w.heap.size + 1; omega) _) (by show _ ≤ w.heap.size + 1; omega) _) (by show _ ≤ w.heap.size + 1; omega) _
  have kf : KeepOn fp w1 (((((((((w1.setCell ⟨w.heap.size + 1 + 1, 1, none⟩ (.int .i64 sk)).setCell ⟨w.heap.size + 1 + 1, 2, none⟩ (.int .i64 sn)).setCell ⟨w.heap.size + 1 + 1, 3, none⟩ (.string st)).setCell ⟨w.heap.size + 1 + 1, 4, none⟩ (.slice p1 n1 q1)).setCell ⟨w.heap.size + 1, 0, none⟩ (.string e.name)).setCell ⟨w.heap.size + 1, 1, none⟩ (.int .i64 sk)).setCell ⟨w.heap.size + 1, 2, none⟩ (.int .i64 sn)).setCell ⟨w.heap.size + 1, 3, none⟩ (.string st)).setCell ⟨w.heap.size + 1, 4, none⟩ (.slice p1 n1 q1)) := fun a ha => sf.2 a (HRG.out a ha).1 (HRG.out a ha).2
  exact bodyPost_ret (v := .agg #[.string e.name, .int .i64 sk, .int .i64 sn, .string st, .slice p1 n1 q1]) (by simp [results, Try.results56, go_sem, r0_, r1_, r2_, r3_, r4_]) rfl
    ⟨_, fp, rfl, ⟨_, rfl, _, rfl, s0, T0.out.keep kf⟩, HND.out, fun a ha => ⟨by have := (HRG.out a ha).1; omega, Nat.lt_of_lt_of_le (HRG.out a ha).2 sf.1⟩, bf⟩

theorem toBindS_own (d : Nat) : ToO 21 (fun w v es => Rows w All 5 (HBd w All d) v es) (fun w v es fp => ORows w 99 5 (OBd w d) v es fp) (wtS (wtBd d)) := toBindS_of (toBind_of (toVal_own d))
end Go.Proofs.Ytkcajmkagbgfnaa
