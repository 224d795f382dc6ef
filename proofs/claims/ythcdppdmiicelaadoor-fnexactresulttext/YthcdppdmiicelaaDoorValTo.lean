/-
  The laws' toVal: a copy of a value in memory that the copy owns.
-/
import Derived.Test.YthcdppdmiicelaaDoorValSz
import Derived.Test.YthcdppdmiicelaaDoorOwn
namespace Go.Proofs.YthcdppdmiicelaaDoor
open Go.ChangeShapes Go.WideShapes Go.ChangeAt Go.RowKit
set_option linter.unusedVariables false

/-- Four cells that are a value which owns its memory. -/
def OVa (w : World) : Nat → List Value → Va → List Nat → Prop
  | 0, _, _, _ => False
  | d + 1, cs, e, fp => ∃ kv, cs = [.int .i64 e.kind, .int .i64 e.n, .string e.text, kv] ∧ okI e.kind ∧ okI e.n ∧ okS e.text ∧ ORows w 29 4 (OVa w d) kv e.kids fp

theorem OVa.keep {w w' : World} : ∀ {d : Nat} {cs : List Value} {e : Va} {fp : List Nat}, OVa w d cs e fp → KeepOn fp w w' → OVa w' d cs e fp
  | 0, _, _, _, h, _ => h.elim
  | d + 1, cs, e, fp, h, hk => by
    obtain ⟨kv, rfl, h1, h2, h3, hr⟩ := h
    exact ⟨kv, rfl, h1, h2, h3, hr.keep hk (fun cs x f _ hs h => h.keep (hk.sub hs))⟩
theorem OVa.tree {w : World} {S : Nat → Prop} : ∀ {d : Nat} {cs : List Value} {e : Va} {fp : List Nat}, OVa w d cs e fp → (∀ a ∈ fp, S a) → HVa w S d cs e
  | 0, _, _, _, h, _ => h.elim
  | d + 1, cs, e, fp, h, hS => by
    obtain ⟨kv, rfl, h1, h2, h3, hr⟩ := h
    exact ⟨kv, rfl, h1, h2, h3, hr.rows hS (fun cs x f _ hs h => h.tree (fun a ha => hS a (hs a ha)))⟩
theorem OVa.lt {w : World} : ∀ {d : Nat} {cs : List Value} {e : Va} {fp : List Nat}, OVa w d cs e fp → ∀ a ∈ fp, a < w.heap.size
  | 0, _, _, _, h => h.elim
  | d + 1, cs, e, fp, h => by
    obtain ⟨kv, rfl, h1, h2, h3, hr⟩ := h
    exact hr.lt (fun cs x f h => h.lt)
theorem OVa.shape {w : World} {d : Nat} {cs : List Value} {e : Va} {fp : List Nat} (h : OVa w d cs e fp) : ∃ sk sn st p1 n1 q1, cs = [.int .i64 sk, .int .i64 sn, .string st, .slice p1 n1 q1] :=
  (h.tree (S := All) (fun _ _ => trivial)).shape
theorem ORows.tree {w : World} {S : Nat → Prop} {d : Nat} {v : Value} {es : List Va} {fp : List Nat} (h : ORows w 29 4 (OVa w d) v es fp) (hS : ∀ a ∈ fp, S a) : Rows w S 4 (HVa w S d) v es :=
  h.rows hS (fun cs x f _ hs h => h.tree (fun a ha => hS a (hs a ha)))

set_option maxHeartbeats 4000000 in
theorem toValS_of {d : Nat} (hE : ToO 8 (fun w v e => ∃ cs, v = .agg cs.toArray ∧ HVa w All d cs e) (fun w v e fp => ∃ cs, v = .agg cs.toArray ∧ OVa w d cs e fp) (wtVa d)) :
    ToO 20 (fun w v es => Rows w All 4 (HVa w All d) v es) (fun w v es fp => ORows w 29 4 (OVa w d) v es fp) (wtS (wtVa d)) := by
  intro w v es h hwt
  obtain ⟨p, cap, rfl, hcl, hcm, hx⟩ := h
  generalize hn : es.length = n at *
  have HN : Hid (es.length = n) := hn
  have HX : Hid _ := hx
  have hnb : n ≤ 1048576 := by unfold wtS at hwt; omega
  have HWT : Hid (wtS (wtVa d) es ≤ 1048576) := hwt
  clear hx hn hwt
  obtain ⟨M, hM, hmk⟩ := make_row (t := 27) (e := 29) (c := 4) Tryd.underlying27 (by kernel_rfl) w n hnb
  have HO : Hid (Made w (w.alloc (.cells M 29)) w.heap.size n 29 4 (fun w => OVa w d) es 0 M.toList []) := Made.start hM (by unfold maxLen; omega)
  generalize hG : w.heap.size = G at *
  have HG : Hid (w.heap.size = G) := hG
  go_enter Tryd.func20, Tryd.ntmps20
  go_wp2
  go_loopw [4] (fun iv wr => ∃ (k : Nat) (xs : List Value) (fps : List (List Nat)), k ≤ n ∧ iv = .int .i64 k ∧ Hid (Made w wr G n 29 4 (fun w => OVa w d) es k xs fps)) (fun iv _ => n - (intOf iv).toNat)
  case atStart => exact ⟨0, M.toList, [], Nat.zero_le _, rfl, HO⟩
  case round =>
    obtain ⟨k, xs, fps, hk, rfl, HM⟩ := hrel
    by_cases hlt : k < n
    · obtain ⟨x, hxk⟩ : ∃ x, es[k]? = some x := ⟨es[k]'(by rw [HN.out]; exact hlt), List.getElem?_eq_getElem _⟩
      obtain ⟨g, off, rfl, hg, hgl, hat⟩ := HX.out (by intro h; rw [h] at hxk; simp at hxk)
      obtain ⟨cs, hcl6, hcs, hex⟩ := hat k x hxk
      have hbw : Below w.heap.size w wr := by rw [HG.out]; exact HM.out.below
      have hex' : ∀ w', SameOn All wr w' → HVa w' All d cs x := fun w' hw => hex.mono (SameOn.trans (SameOn.of_below hbw) hw) (fun _ h => h)
      obtain ⟨z0, z1, z2, z3, rfl⟩ := len4 hcl6
      have a0 := hcs 0 (by omega)
      have a1 := hcs 1 (by omega)
      have a2 := hcs 2 (by omega)
      have a3 := hcs 3 (by omega)
      rw [← hbw.cell (p := ⟨g, _, none⟩) (by show g < w.heap.size; rw [HG.out]; exact hgl)] at a0 a1 a2 a3
      simp at a0 a1 a2 a3
      have hwx : wtVa d x ≤ 1048576 := by
        have h1 := HWT.out
        have h2 := sum_take_succ (wtVa d) es k x hxk
        have h3 := sum_take_le (wtVa d) es (k + 1)
        unfold wtS at h1
        omega
      clear hbw hcs hat hex hcl6
      go_wp2_with (go_at_call 8; go_must (refine (hE _ _ x ⟨_, rfl, hex' _ (by exact ⟨Nat.le_refl _, fun _ _ _ => rfl⟩)⟩ hwx).mono ?_; rintro e w1 ⟨u, fp, rfl, ⟨cs', rfl, hx1⟩, hnd, hrg, hb1⟩; obtain ⟨sk, sn, st, p1, n1, q1, hsh⟩ := hx1.shape; subst hsh; have HB1 : Hid (Below wr.heap.size wr w1) := hb1; have HX1 : Hid (OVa w1 d [.int .i64 sk, .int .i64 sn, .string st, .slice p1 n1 q1] x fp) := hx1; have HND : Hid fp.Nodup := hnd; have HRG : Hid (∀ a ∈ fp, wr.heap.size ≤ a ∧ a < w1.heap.size) := hrg; have o1 := HM.out.own.kept (grownBy_belowR (r := none) hb1) (Or.inr (by simp [Value.ownBlock])); have HO1 : Hid (w1.ownsRow G 29 4 (.slice (some ⟨G, 0, none⟩) n n) n xs) := o1; have f0 := o1.frozenAt (k * 4); obtain ⟨y0, g0⟩ := own_someR o1 (k * 4) (by omega); have f1 := o1.frozenAt (k * 4 + 1); obtain ⟨y1, g1⟩ := own_someR o1 (k * 4 + 1) (by omega); have f2 := o1.frozenAt (k * 4 + 2); obtain ⟨y2, g2⟩ := own_someR o1 (k * 4 + 2) (by omega); have f3 := o1.frozenAt (k * 4 + 3); obtain ⟨y3, g3⟩ := own_someR o1 (k * 4 + 3) (by omega); clear o1 hb1 hx1 hnd hrg))
      have sd := stored4 HO1.out (k * 4) (.int .i64 sk) (.int .i64 sn) (.string st) (.slice p1 n1 q1)
      have hlen : xs.length = n * 4 := HO1.out.1
      exact ⟨⟨k + 1, _, _, by omega, by go_num, HM.out.step (fun w w' cs x f h hk => h.keep hk) hxk HB1.out HX1.out HND.out HRG.out rfl sd.1 sd.2 (fun m hm => set4_other hm) (fun j hj => set4_self (by omega) j hj)⟩, by simp [intOf]; omega⟩
    · obtain rfl : k = n := by omega
      obtain ⟨fp, r1, r2, r3⟩ := HM.out.done HN.out (by unfold maxLen; omega)
      have R1 : Hid (ORows wr 29 4 (OVa wr d) (.slice (some ⟨G, 0, none⟩) k k) es fp) := r1
      have R2 : Hid (fp.Nodup ∧ ∀ a ∈ fp, G ≤ a ∧ a < wr.heap.size) := ⟨r2, r3⟩
      clear r1 r2 r3
      go_wp2
      go_ret
      exact ⟨_, fp, rfl, R1.out, R2.out.1, R2.out.2, HM.out.below⟩

set_option maxHeartbeats 4000000 in
theorem toVal_of {d : Nat} (h0 : ToO 20 (fun w v es => Rows w All 4 (HVa w All d) v es) (fun w v es fp => ORows w 29 4 (OVa w d) v es fp) (wtS (wtVa d))) :
    ToO 8 (fun w v e => ∃ cs, v = .agg cs.toArray ∧ HVa w All (d + 1) cs e) (fun w v e fp => ∃ cs, v = .agg cs.toArray ∧ OVa w (d + 1) cs e fp) (wtVa (d + 1)) := by
  intro w v e i1 hwt
  obtain ⟨cs, rfl, v0, rfl, s0, s1, s2, f0⟩ := i1
  have hw0 : wtS (wtVa d) e.kids ≤ 1048576 := by unfold wtVa at hwt; omega
  have E0 : ∀ w', SameOn All w w' → Rows w' All 4 (HVa w' All d) v0 e.kids := fun w' hw => f0.mono hw (fun _ h => h) (fun _ _ _ => HVa.mono hw (fun _ h => h))
  obtain ⟨p0, c0, rfl, _⟩ := id f0
  clear f0
  go_enter Tryd.func8, Tryd.ntmps8
  go_wp2_with fail
  have hal : Below w.heap.size w (((w.alloc (.cells #[.int .i64 e.kind, .int .i64 e.n, .string e.text, .slice p0 e.kids.length c0] 24)).alloc (.cells #[.int .i64 0, .int .i64 0, .string ⟨#[]⟩, .slice none 0 0] 29)).alloc (.cells #[.int .i64 e.kind, .int .i64 e.n, .string e.text, .slice none 0 0] 29)) := (((Below.refl _ _).alloc (Nat.le_refl _) _).alloc (by simp only [alloc_hs]; omega) _).alloc (by simp only [alloc_hs]; omega) _
  refine (h0 _ _ e.kids (E0 _ (SameOn.of_below hal)) hw0).mono ?_
  rintro ex w1 ⟨u, fp, rfl, r0, hnd, hrg, hb⟩
  have bR := (Blk.new (w := w.alloc (.cells #[.int .i64 e.kind, .int .i64 e.n, .string e.text, .slice p0 e.kids.length c0] 24)) (cs := #[.int .i64 0, .int .i64 0, .string ⟨#[]⟩, .slice none 0 0]) (t := 29)).alloc (o := .cells #[.int .i64 e.kind, .int .i64 e.n, .string e.text, .slice none 0 0] 29)
  have bO := (Blk.new (w := (w.alloc (.cells #[.int .i64 e.kind, .int .i64 e.n, .string e.text, .slice p0 e.kids.length c0] 24)).alloc (.cells #[.int .i64 0, .int .i64 0, .string ⟨#[]⟩, .slice none 0 0] 29)) (cs := #[.int .i64 e.kind, .int .i64 e.n, .string e.text, .slice none 0 0]) (t := 29))
  simp only [alloc_hs] at bR bO hrg
  replace bR := bR.below hb (by simp only [alloc_hs]; omega)
  replace bO := bO.below hb (by simp only [alloc_hs]; omega)
  have HB1 : Hid (Below w.heap.size w w1) := hal.trans (hb.mono hal.size)
  have HND : Hid (fp.Nodup) := hnd
  have HRG : Hid (∀ a ∈ fp, w.heap.size + 1 + 1 + 1 ≤ a ∧ a < w1.heap.size) := hrg
  have T0 : Hid (ORows w1 29 4 (OVa w1 d) u e.kids fp) := r0
  clear hal hb hnd hrg
  obtain ⟨p1, c1, hu, _⟩ := r0.shape
  subst hu
  clear r0
  have o0 := bO.cell 0 _ rfl
  have o1 := bO.cell 1 _ rfl
  have o2 := bO.cell 2 _ rfl
  have o3 := bO.cell 3 _ rfl
  have g3 := bO.frozen 3
  have q0 := bR.cell 0 _ rfl
  have q1 := bR.cell 1 _ rfl
  have q2 := bR.cell 2 _ rfl
  have q3 := bR.cell 3 _ rfl
  have k0 := bR.frozen 0
  have k1 := bR.frozen 1
  have k2 := bR.frozen 2
  have k3 := bR.frozen 3
  clear bR bO
  go_wp2_with fail
  have sf : SameOn (fun g => w.heap.size + 1 + 1 + 1 ≤ g) w1 (((((w1.setCell ⟨w.heap.size + 1 + 1, 3, none⟩ (.slice p1 e.kids.length c1)).setCell ⟨w.heap.size + 1, 0, none⟩ (.int .i64 e.kind)).setCell ⟨w.heap.size + 1, 1, none⟩ (.int .i64 e.n)).setCell ⟨w.heap.size + 1, 2, none⟩ (.string e.text)).setCell ⟨w.heap.size + 1, 3, none⟩ (.slice p1 e.kids.length c1)) :=
    SameOn.setCell (SameOn.setCell (SameOn.setCell (SameOn.setCell (SameOn.setCell (SameOn.of_below (Below.refl _ _)) (by show ¬ (_ ≤ w.heap.size + 1 + 1); omega) _) (by show ¬ (_ ≤ w.heap.size + 1); omega) _) (by show ¬ (_ ≤ w.heap.size + 1); omega) _) (by show ¬ (_ ≤ w.heap.size + 1); omega) _) (by show ¬ (_ ≤ w.heap.size + 1); omega) _
  have bf : Below w.heap.size w (((((w1.setCell ⟨w.heap.size + 1 + 1, 3, none⟩ (.slice p1 e.kids.length c1)).setCell ⟨w.heap.size + 1, 0, none⟩ (.int .i64 e.kind)).setCell ⟨w.heap.size + 1, 1, none⟩ (.int .i64 e.n)).setCell ⟨w.heap.size + 1, 2, none⟩ (.string e.text)).setCell ⟨w.heap.size + 1, 3, none⟩ (.slice p1 e.kids.length c1)) :=
    Below.setCell (Below.setCell (Below.setCell (Below.setCell (Below.setCell (HB1.out) (by show _ ≤ w.heap.size + 1 + 1; omega) _) (by show _ ≤ w.heap.size + 1; omega) _) (by show _ ≤ w.heap.size + 1; omega) _) (by show _ ≤ w.heap.size + 1; omega) _) (by show _ ≤ w.heap.size + 1; omega) _
  have kf : KeepOn fp w1 (((((w1.setCell ⟨w.heap.size + 1 + 1, 3, none⟩ (.slice p1 e.kids.length c1)).setCell ⟨w.heap.size + 1, 0, none⟩ (.int .i64 e.kind)).setCell ⟨w.heap.size + 1, 1, none⟩ (.int .i64 e.n)).setCell ⟨w.heap.size + 1, 2, none⟩ (.string e.text)).setCell ⟨w.heap.size + 1, 3, none⟩ (.slice p1 e.kids.length c1)) := fun a ha => sf.2 a (HRG.out a ha).1 (HRG.out a ha).2
  exact bodyPost_ret (v := .agg #[.int .i64 e.kind, .int .i64 e.n, .string e.text, .slice p1 e.kids.length c1]) (by simp [results, Tryd.results8, go_sem, q0, q1, q2, q3]) rfl
    ⟨_, fp, rfl, ⟨_, rfl, _, rfl, s0, s1, s2, T0.out.keep kf (fun cs x f _ hs h => h.keep (kf.sub hs))⟩, HND.out, fun a ha => ⟨by have := (HRG.out a ha).1; omega, Nat.lt_of_lt_of_le (HRG.out a ha).2 sf.1⟩, bf⟩

theorem toVal_own : ∀ d, ToO 8 (fun w v e => ∃ cs, v = .agg cs.toArray ∧ HVa w All d cs e) (fun w v e fp => ∃ cs, v = .agg cs.toArray ∧ OVa w d cs e fp) (wtVa d)
  | 0 => fun w v x ⟨_, _, h⟩ _ => h.elim
  | d + 1 => toVal_of (toValS_of (toVal_own d))

/-- The plain form. -/
theorem toVal_all (d : Nat) : ToC 8 (fun w v m => ∃ cs, v = .agg cs.toArray ∧ HVa w All d cs m) (fun w S v m => ∃ cs, v = .agg cs.toArray ∧ HVa w S d cs m) (wtVa d) := by
  intro w v x h hw
  refine (toVal_own d w v x h hw).mono ?_
  rintro e w' ⟨u, fp, rfl, ⟨cs, rfl, ho⟩, _, hr, hb⟩
  exact ⟨_, rfl, ⟨cs, rfl, ho.tree (fun a ha => (hr a ha).1)⟩, hb⟩
end Go.Proofs.YthcdppdmiicelaaDoor
