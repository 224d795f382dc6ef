/-
  The program's Lookup and what it calls, by contract.
-/
import Derived.Test.YtkcajmkagbgfnaaBindMark
namespace Go.Proofs.Ytkcajmkagbgfnaa
open Go.ChangeShapes Go.WideShapes Go.ChangeAt Go.RowKit
set_option linter.unusedVariables false

set_option maxHeartbeats 4000000 in
set_option maxRecDepth 100000 in
theorem copyVals_of {d : Nat} (hE : ToO 70 (fun w v e => ∃ cs, v = .agg cs.toArray ∧ HVa w All d cs e) (fun w v e fp => ∃ cs, v = .agg cs.toArray ∧ OVa w d cs e fp) (wtVa d)) :
    ToO 93 (fun w v es => Rows w All 4 (HVa w All d) v es) (fun w v es fp => ORows w 41 4 (OVa w d) v es fp) (wtS (wtVa d)) := by
  intro w v es h hwt
  obtain ⟨p, cap, rfl, hcl, hcm, hx⟩ := h
  by_cases hne : es = []
  · subst hne
    clear hx
    simp only [List.length_nil]
    go_enter Try.func93, Try.ntmps93
    go_wp2
    go_ret
    exact ⟨_, [], rfl, .inl ⟨rfl, rfl, _, _, rfl, Nat.zero_le _⟩, by simp, fun a ha => by simp at ha, Below.refl _ _⟩
  have hn0 : 0 < es.length := by cases es with | nil => exact absurd rfl hne | cons a l => simp
  generalize hn : es.length = n at *
  have HN : Hid (es.length = n) := hn
  have HX : Hid (es ≠ [] → ∃ g off, p = some ⟨g, off, none⟩ ∧ All g ∧ g < w.heap.size ∧ ∀ i x, es[i]? = some x → ∃ cs, cs.length = 4 ∧ (∀ j, j < 4 → w.cell? ⟨g, off + i * 4 + j, none⟩ = cs[j]?) ∧ HVa w All d cs x) := hx
  have hnb : n ≤ 1048576 := by unfold wtS at hwt; omega
  have HWT : Hid (wtS (wtVa d) es ≤ 1048576) := hwt
  have hnz : ((n : Int) == 0) = false := by simp; omega
  clear hx hn hwt hne hn0
  obtain ⟨M, hM, hmk⟩ := make_row (t := 39) (e := 41) (c := 4) Try.underlying39 (by kernel_rfl) w n hnb
  have HO : Hid (Made w (w.alloc (.cells M 41)) w.heap.size n 41 4 (fun w => OVa w d) es 0 M.toList []) := Made.start hM (by unfold maxLen; omega)
  generalize hG : w.heap.size = G at *
  have HG : Hid (w.heap.size = G) := hG
  go_enter Try.func93, Try.ntmps93
  go_wp2
  go_loopw [14] (fun iv wr => ∃ (k : Nat) (xs : List Value) (fps : List (List Nat)), k ≤ n ∧ iv = .int .i64 k ∧ Hid (Made w wr G n 41 4 (fun w => OVa w d) es k xs fps)) (fun iv _ => n - (intOf iv).toNat)
  case atStart => exact ⟨0, M.toList, [], Nat.zero_le _, rfl, HO⟩
  case round =>
    obtain ⟨k, xs, fps, hk, rfl, HM⟩ := hrel
    by_cases hlt : k < n
    · obtain ⟨x, hxk⟩ : ∃ x, es[k]? = some x := ⟨es[k]'(by rw [HN.out]; exact hlt), List.getElem?_eq_getElem _⟩
      obtain ⟨g, off, rfl, hg, hgl, hat⟩ := HX.out (by intro h; rw [h] at hxk; simp at hxk)
      obtain ⟨cs, hcl6, hcs, hex⟩ := hat k x hxk
      have hbw : Below w.heap.size w wr := by rw [HG.out]; exact HM.out.below
      have hex' : ∀ w', SameOn All wr w' → HVa w' All d cs x := fun w' hw => hex.mono (SameOn.trans (SameOn.of_below hbw) hw) (fun _ h => h)
      obtain ⟨ak, an, at_, pa, na, qa, rfl⟩ := hex.shape
      have a0 := hcs 0 (by omega)
      have a1 := hcs 1 (by omega)
      have a2 := hcs 2 (by omega)
      have a3 := hcs 3 (by omega)
      rw [← hbw.cell (p := ⟨g, _, none⟩) (by show g < w.heap.size; rw [HG.out]; exact hgl)] at a0 a1 a2 a3
      simp at a0 a1 a2 a3
      have hwx : wtVa d x ≤ 1048576 := by
        have h1 := HWT.out
        have h2 := sum_take_succ (wtVa d) es k x hxk
        have h3 := sum_take_le (wtVa d) es (k + 1)
        unfold wtS at h1
        omega
      have hki : (k : Int) < (n : Int) := by omega
      have hk0 : (0 : Int) ≤ (k : Int) := by omega
      have HAL : Hid (Below wr.heap.size wr (wr.alloc (.cells #[.int .i64 ak, .int .i64 an, .string at_, .slice pa na qa] 41))) := (Below.refl _ _).alloc (Nat.le_refl _) _
      clear hbw hcs hat hex hcl6
      go_wp2_with (go_at_call 70; go_must (refine (hE _ _ x ⟨_, rfl, hex' _ (SameOn.of_below HAL.out)⟩ hwx).mono ?_; rintro e w1 ⟨u, fp, rfl, ⟨cs', rfl, hx1⟩, hnd, hrg, hb1⟩; obtain ⟨sk, sn, st, p1, n1, q1, hsh⟩ := hx1.shape; subst hsh; have HB1 : Hid (Below wr.heap.size wr w1) := HAL.out.trans (hb1.mono HAL.out.size); have HX1 : Hid (OVa w1 d [.int .i64 sk, .int .i64 sn, .string st, .slice p1 n1 q1] x fp) := hx1; have HND : Hid fp.Nodup := hnd; have HRG : Hid (∀ a ∈ fp, wr.heap.size ≤ a ∧ a < w1.heap.size) := (fun a ha => ⟨Nat.le_trans HAL.out.size (hrg a ha).1, (hrg a ha).2⟩); have o1 := HM.out.own.kept (grownBy_belowR (r := none) HB1.out) (Or.inr (by simp [Value.ownBlock])); have HO1 : Hid (w1.ownsRow G 41 4 (.slice (some ⟨G, 0, none⟩) n n) n xs) := o1; have f0 := o1.frozenAt (k * 4); obtain ⟨y0, g0⟩ := own_someR o1 (k * 4) (by omega); have f1 := o1.frozenAt (k * 4 + 1); obtain ⟨y1, g1⟩ := own_someR o1 (k * 4 + 1) (by omega); have f2 := o1.frozenAt (k * 4 + 2); obtain ⟨y2, g2⟩ := own_someR o1 (k * 4 + 2) (by omega); have f3 := o1.frozenAt (k * 4 + 3); obtain ⟨y3, g3⟩ := own_someR o1 (k * 4 + 3) (by omega); clear o1 hb1 hx1 hnd hrg))
      have sd := stored4 HO1.out (k * 4) (.int .i64 sk) (.int .i64 sn) (.string st) (.slice p1 n1 q1)
      have hlen : xs.length = n * 4 := HO1.out.1
      exact ⟨⟨k + 1, _, _, by omega, by go_num, HM.out.step (fun w w' cs x f h hk => h.keep hk) hxk HB1.out HX1.out HND.out HRG.out rfl sd.1 sd.2 (fun m hm => set4_other hm) (fun j hj => set4_self (by omega) j hj)⟩, by simp [intOf]; omega⟩
    · obtain rfl : k = n := by omega
      obtain ⟨fp, r1, r2, r3⟩ := HM.out.done HN.out (by unfold maxLen; omega)
      have R1 : Hid (ORows wr 41 4 (OVa wr d) (.slice (some ⟨G, 0, none⟩) k k) es fp) := r1
      have R2 : Hid (fp.Nodup ∧ ∀ a ∈ fp, G ≤ a ∧ a < wr.heap.size) := ⟨r2, r3⟩
      clear r1 r2 r3
      go_wp2
      go_ret
      exact ⟨_, fp, rfl, R1.out, R2.out.1, R2.out.2, HM.out.below⟩

set_option maxHeartbeats 4000000 in
theorem copyVal_of {d : Nat} (h0 : ToO 93 (fun w v es => Rows w All 4 (HVa w All d) v es) (fun w v es fp => ORows w 41 4 (OVa w d) v es fp) (wtS (wtVa d))) :
    ToO 70 (fun w v e => ∃ cs, v = .agg cs.toArray ∧ HVa w All (d + 1) cs e) (fun w v e fp => ∃ cs, v = .agg cs.toArray ∧ OVa w (d + 1) cs e fp) (wtVa (d + 1)) := by
  intro w v e i1 hwt
  obtain ⟨cs, rfl, v0, rfl, s0, s1, s2, f0⟩ := i1
  have hw0 : wtS (wtVa d) e.kids ≤ 1048576 := by unfold wtVa at hwt; omega
  have E0 : ∀ w', SameOn All w w' → Rows w' All 4 (HVa w' All d) v0 e.kids := fun w' hw => f0.mono hw (fun _ h => h) (fun _ _ _ => HVa.mono hw (fun _ h => h))
  obtain ⟨p0, c0, rfl, -⟩ := id f0
  clear f0
  go_enter Try.func70, Try.ntmps70
  go_wp2_with fail
  have hal : Below w.heap.size w ((w.alloc (.cells #[.int .i64 e.kind, .int .i64 e.n, .string e.text, .slice p0 e.kids.length c0] 41)).alloc (.cells #[.int .i64 0, .int .i64 0, .string ⟨#[]⟩, .slice none 0 0] 41)) := ((Below.refl _ _).alloc (Nat.le_refl _) _).alloc (by simp only [alloc_hs]; omega) _
  refine (h0 _ _ e.kids (E0 _ (SameOn.of_below hal)) hw0).mono ?_
  rintro ex w1 ⟨u, fp, rfl, r0, hnd, hrg, hb⟩
  have bA := (Blk.new (w := w) (cs := #[.int .i64 e.kind, .int .i64 e.n, .string e.text, .slice p0 e.kids.length c0]) (t := 41)).alloc (o := .cells #[.int .i64 0, .int .i64 0, .string ⟨#[]⟩, .slice none 0 0] 41)
  have bR := (Blk.new (w := w.alloc (.cells #[.int .i64 e.kind, .int .i64 e.n, .string e.text, .slice p0 e.kids.length c0] 41)) (cs := #[.int .i64 0, .int .i64 0, .string ⟨#[]⟩, .slice none 0 0]) (t := 41))
  simp only [alloc_hs] at bR hrg
  replace bA := bA.below hb (by simp only [alloc_hs]; omega)
  replace bR := bR.below hb (by simp only [alloc_hs]; omega)
  have HB1 : Hid (Below w.heap.size w w1) := hal.trans (hb.mono hal.size)
  have HND : Hid (fp.Nodup) := hnd
  have HRG : Hid (∀ a ∈ fp, w.heap.size + 1 + 1 ≤ a ∧ a < w1.heap.size) := hrg
  have T0 : Hid (ORows w1 41 4 (OVa w1 d) u e.kids fp) := r0
  clear hal hb hnd hrg
  obtain ⟨p1, c1, hu, -⟩ := r0.shape
  subst hu
  clear r0
  have o0 := bA.cell 0 _ rfl
  have o1 := bA.cell 1 _ rfl
  have o2 := bA.cell 2 _ rfl
  have o3 := bA.cell 3 _ rfl
  have g3 := bA.frozen 3
  have q0 := bR.cell 0 _ rfl
  have q1 := bR.cell 1 _ rfl
  have q2 := bR.cell 2 _ rfl
  have q3 := bR.cell 3 _ rfl
  have k0 := bR.frozen 0
  have k1 := bR.frozen 1
  have k2 := bR.frozen 2
  have k3 := bR.frozen 3
  clear bR bA
  go_wp2_with fail
  have sf : SameOn (fun g => w.heap.size + 1 + 1 ≤ g) w1 (((((w1.setCell ⟨w.heap.size, 3, none⟩ (.slice p1 e.kids.length c1)).setCell ⟨w.heap.size + 1, 0, none⟩ (.int .i64 e.kind)).setCell ⟨w.heap.size + 1, 1, none⟩ (.int .i64 e.n)).setCell ⟨w.heap.size + 1, 2, none⟩ (.string e.text)).setCell ⟨w.heap.size + 1, 3, none⟩ (.slice p1 e.kids.length c1)) :=
    SameOn.setCell (SameOn.setCell (SameOn.setCell (SameOn.setCell (SameOn.setCell (SameOn.of_below (Below.refl _ _)) (by show ¬ (_ ≤ w.heap.size); omega) _) (by show ¬ (_ ≤ w.heap.size + 1); omega) _) (by show ¬ (_ ≤ w.heap.size + 1); omega) _) (by show ¬ (_ ≤ w.heap.size + 1); omega) _) (by show ¬ (_ ≤ w.heap.size + 1); omega) _
  have bf : Below w.heap.size w (((((w1.setCell ⟨w.heap.size, 3, none⟩ (.slice p1 e.kids.length c1)).setCell ⟨w.heap.size + 1, 0, none⟩ (.int .i64 e.kind)).setCell ⟨w.heap.size + 1, 1, none⟩ (.int .i64 e.n)).setCell ⟨w.heap.size + 1, 2, none⟩ (.string e.text)).setCell ⟨w.heap.size + 1, 3, none⟩ (.slice p1 e.kids.length c1)) :=
    Below.setCell (Below.setCell (Below.setCell (Below.setCell (Below.setCell (HB1.out) (by show _ ≤ w.heap.size; omega) _) (by show _ ≤ w.heap.size + 1; omega) _) (by show _ ≤ w.heap.size + 1; omega) _) (by show _ ≤ w.heap.size + 1; omega) _) (by show _ ≤ w.heap.size + 1; omega) _
  have kf : KeepOn fp w1 (((((w1.setCell ⟨w.heap.size, 3, none⟩ (.slice p1 e.kids.length c1)).setCell ⟨w.heap.size + 1, 0, none⟩ (.int .i64 e.kind)).setCell ⟨w.heap.size + 1, 1, none⟩ (.int .i64 e.n)).setCell ⟨w.heap.size + 1, 2, none⟩ (.string e.text)).setCell ⟨w.heap.size + 1, 3, none⟩ (.slice p1 e.kids.length c1)) := fun a ha => sf.2 a (HRG.out a ha).1 (HRG.out a ha).2
  exact bodyPost_ret (v := .agg #[.int .i64 e.kind, .int .i64 e.n, .string e.text, .slice p1 e.kids.length c1]) (by simp [results, Try.results70, go_sem, q0, q1, q2, q3]) rfl
    ⟨_, fp, rfl, ⟨_, rfl, _, rfl, s0, s1, s2, T0.out.keep kf (fun cs x f _ hs h => h.keep (kf.sub hs))⟩, HND.out, fun a ha => ⟨by have := (HRG.out a ha).1; omega, Nat.lt_of_lt_of_le (HRG.out a ha).2 sf.1⟩, bf⟩

theorem copyVal_own : ∀ d, ToO 70 (fun w v e => ∃ cs, v = .agg cs.toArray ∧ HVa w All d cs e) (fun w v e fp => ∃ cs, v = .agg cs.toArray ∧ OVa w d cs e fp) (wtVa d)
  | 0 => fun w v x ⟨_, _, h⟩ _ => h.elim
  | d + 1 => copyVal_of (copyVals_of (copyVal_own d))

def zeroVa : Va := .mk 0 0 ⟨#[]⟩ []
theorem zero_okI : okI 0 := by unfold okI; decide
theorem zero_okS : okS ⟨#[]⟩ := Nat.zero_le _
theorem zero_HVa {w : World} {S : Nat → Prop} {d : Nat} : HVa w S (d + 1) [.int .i64 0, .int .i64 0, .string ⟨#[]⟩, .slice none 0 0] zeroVa := ⟨_, rfl, zero_okI, zero_okI, zero_okS, Rows.nil (Nat.zero_le _)⟩
theorem zero_wt (d : Nat) : wtVa d zeroVa = 0 := by cases d <;> rfl

/-- What a name is bound to. -/
noncomputable def lookV (s : ByteArray) : List Bd → Option Va
  | [] => none
  | b :: l => if sameB b.name s = true then some b.val else lookV s l
theorem lookV_hit {s : ByteArray} {es : List Bd} {k : Nat} {b : Bd} (h : es[k]? = some b) (hs : b.name = s) : lookV s (es.drop k) = some b.val := by
  obtain ⟨h1, rfl⟩ := List.getElem?_eq_some_iff.1 h
  rw [List.drop_eq_getElem_cons h1, lookV, sameB_true hs, if_pos rfl]
theorem lookV_miss {s : ByteArray} {es : List Bd} {k : Nat} {b : Bd} (h : es[k]? = some b) (hs : b.name ≠ s) : lookV s (es.drop k) = lookV s (es.drop (k + 1)) := by
  obtain ⟨h1, rfl⟩ := List.getElem?_eq_some_iff.1 h
  rw [List.drop_eq_getElem_cons h1, lookV, sameB_false hs, if_neg (by simp)]
noncomputable def lookR (s : ByteArray) (es : List Bd) : Va × Bool := match lookV s es with | some x => (x, true) | none => (zeroVa, false)
theorem lookR_some {s : ByteArray} {es : List Bd} {x : Va} (h : lookV s es = some x) : lookR s es = (x, true) := by unfold lookR; rw [h]
theorem lookR_none {s : ByteArray} {es : List Bd} (h : lookV s es = none) : lookR s es = (zeroVa, false) := by unfold lookR; rw [h]
theorem lookV_wt {s : ByteArray} {d : Nat} : ∀ {es : List Bd} {x : Va}, lookV s es = some x → wtVa d x ≤ wtS (wtBd d) es
  | [], x, h => by cases h
  | b :: l, x, h => by
    have e1 : wtS (wtBd d) (b :: l) = 1 + wtBd d b + wtS (wtBd d) l := by unfold wtS; simp; omega
    have e2 : wtBd d b = b.name.size + wtVa d b.val := rfl
    rw [lookV] at h
    split at h
    · cases h; omega
    · have := lookV_wt (d := d) h; omega
theorem wtVa_deeper : ∀ {d : Nat} {w : World} {S : Nat → Prop} {cs : List Value} {x : Va}, HVa w S d cs x → wtVa (d + 1) x = wtVa d x
  | 0, _, _, _, _, h => h.elim
  | d + 1, w, S, cs, x, h => by
    obtain ⟨kv, rfl, -, -, -, p, cap, -, -, -, hx⟩ := h
    show x.text.size + wtS (wtVa (d + 1)) x.kids = x.text.size + wtS (wtVa d) x.kids
    unfold wtS
    congr 3
    apply List.map_congr_left
    intro y hy
    obtain ⟨i, hi⟩ := List.getElem?_of_mem hy
    obtain ⟨g, off, -, -, -, hat⟩ := hx (by intro h; rw [h] at hy; simp at hy)
    obtain ⟨cs, -, -, hr⟩ := hat i y hi
    exact wtVa_deeper hr

set_option maxHeartbeats 4000000 in
set_option maxRecDepth 100000 in
theorem find_any (d : Nat) (w : World) (v : Value) (es : List Bd) (s : ByteArray) (h : Rows w All 5 (HBd w All d) v es) :
    Calls Try.prog 69 #[v, .string s] w fun e w' => ((∃ x cs, lookV s es = some x ∧ e = .returned (.tuple #[.agg cs.toArray, .bool true]) ∧ HVa w' All d cs x) ∨ (lookV s es = none ∧ e = .returned (.tuple #[.agg #[.int .i64 0, .int .i64 0, .string ⟨#[]⟩, .slice none 0 0], .bool false]))) ∧ Below w.heap.size w w' := by
  obtain ⟨p, cap, rfl, hcl, hcm, hx⟩ := h
  have hnb : es.length ≤ 9223372036854775807 := by unfold maxLen at hcm; omega
  generalize hn : es.length = n at *
  have HN : Hid (es.length = n) := hn
  have HX : Hid (es ≠ [] → ∃ g off, p = some ⟨g, off, none⟩ ∧ All g ∧ g < w.heap.size ∧ ∀ i x, es[i]? = some x → ∃ cs, cs.length = 5 ∧ (∀ j, j < 5 → w.cell? ⟨g, off + i * 5 + j, none⟩ = cs[j]?) ∧ HBd w All d cs x) := hx
  clear hx hn
  obtain ⟨W1, hW1⟩ : ∃ W1, W1 = w.alloc (.cells #[.int .i64 0, .int .i64 0, .string ⟨#[]⟩, .slice none 0 0] 41) := ⟨_, rfl⟩
  have bR : Hid (Blk W1 w.heap.size #[.int .i64 0, .int .i64 0, .string ⟨#[]⟩, .slice none 0 0] 41) := by show Blk _ _ _ _; rw [hW1]; exact Blk.new
  have B1 : Hid (Below w.heap.size w W1) := by show Below _ _ _; rw [hW1]; exact (Below.refl _ _).alloc (Nat.le_refl _) _
  have HW1 : Hid (W1 = w.alloc (.cells #[.int .i64 0, .int .i64 0, .string ⟨#[]⟩, .slice none 0 0] 41)) := hW1
  clear hW1
  go_enter Try.func69, Try.ntmps69
  go_wp2
  rw [← HW1.out]
  go_loopw [10] (fun iv wr => ∃ k : Nat, k ≤ n ∧ iv = .int .i64 k ∧ Hid (lookV s es = lookV s (es.drop k)) ∧ Hid (SameOn All W1 wr) ∧ Below w.heap.size w wr) (fun iv _ => n - (intOf iv).toNat)
  case atStart => exact ⟨0, Nat.zero_le _, rfl, rfl, ⟨Nat.le_refl _, fun _ _ _ => rfl⟩, B1.out⟩
  case round =>
    obtain ⟨k, hk, rfl, hsame, hso, hb⟩ := hrel
    have HB : Hid (Below w.heap.size w wr) := hb
    have b1 := bR.out.same_on hso.out
    have r0 := b1.cell 0 _ rfl
    have r1 := b1.cell 1 _ rfl
    have r2 := b1.cell 2 _ rfl
    have r3 := b1.cell 3 _ rfl
    have z0 := b1.frozen 0
    have z1 := b1.frozen 1
    have z2 := b1.frozen 2
    have z3 := b1.frozen 3
    have hRl := b1.lt
    clear b1
    by_cases hlt : k < n
    · obtain ⟨x, hxk⟩ : ∃ x, es[k]? = some x := ⟨es[k]'(by rw [HN.out]; exact hlt), List.getElem?_eq_getElem _⟩
      obtain ⟨g, off, rfl, -, hgl, hat⟩ := HX.out (by intro h; rw [h] at hxk; simp at hxk)
      obtain ⟨cs, hcs5, hcs, hex⟩ := hat k x hxk
      obtain ⟨vs, rfl, -, hv⟩ := hex
      obtain ⟨sk, sn, st, p1, n1, q1, rfl⟩ := hv.shape
      have E1 : ∀ w', Below w.heap.size w w' → HVa w' All d [.int .i64 sk, .int .i64 sn, .string st, .slice p1 n1 q1] x.val := fun w' hw => hv.mono (SameOn.of_below hw) (fun _ h => h)
      have a0 := hcs 0 (by omega)
      have a1 := hcs 1 (by omega)
      have a2 := hcs 2 (by omega)
      have a3 := hcs 3 (by omega)
      have a4 := hcs 4 (by omega)
      rw [← hb.cell (p := ⟨g, _, none⟩) hgl] at a0 a1 a2 a3 a4
      simp at a0 a1 a2 a3 a4
      have hki : (k : Int) < (n : Int) := by omega
      have hk0 : (0 : Int) ≤ (k : Int) := by omega
      obtain ⟨nm, vl⟩ := x
      simp only at *
      have hneR : w.heap.size ≠ wr.heap.size := by omega
      clear hb hat hcs hcs5 hv
      by_cases hs : nm = s
      · have HL : Hid (lookV s es = some vl) := by show _ = _; rw [hsame.out]; exact lookV_hit hxk hs
        subst hs
        have HBF : Hid (Below w.heap.size w (((((wr.setCell ⟨w.heap.size, 0, none⟩ (.int .i64 sk)).setCell ⟨w.heap.size, 1, none⟩ (.int .i64 sn)).setCell ⟨w.heap.size, 2, none⟩ (.string st)).setCell ⟨w.heap.size, 3, none⟩ (.slice p1 n1 q1)).alloc (.cells #[.string nm, .int .i64 sk, .int .i64 sn, .string st, .slice p1 n1 q1] 99))) := Below.alloc (Below.setCell (Below.setCell (Below.setCell (Below.setCell HB.out (by show _ ≤ w.heap.size; omega) _) (by show _ ≤ w.heap.size; omega) _) (by show _ ≤ w.heap.size; omega) _) (by show _ ≤ w.heap.size; omega) _) (by simp only [setCell_hs]; omega) _
        have bF : Blk (((((wr.setCell ⟨w.heap.size, 0, none⟩ (.int .i64 sk)).setCell ⟨w.heap.size, 1, none⟩ (.int .i64 sn)).setCell ⟨w.heap.size, 2, none⟩ (.string st)).setCell ⟨w.heap.size, 3, none⟩ (.slice p1 n1 q1)).alloc (.cells #[.string nm, .int .i64 sk, .int .i64 sn, .string st, .slice p1 n1 q1] 99)) w.heap.size #[.int .i64 sk, .int .i64 sn, .string st, .slice p1 n1 q1] 41 := (((((bR.out.same_on hso.out).same (j := 0) (v := .int .i64 sk) rfl).same (j := 1) (v := .int .i64 sn) rfl).same (j := 2) (v := .string st) rfl).same (j := 3) (v := .slice p1 n1 q1) rfl).alloc
        have c0 := bF.cell 0 _ rfl
        have c1 := bF.cell 1 _ rfl
        have c2 := bF.cell 2 _ rfl
        have c3 := bF.cell 3 _ rfl
        clear bF
        go_wp2
        exact bodyPost_ret (v := .tuple #[.agg #[.int .i64 sk, .int .i64 sn, .string st, .slice p1 n1 q1], .bool true]) (by simp [results, Try.results69, go_sem, c0, c1, c2, c3]) rfl ⟨.inl ⟨vl, [.int .i64 sk, .int .i64 sn, .string st, .slice p1 n1 q1], HL.out, rfl, E1 _ HBF.out⟩, HBF.out⟩
      · have HL : Hid (lookV s es = lookV s (es.drop (k + 1))) := by show _ = _; rw [hsame.out]; exact lookV_miss hxk hs
        have hq1 := str_ne hs
        have hq2 := str_neB hs
        go_wp2
        exact ⟨⟨k + 1, by omega, by go_num, HL, hso.out.trans (SameOn.of_below ((Below.refl _ _).alloc (Nat.le_refl _) _)), HB.out.trans (((Below.refl _ _).alloc (Nat.le_refl _) _).mono HB.out.size)⟩, by simp [intOf]; omega⟩
    · have HL : Hid (lookV s es = none) := by
        show _ = _
        rw [hsame.out, List.drop_of_length_le (by rw [HN.out]; omega)]; rfl
      have HBF : Hid (Below w.heap.size w ((((wr.setCell ⟨w.heap.size, 0, none⟩ (.int .i64 0)).setCell ⟨w.heap.size, 1, none⟩ (.int .i64 0)).setCell ⟨w.heap.size, 2, none⟩ (.string ⟨#[]⟩)).setCell ⟨w.heap.size, 3, none⟩ (.slice none 0 0))) := Below.setCell (Below.setCell (Below.setCell (Below.setCell HB.out (by show _ ≤ w.heap.size; omega) _) (by show _ ≤ w.heap.size; omega) _) (by show _ ≤ w.heap.size; omega) _) (by show _ ≤ w.heap.size; omega) _
      clear hb
      go_wp2
      exact bodyPost_ret (v := .tuple #[.agg #[.int .i64 0, .int .i64 0, .string ⟨#[]⟩, .slice none 0 0], .bool false]) (by simp [results, Try.results69, go_sem, r0, r1, r2, r3]) rfl ⟨.inr ⟨HL.out, rfl⟩, HBF.out⟩

set_option maxHeartbeats 4000000 in
set_option maxRecDepth 100000 in
/-- Behind find: the copy, whatever was found. -/
theorem implLookup_any (d : Nat) (w : World) (v : Value) (es : List Bd) (s : ByteArray) (h : Rows w All 5 (HBd w All d) v es) (hwt : wtS (wtBd d) es ≤ 1048576) :
    Calls Try.prog 30 #[v, .string s] w fun e w' => ∃ cs fp, e = .returned (.tuple #[.agg cs.toArray, .bool (lookR s es).2]) ∧ OVa w' (d + 1) cs (lookR s es).1 fp ∧ fp.Nodup ∧ (∀ a ∈ fp, w.heap.size ≤ a ∧ a < w'.heap.size) ∧ Below w.heap.size w w' := by
  obtain ⟨p, cap, rfl, hcl, hcm, -⟩ := id h
  have HH : Hid (Rows w All 5 (HBd w All d) (.slice p es.length cap) es) := h
  clear h
  obtain ⟨W1, hW1⟩ : ∃ W1, W1 = w.alloc (.cells #[.int .i64 0, .int .i64 0, .string ⟨#[]⟩, .slice none 0 0] 41) := ⟨_, rfl⟩
  have bR : Hid (Blk W1 w.heap.size #[.int .i64 0, .int .i64 0, .string ⟨#[]⟩, .slice none 0 0] 41) := by show Blk _ _ _ _; rw [hW1]; exact Blk.new
  have B1 : Hid (Below w.heap.size w W1) := by show Below _ _ _; rw [hW1]; exact (Below.refl _ _).alloc (Nat.le_refl _) _
  have HW1 : Hid (W1 = w.alloc (.cells #[.int .i64 0, .int .i64 0, .string ⟨#[]⟩, .slice none 0 0] 41)) := hW1
  clear hW1
  have hrow : ∀ w', Below w.heap.size w w' → Rows w' All 5 (HBd w' All d) (.slice p es.length cap) es := fun w' hw => HH.out.mono (SameOn.of_below hw) (fun _ h => h) (fun _ _ _ h => h.mono (SameOn.of_below hw) (fun _ h => h))
  generalize es.length = n at *
  go_enter Try.func30, Try.ntmps30
  go_wp2_with fail
  rw [← HW1.out]
  refine (find_any d _ _ es s (hrow _ B1.out)).mono ?_
  rintro e w2 ⟨hcase, hb2⟩
  obtain ⟨x, b, cs, rfl, hR, hx, hwx⟩ : ∃ x b cs, e = .returned (.tuple #[.agg cs.toArray, .bool b]) ∧ lookR s es = (x, b) ∧ HVa w2 All (d + 1) cs x ∧ wtVa (d + 1) x ≤ 1048576 := by
    rcases hcase with ⟨x, cs, h1, rfl, h2⟩ | ⟨h1, rfl⟩
    · exact ⟨x, true, cs, rfl, lookR_some h1, h2.deeper (by omega), by rw [wtVa_deeper h2]; exact Nat.le_trans (lookV_wt h1) hwt⟩
    · exact ⟨zeroVa, false, [.int .i64 0, .int .i64 0, .string ⟨#[]⟩, .slice none 0 0], rfl, lookR_none h1, zero_HVa, by rw [zero_wt]; omega⟩
  have HR : Hid (lookR s es = (x, b)) := hR
  clear hcase hR
  obtain ⟨sk, sn, st, p1, n1, q1, rfl⟩ := hx.shape
  have HX : Hid (HVa w2 All (d + 1) [.int .i64 sk, .int .i64 sn, .string st, .slice p1 n1 q1] x) := hx
  have HWX : Hid (wtVa (d + 1) x ≤ 1048576) := hwx
  have HB2 : Hid (Below w.heap.size w w2) := B1.out.trans (hb2.mono B1.out.size)
  have bR2 : Hid (Blk w2 w.heap.size #[.int .i64 0, .int .i64 0, .string ⟨#[]⟩, .slice none 0 0] 41) := bR.out.next hb2
  clear hx hwx hb2
  have K3 : Hid (Below w2.heap.size w2 (w2.alloc (.cells #[.int .i64 sk, .int .i64 sn, .string st, .slice p1 n1 q1] 41))) := (Below.refl _ _).alloc (Nat.le_refl _) _
  go_wp2_with fail
  refine (copyVal_own (d + 1) _ _ x ⟨_, rfl, HX.out.mono (SameOn.of_below K3.out) (fun _ h => h)⟩ HWX.out).mono ?_
  rintro e w4 ⟨u, fp, rfl, ⟨cs, rfl, ho⟩, hnd, hrg, hb⟩
  obtain ⟨tk, tn, tt, p2, n2, q2, rfl⟩ := ho.shape
  have K4 := K3.out.trans (hb.mono K3.out.size)
  have b4 := bR2.out.next K4
  have r0 := b4.cell 0 _ rfl
  have r1 := b4.cell 1 _ rfl
  have r2 := b4.cell 2 _ rfl
  have r3 := b4.cell 3 _ rfl
  have z0 := b4.frozen 0
  have z1 := b4.frozen 1
  have z2 := b4.frozen 2
  have z3 := b4.frozen 3
  have HB4 : Hid (Below w.heap.size w w4) := HB2.out.trans (K4.mono HB2.out.size)
  have hlt2 : w.heap.size < w2.heap.size := bR2.out.lt
  have HO : Hid (OVa w4 (d + 1) [.int .i64 tk, .int .i64 tn, .string tt, .slice p2 n2 q2] x fp) := ho
  have HND : Hid fp.Nodup := hnd
  have HRG : Hid (∀ a ∈ fp, w2.heap.size ≤ a ∧ a < w4.heap.size) := fun a ha => ⟨Nat.le_trans K3.out.size (hrg a ha).1, (hrg a ha).2⟩
  have bF : Blk ((((w4.setCell ⟨w.heap.size, 0, none⟩ (.int .i64 tk)).setCell ⟨w.heap.size, 1, none⟩ (.int .i64 tn)).setCell ⟨w.heap.size, 2, none⟩ (.string tt)).setCell ⟨w.heap.size, 3, none⟩ (.slice p2 n2 q2)) w.heap.size #[.int .i64 tk, .int .i64 tn, .string tt, .slice p2 n2 q2] 41 := (((b4.same (j := 0) (v := .int .i64 tk) rfl).same (j := 1) (v := .int .i64 tn) rfl).same (j := 2) (v := .string tt) rfl).same (j := 3) (v := .slice p2 n2 q2) rfl
  have c0 := bF.cell 0 _ rfl
  have c1 := bF.cell 1 _ rfl
  have c2 := bF.cell 2 _ rfl
  have c3 := bF.cell 3 _ rfl
  have HBF : Hid (Below w.heap.size w ((((w4.setCell ⟨w.heap.size, 0, none⟩ (.int .i64 tk)).setCell ⟨w.heap.size, 1, none⟩ (.int .i64 tn)).setCell ⟨w.heap.size, 2, none⟩ (.string tt)).setCell ⟨w.heap.size, 3, none⟩ (.slice p2 n2 q2))) := Below.setCell (Below.setCell (Below.setCell (Below.setCell HB4.out (by show _ ≤ w.heap.size; omega) _) (by show _ ≤ w.heap.size; omega) _) (by show _ ≤ w.heap.size; omega) _) (by show _ ≤ w.heap.size; omega) _
  have SF : Hid (SameOn (fun g => w.heap.size + 1 ≤ g) w4 ((((w4.setCell ⟨w.heap.size, 0, none⟩ (.int .i64 tk)).setCell ⟨w.heap.size, 1, none⟩ (.int .i64 tn)).setCell ⟨w.heap.size, 2, none⟩ (.string tt)).setCell ⟨w.heap.size, 3, none⟩ (.slice p2 n2 q2))) := SameOn.setCell (SameOn.setCell (SameOn.setCell (SameOn.setCell (SameOn.of_below (Below.refl _ _)) (by show ¬ (_ ≤ w.heap.size); omega) _) (by show ¬ (_ ≤ w.heap.size); omega) _) (by show ¬ (_ ≤ w.heap.size); omega) _) (by show ¬ (_ ≤ w.heap.size); omega) _
  clear ho hnd hrg hb b4 bF K4
  go_wp2_with fail
  exact bodyPost_ret (v := .tuple #[.agg #[.int .i64 tk, .int .i64 tn, .string tt, .slice p2 n2 q2], .bool b]) (by simp [results, Try.results30, go_sem, c0, c1, c2, c3]) rfl
    ⟨[.int .i64 tk, .int .i64 tn, .string tt, .slice p2 n2 q2], fp, by rw [HR.out], by rw [HR.out]; exact HO.out.keep (fun a ha => SF.out.2 a (by have := (HRG.out a ha).1; show _ ≤ _; omega) (HRG.out a ha).2), HND.out, fun a ha => ⟨by have := (HRG.out a ha).1; omega, Nat.lt_of_lt_of_le (HRG.out a ha).2 SF.out.1⟩, HBF.out⟩
end Go.Proofs.Ytkcajmkagbgfnaa
