/-
  Texts of the proof, packed: LookImpl, MatchMath, Chars, Names, SpecDec.
-/
import Derived.Test.YtmnghlkkfkpjhaaGreatDoorPackB
import Derived.Test.YtmnghlkkfkpjhaaGreatDoorRows
import Derived.WalkKit
import Derived.ProofKit
import Derived.OpenShut
import Derived.WalkSpells
import Derived.Lib.ItoaNum
/-
  The program's Lookup and what it calls, by contract.
-/
namespace Go.Proofs.YtmnghlkkfkpjhaaGreatDoor
open Go.ChangeShapes Go.WideShapes Go.ChangeAt Go.RowKit
set_option linter.unusedVariables false

set_option maxHeartbeats 4000000 in
set_option maxRecDepth 100000 in
theorem copyVals_of {d : Nat} (hE : ToO 42 (fun w v e => ∃ cs, v = .agg cs.toArray ∧ HVa w All d cs e) (fun w v e fp => ∃ cs, v = .agg cs.toArray ∧ OVa w d cs e fp) (wtVa d)) :
    ToO 65 (fun w v es => Rows w All 4 (HVa w All d) v es) (fun w v es fp => ORows w 26 4 (OVa w d) v es fp) (wtS (wtVa d)) := by
  intro w v es h hwt
  obtain ⟨p, cap, rfl, hcl, hcm, hx⟩ := h
  by_cases hne : es = []
  · subst hne
    clear hx
    simp only [List.length_nil]
    go_enter Tryz.func65, Tryz.ntmps65
    go_wp2
    go_ret
    exact ⟨_, [], rfl, .inl ⟨rfl, rfl, _, _, rfl, Nat.zero_le _⟩, by simp, fun a ha => by simp at ha, Below.refl _ _⟩
  have hn0 : 0 < es.length := by cases es with | nil => exact absurd rfl hne | cons a l => simp
  generalize hn : es.length = n at *
  have HN : Hid (es.length = n) := hn
  have HX : Hid (es ≠ [] → ∃ g off, p = some ⟨g, off, none⟩ ∧ All g ∧ g < w.heap.size ∧ ∀ i x, es[i]? = some x → ∃ cs, cs.length = 4 ∧ (∀ j, j < 4 → w.cell? ⟨g, off + i * 4 + j, none⟩ = cs[j]?) ∧ HVa w All d cs x) := hx
  have hnb : n ≤ 1048576 := by unfold wtS at hwt; omega
  have HWT : Hid (wtS (wtVa d) es ≤ 1048576) := hwt
  have hnz : ((n : Int) == 0) = false := by simp; omega
  clear hx hn hwt hne hn0
  obtain ⟨M, hM, hmk⟩ := make_row (t := 24) (e := 26) (c := 4) Tryz.underlying24 (by kernel_rfl) w n hnb
  have HO : Hid (Made w (w.alloc (.cells M 26)) w.heap.size n 26 4 (fun w => OVa w d) es 0 M.toList []) := Made.start hM (by unfold maxLen; omega)
  generalize hG : w.heap.size = G at *
  have HG : Hid (w.heap.size = G) := hG
  go_enter Tryz.func65, Tryz.ntmps65
  go_wp2
  go_loopw [14] (fun iv wr => ∃ (k : Nat) (xs : List Value) (fps : List (List Nat)), k ≤ n ∧ iv = .int .i64 k ∧ Hid (Made w wr G n 26 4 (fun w => OVa w d) es k xs fps)) (fun iv _ => n - (intOf iv).toNat)
  case atStart => exact ⟨0, M.toList, [], Nat.zero_le _, rfl, HO⟩
  case round =>
    obtain ⟨k, xs, fps, hk, rfl, HM⟩ := hrel
    by_cases hlt : k < n
    · obtain ⟨x, hxk⟩ : ∃ x, es[k]? = some x := ⟨es[k]'(by rw [HN.out]; exact hlt), List.getElem?_eq_getElem _⟩
      obtain ⟨g, off, rfl, hg, hgl, hat⟩ := HX.out (by intro h; rw [h] at hxk; simp at hxk)
      obtain ⟨cs, hcl6, hcs, hex⟩ := hat k x hxk
      have hbw : Below w.heap.size w wr := by rw [HG.out]; exact HM.out.below
      have hex' : ∀ w', SameOn All wr w' → HVa w' All d cs x := fun w' hw => hex.mono (SameOn.trans (SameOn.of_below hbw) hw) (fun _ h => h)
      obtain ⟨ak, an, at_, pa, na, qa, rfl⟩ := hex.shape
      have a0 := hcs 0 (by omega)
      have a1 := hcs 1 (by omega)
      have a2 := hcs 2 (by omega)
      have a3 := hcs 3 (by omega)
      rw [← hbw.cell (p := ⟨g, _, none⟩) (by show g < w.heap.size; rw [HG.out]; exact hgl)] at a0 a1 a2 a3
      simp at a0 a1 a2 a3
      have hwx : wtVa d x ≤ 1048576 := by
        have h1 := HWT.out
        have h2 := sum_take_succ (wtVa d) es k x hxk
        have h3 := sum_take_le (wtVa d) es (k + 1)
        unfold wtS at h1
        omega
      have hki : (k : Int) < (n : Int) := by omega
      have hk0 : (0 : Int) ≤ (k : Int) := by omega
      have HAL : Hid (Below wr.heap.size wr (wr.alloc (.cells #[.int .i64 ak, .int .i64 an, .string at_, .slice pa na qa] 26))) := (Below.refl _ _).alloc (Nat.le_refl _) _
      clear hbw hcs hat hex hcl6
      go_wp2_with (go_at_call 42; go_must (refine (hE _ _ x ⟨_, rfl, hex' _ (SameOn.of_below HAL.out)⟩ hwx).mono ?_; rintro e w1 ⟨u, fp, rfl, ⟨cs', rfl, hx1⟩, hnd, hrg, hb1⟩; obtain ⟨sk, sn, st, p1, n1, q1, hsh⟩ := hx1.shape; subst hsh; have HB1 : Hid (Below wr.heap.size wr w1) := HAL.out.trans (hb1.mono HAL.out.size); have HX1 : Hid (OVa w1 d [.int .i64 sk, .int .i64 sn, .string st, .slice p1 n1 q1] x fp) := hx1; have HND : Hid fp.Nodup := hnd; have HRG : Hid (∀ a ∈ fp, wr.heap.size ≤ a ∧ a < w1.heap.size) := (fun a ha => ⟨Nat.le_trans HAL.out.size (hrg a ha).1, (hrg a ha).2⟩); have o1 := HM.out.own.kept (grownBy_belowR (r := none) HB1.out) (Or.inr (by simp [Value.ownBlock])); have HO1 : Hid (w1.ownsRow G 26 4 (.slice (some ⟨G, 0, none⟩) n n) n xs) := o1; have f0 := o1.frozenAt (k * 4); obtain ⟨y0, g0⟩ := own_someR o1 (k * 4) (by omega); have f1 := o1.frozenAt (k * 4 + 1); obtain ⟨y1, g1⟩ := own_someR o1 (k * 4 + 1) (by omega); have f2 := o1.frozenAt (k * 4 + 2); obtain ⟨y2, g2⟩ := own_someR o1 (k * 4 + 2) (by omega); have f3 := o1.frozenAt (k * 4 + 3); obtain ⟨y3, g3⟩ := own_someR o1 (k * 4 + 3) (by omega); clear o1 hb1 hx1 hnd hrg))
      have sd := stored4 HO1.out (k * 4) (.int .i64 sk) (.int .i64 sn) (.string st) (.slice p1 n1 q1)
      have hlen : xs.length = n * 4 := HO1.out.1
      exact ⟨⟨k + 1, _, _, by omega, by go_num, HM.out.step (fun w w' cs x f h hk => h.keep hk) hxk HB1.out HX1.out HND.out HRG.out rfl sd.1 sd.2 (fun m hm => set4_other hm) (fun j hj => set4_self (by omega) j hj)⟩, by simp [intOf]; omega⟩
    · obtain rfl : k = n := by omega
      obtain ⟨fp, r1, r2, r3⟩ := HM.out.done HN.out (by unfold maxLen; omega)
      have R1 : Hid (ORows wr 26 4 (OVa wr d) (.slice (some ⟨G, 0, none⟩) k k) es fp) := r1
      have R2 : Hid (fp.Nodup ∧ ∀ a ∈ fp, G ≤ a ∧ a < wr.heap.size) := ⟨r2, r3⟩
      clear r1 r2 r3
      go_wp2
      go_ret
      exact ⟨_, fp, rfl, R1.out, R2.out.1, R2.out.2, HM.out.below⟩

set_option maxHeartbeats 4000000 in
theorem copyVal_of {d : Nat} (h0 : ToO 65 (fun w v es => Rows w All 4 (HVa w All d) v es) (fun w v es fp => ORows w 26 4 (OVa w d) v es fp) (wtS (wtVa d))) :
    ToO 42 (fun w v e => ∃ cs, v = .agg cs.toArray ∧ HVa w All (d + 1) cs e) (fun w v e fp => ∃ cs, v = .agg cs.toArray ∧ OVa w (d + 1) cs e fp) (wtVa (d + 1)) := by
  intro w v e i1 hwt
  obtain ⟨cs, rfl, v0, rfl, s0, s1, s2, f0⟩ := i1
  have hw0 : wtS (wtVa d) e.kids ≤ 1048576 := by unfold wtVa at hwt; omega
  have E0 : ∀ w', SameOn All w w' → Rows w' All 4 (HVa w' All d) v0 e.kids := fun w' hw => f0.mono hw (fun _ h => h) (fun _ _ _ => HVa.mono hw (fun _ h => h))
  obtain ⟨p0, c0, rfl, -⟩ := id f0
  clear f0
  go_enter Tryz.func42, Tryz.ntmps42
  go_wp2_with fail
  have hal : Below w.heap.size w ((w.alloc (.cells #[.int .i64 e.kind, .int .i64 e.n, .string e.text, .slice p0 e.kids.length c0] 26)).alloc (.cells #[.int .i64 0, .int .i64 0, .string ⟨#[]⟩, .slice none 0 0] 26)) := ((Below.refl _ _).alloc (Nat.le_refl _) _).alloc (by simp only [alloc_hs]; omega) _
  refine (h0 _ _ e.kids (E0 _ (SameOn.of_below hal)) hw0).mono ?_
  rintro ex w1 ⟨u, fp, rfl, r0, hnd, hrg, hb⟩
  have bA := (Blk.new (w := w) (cs := #[.int .i64 e.kind, .int .i64 e.n, .string e.text, .slice p0 e.kids.length c0]) (t := 26)).alloc (o := .cells #[.int .i64 0, .int .i64 0, .string ⟨#[]⟩, .slice none 0 0] 26)
  have bR := (Blk.new (w := w.alloc (.cells #[.int .i64 e.kind, .int .i64 e.n, .string e.text, .slice p0 e.kids.length c0] 26)) (cs := #[.int .i64 0, .int .i64 0, .string ⟨#[]⟩, .slice none 0 0]) (t := 26))
  simp only [alloc_hs] at bR hrg
  replace bA := bA.below hb (by simp only [alloc_hs]; omega)
  replace bR := bR.below hb (by simp only [alloc_hs]; omega)
  have HB1 : Hid (Below w.heap.size w w1) := hal.trans (hb.mono hal.size)
  have HND : Hid (fp.Nodup) := hnd
  have HRG : Hid (∀ a ∈ fp, w.heap.size + 1 + 1 ≤ a ∧ a < w1.heap.size) := hrg
  have T0 : Hid (ORows w1 26 4 (OVa w1 d) u e.kids fp) := r0
  clear hal hb hnd hrg
  obtain ⟨p1, c1, hu, -⟩ := r0.shape
  subst hu
  clear r0
  have o0 := bA.cell 0 _ rfl
  have o1 := bA.cell 1 _ rfl
  have o2 := bA.cell 2 _ rfl
  have o3 := bA.cell 3 _ rfl
  have g3 := bA.frozen 3
  have q0 := bR.cell 0 _ rfl
  have q1 := bR.cell 1 _ rfl
  have q2 := bR.cell 2 _ rfl
  have q3 := bR.cell 3 _ rfl
  have k0 := bR.frozen 0
  have k1 := bR.frozen 1
  have k2 := bR.frozen 2
  have k3 := bR.frozen 3
  clear bR bA
  go_wp2_with fail
  have sf : SameOn (fun g => w.heap.size + 1 + 1 ≤ g) w1 (((((w1.setCell ⟨w.heap.size, 3, none⟩ (.slice p1 e.kids.length c1)).setCell ⟨w.heap.size + 1, 0, none⟩ (.int .i64 e.kind)).setCell ⟨w.heap.size + 1, 1, none⟩ (.int .i64 e.n)).setCell ⟨w.heap.size + 1, 2, none⟩ (.string e.text)).setCell ⟨w.heap.size + 1, 3, none⟩ (.slice p1 e.kids.length c1)) :=
    SameOn.setCell (SameOn.setCell (SameOn.setCell (SameOn.setCell (SameOn.setCell (SameOn.of_below (Below.refl _ _)) (by show ¬ (_ ≤ w.heap.size); omega) _) (by show ¬ (_ ≤ w.heap.size + 1); omega) _) (by show ¬ (_ ≤ w.heap.size + 1); omega) _) (by show ¬ (_ ≤ w.heap.size + 1); omega) _) (by show ¬ (_ ≤ w.heap.size + 1); omega) _
  have bf : Below w.heap.size w (((((w1.setCell ⟨w.heap.size, 3, none⟩ (.slice p1 e.kids.length c1)).setCell ⟨w.heap.size + 1, 0, none⟩ (.int .i64 e.kind)).setCell ⟨w.heap.size + 1, 1, none⟩ (.int .i64 e.n)).setCell ⟨w.heap.size + 1, 2, none⟩ (.string e.text)).setCell ⟨w.heap.size + 1, 3, none⟩ (.slice p1 e.kids.length c1)) :=
    Below.setCell (Below.setCell (Below.setCell (Below.setCell (Below.setCell (HB1.out) (by show _ ≤ w.heap.size; omega) _) (by show _ ≤ w.heap.size + 1; omega) _) (by show _ ≤ w.heap.size + 1; omega) _) (by show _ ≤ w.heap.size + 1; omega) _) (by show _ ≤ w.heap.size + 1; omega) _
  have kf : KeepOn fp w1 (((((w1.setCell ⟨w.heap.size, 3, none⟩ (.slice p1 e.kids.length c1)).setCell ⟨w.heap.size + 1, 0, none⟩ (.int .i64 e.kind)).setCell ⟨w.heap.size + 1, 1, none⟩ (.int .i64 e.n)).setCell ⟨w.heap.size + 1, 2, none⟩ (.string e.text)).setCell ⟨w.heap.size + 1, 3, none⟩ (.slice p1 e.kids.length c1)) := fun a ha => sf.2 a (HRG.out a ha).1 (HRG.out a ha).2
  exact bodyPost_ret (v := .agg #[.int .i64 e.kind, .int .i64 e.n, .string e.text, .slice p1 e.kids.length c1]) (by simp [results, Tryz.results42, go_sem, q0, q1, q2, q3]) rfl
    ⟨_, fp, rfl, ⟨_, rfl, _, rfl, s0, s1, s2, T0.out.keep kf (fun cs x f _ hs h => h.keep (kf.sub hs))⟩, HND.out, fun a ha => ⟨by have := (HRG.out a ha).1; omega, Nat.lt_of_lt_of_le (HRG.out a ha).2 sf.1⟩, bf⟩

theorem copyVal_own : ∀ d, ToO 42 (fun w v e => ∃ cs, v = .agg cs.toArray ∧ HVa w All d cs e) (fun w v e fp => ∃ cs, v = .agg cs.toArray ∧ OVa w d cs e fp) (wtVa d)
  | 0 => fun w v x ⟨_, _, h⟩ _ => h.elim
  | d + 1 => copyVal_of (copyVals_of (copyVal_own d))

def zeroVa : Va := .mk 0 0 ⟨#[]⟩ []
theorem zero_okI : okI 0 := by unfold okI; decide
theorem zero_okS : okS ⟨#[]⟩ := Nat.zero_le _
theorem zero_HVa {w : World} {S : Nat → Prop} {d : Nat} : HVa w S (d + 1) [.int .i64 0, .int .i64 0, .string ⟨#[]⟩, .slice none 0 0] zeroVa := ⟨_, rfl, zero_okI, zero_okI, zero_okS, Rows.nil (Nat.zero_le _)⟩
theorem zero_wt (d : Nat) : wtVa d zeroVa = 0 := by cases d <;> rfl

/-- What a name is bound to. -/
noncomputable def lookV (s : ByteArray) : List Bd → Option Va
  | [] => none
  | b :: l => if sameB b.name s = true then some b.val else lookV s l
theorem lookV_hit {s : ByteArray} {es : List Bd} {k : Nat} {b : Bd} (h : es[k]? = some b) (hs : b.name = s) : lookV s (es.drop k) = some b.val := by
  obtain ⟨h1, rfl⟩ := List.getElem?_eq_some_iff.1 h
  rw [List.drop_eq_getElem_cons h1, lookV, sameB_true hs, if_pos rfl]
theorem lookV_miss {s : ByteArray} {es : List Bd} {k : Nat} {b : Bd} (h : es[k]? = some b) (hs : b.name ≠ s) : lookV s (es.drop k) = lookV s (es.drop (k + 1)) := by
  obtain ⟨h1, rfl⟩ := List.getElem?_eq_some_iff.1 h
  rw [List.drop_eq_getElem_cons h1, lookV, sameB_false hs, if_neg (by simp)]
noncomputable def lookR (s : ByteArray) (es : List Bd) : Va × Bool := match lookV s es with | some x => (x, true) | none => (zeroVa, false)
theorem lookR_some {s : ByteArray} {es : List Bd} {x : Va} (h : lookV s es = some x) : lookR s es = (x, true) := by unfold lookR; rw [h]
theorem lookR_none {s : ByteArray} {es : List Bd} (h : lookV s es = none) : lookR s es = (zeroVa, false) := by unfold lookR; rw [h]
theorem lookV_wt {s : ByteArray} {d : Nat} : ∀ {es : List Bd} {x : Va}, lookV s es = some x → wtVa d x ≤ wtS (wtBd d) es
  | [], x, h => by cases h
  | b :: l, x, h => by
    have e1 : wtS (wtBd d) (b :: l) = 1 + wtBd d b + wtS (wtBd d) l := by unfold wtS; simp; omega
    have e2 : wtBd d b = b.name.size + wtVa d b.val := rfl
    rw [lookV] at h
    split at h
    · cases h; omega
    · have := lookV_wt (d := d) h; omega
theorem wtVa_deeper : ∀ {d : Nat} {w : World} {S : Nat → Prop} {cs : List Value} {x : Va}, HVa w S d cs x → wtVa (d + 1) x = wtVa d x
  | 0, _, _, _, _, h => h.elim
  | d + 1, w, S, cs, x, h => by
    obtain ⟨kv, rfl, -, -, -, p, cap, -, -, -, hx⟩ := h
    show x.text.size + wtS (wtVa (d + 1)) x.kids = x.text.size + wtS (wtVa d) x.kids
    unfold wtS
    congr 3
    apply List.map_congr_left
    intro y hy
    obtain ⟨i, hi⟩ := List.getElem?_of_mem hy
    obtain ⟨g, off, -, -, -, hat⟩ := hx (by intro h; rw [h] at hy; simp at hy)
    obtain ⟨cs, -, -, hr⟩ := hat i y hi
    exact wtVa_deeper hr

set_option maxHeartbeats 4000000 in
set_option maxRecDepth 100000 in
theorem find_any (d : Nat) (w : World) (v : Value) (es : List Bd) (s : ByteArray) (h : Rows w All 5 (HBd w All d) v es) :
    Calls Tryz.prog 41 #[v, .string s] w fun e w' => ((∃ x cs, lookV s es = some x ∧ e = .returned (.tuple #[.agg cs.toArray, .bool true]) ∧ HVa w' All d cs x) ∨ (lookV s es = none ∧ e = .returned (.tuple #[.agg #[.int .i64 0, .int .i64 0, .string ⟨#[]⟩, .slice none 0 0], .bool false]))) ∧ Below w.heap.size w w' := by
  obtain ⟨p, cap, rfl, hcl, hcm, hx⟩ := h
  have hnb : es.length ≤ 9223372036854775807 := by unfold maxLen at hcm; omega
  generalize hn : es.length = n at *
  have HN : Hid (es.length = n) := hn
  have HX : Hid (es ≠ [] → ∃ g off, p = some ⟨g, off, none⟩ ∧ All g ∧ g < w.heap.size ∧ ∀ i x, es[i]? = some x → ∃ cs, cs.length = 5 ∧ (∀ j, j < 5 → w.cell? ⟨g, off + i * 5 + j, none⟩ = cs[j]?) ∧ HBd w All d cs x) := hx
  clear hx hn
  obtain ⟨W1, hW1⟩ : ∃ W1, W1 = w.alloc (.cells #[.int .i64 0, .int .i64 0, .string ⟨#[]⟩, .slice none 0 0] 26) := ⟨_, rfl⟩
  have bR : Hid (Blk W1 w.heap.size #[.int .i64 0, .int .i64 0, .string ⟨#[]⟩, .slice none 0 0] 26) := by show Blk _ _ _ _; rw [hW1]; exact Blk.new
  have B1 : Hid (Below w.heap.size w W1) := by show Below _ _ _; rw [hW1]; exact (Below.refl _ _).alloc (Nat.le_refl _) _
  have HW1 : Hid (W1 = w.alloc (.cells #[.int .i64 0, .int .i64 0, .string ⟨#[]⟩, .slice none 0 0] 26)) := hW1
  clear hW1
  go_enter Tryz.func41, Tryz.ntmps41
  go_wp2
  rw [← HW1.out]
  go_loopw [10] (fun iv wr => ∃ k : Nat, k ≤ n ∧ iv = .int .i64 k ∧ Hid (lookV s es = lookV s (es.drop k)) ∧ Hid (SameOn All W1 wr) ∧ Below w.heap.size w wr) (fun iv _ => n - (intOf iv).toNat)
  case atStart => exact ⟨0, Nat.zero_le _, rfl, rfl, ⟨Nat.le_refl _, fun _ _ _ => rfl⟩, B1.out⟩
  case round =>
    obtain ⟨k, hk, rfl, hsame, hso, hb⟩ := hrel
    have HB : Hid (Below w.heap.size w wr) := hb
    have b1 := bR.out.same_on hso.out
    have r0 := b1.cell 0 _ rfl
    have r1 := b1.cell 1 _ rfl
    have r2 := b1.cell 2 _ rfl
    have r3 := b1.cell 3 _ rfl
    have z0 := b1.frozen 0
    have z1 := b1.frozen 1
    have z2 := b1.frozen 2
    have z3 := b1.frozen 3
    have hRl := b1.lt
    clear b1
    by_cases hlt : k < n
    · obtain ⟨x, hxk⟩ : ∃ x, es[k]? = some x := ⟨es[k]'(by rw [HN.out]; exact hlt), List.getElem?_eq_getElem _⟩
      obtain ⟨g, off, rfl, -, hgl, hat⟩ := HX.out (by intro h; rw [h] at hxk; simp at hxk)
      obtain ⟨cs, hcs5, hcs, hex⟩ := hat k x hxk
      obtain ⟨vs, rfl, -, hv⟩ := hex
      obtain ⟨sk, sn, st, p1, n1, q1, rfl⟩ := hv.shape
      have E1 : ∀ w', Below w.heap.size w w' → HVa w' All d [.int .i64 sk, .int .i64 sn, .string st, .slice p1 n1 q1] x.val := fun w' hw => hv.mono (SameOn.of_below hw) (fun _ h => h)
      have a0 := hcs 0 (by omega)
      have a1 := hcs 1 (by omega)
      have a2 := hcs 2 (by omega)
      have a3 := hcs 3 (by omega)
      have a4 := hcs 4 (by omega)
      rw [← hb.cell (p := ⟨g, _, none⟩) hgl] at a0 a1 a2 a3 a4
      simp at a0 a1 a2 a3 a4
      have hki : (k : Int) < (n : Int) := by omega
      have hk0 : (0 : Int) ≤ (k : Int) := by omega
      obtain ⟨nm, vl⟩ := x
      simp only at *
      have hneR : w.heap.size ≠ wr.heap.size := by omega
      clear hb hat hcs hcs5 hv
      by_cases hs : nm = s
      · have HL : Hid (lookV s es = some vl) := by show _ = _; rw [hsame.out]; exact lookV_hit hxk hs
        subst hs
        have HBF : Hid (Below w.heap.size w (((((wr.setCell ⟨w.heap.size, 0, none⟩ (.int .i64 sk)).setCell ⟨w.heap.size, 1, none⟩ (.int .i64 sn)).setCell ⟨w.heap.size, 2, none⟩ (.string st)).setCell ⟨w.heap.size, 3, none⟩ (.slice p1 n1 q1)).alloc (.cells #[.string nm, .int .i64 sk, .int .i64 sn, .string st, .slice p1 n1 q1] 66))) := Below.alloc (Below.setCell (Below.setCell (Below.setCell (Below.setCell HB.out (by show _ ≤ w.heap.size; omega) _) (by show _ ≤ w.heap.size; omega) _) (by show _ ≤ w.heap.size; omega) _) (by show _ ≤ w.heap.size; omega) _) (by simp only [setCell_hs]; omega) _
        have bF : Blk (((((wr.setCell ⟨w.heap.size, 0, none⟩ (.int .i64 sk)).setCell ⟨w.heap.size, 1, none⟩ (.int .i64 sn)).setCell ⟨w.heap.size, 2, none⟩ (.string st)).setCell ⟨w.heap.size, 3, none⟩ (.slice p1 n1 q1)).alloc (.cells #[.string nm, .int .i64 sk, .int .i64 sn, .string st, .slice p1 n1 q1] 66)) w.heap.size #[.int .i64 sk, .int .i64 sn, .string st, .slice p1 n1 q1] 26 := (((((bR.out.same_on hso.out).same (j := 0) (v := .int .i64 sk) rfl).same (j := 1) (v := .int .i64 sn) rfl).same (j := 2) (v := .string st) rfl).same (j := 3) (v := .slice p1 n1 q1) rfl).alloc
        have c0 := bF.cell 0 _ rfl
        have c1 := bF.cell 1 _ rfl
        have c2 := bF.cell 2 _ rfl
        have c3 := bF.cell 3 _ rfl
        clear bF
        go_wp2
        exact bodyPost_ret (v := .tuple #[.agg #[.int .i64 sk, .int .i64 sn, .string st, .slice p1 n1 q1], .bool true]) (by simp [results, Tryz.results41, go_sem, c0, c1, c2, c3]) rfl ⟨.inl ⟨vl, [.int .i64 sk, .int .i64 sn, .string st, .slice p1 n1 q1], HL.out, rfl, E1 _ HBF.out⟩, HBF.out⟩
      · have HL : Hid (lookV s es = lookV s (es.drop (k + 1))) := by show _ = _; rw [hsame.out]; exact lookV_miss hxk hs
        have hq1 := str_ne hs
        have hq2 := str_neB hs
        go_wp2
        exact ⟨⟨k + 1, by omega, by go_num, HL, hso.out.trans (SameOn.of_below ((Below.refl _ _).alloc (Nat.le_refl _) _)), HB.out.trans (((Below.refl _ _).alloc (Nat.le_refl _) _).mono HB.out.size)⟩, by simp [intOf]; omega⟩
    · have HL : Hid (lookV s es = none) := by
        show _ = _
        rw [hsame.out, List.drop_of_length_le (by rw [HN.out]; omega)]; rfl
      have HBF : Hid (Below w.heap.size w ((((wr.setCell ⟨w.heap.size, 0, none⟩ (.int .i64 0)).setCell ⟨w.heap.size, 1, none⟩ (.int .i64 0)).setCell ⟨w.heap.size, 2, none⟩ (.string ⟨#[]⟩)).setCell ⟨w.heap.size, 3, none⟩ (.slice none 0 0))) := Below.setCell (Below.setCell (Below.setCell (Below.setCell HB.out (by show _ ≤ w.heap.size; omega) _) (by show _ ≤ w.heap.size; omega) _) (by show _ ≤ w.heap.size; omega) _) (by show _ ≤ w.heap.size; omega) _
      clear hb
      go_wp2
      exact bodyPost_ret (v := .tuple #[.agg #[.int .i64 0, .int .i64 0, .string ⟨#[]⟩, .slice none 0 0], .bool false]) (by simp [results, Tryz.results41, go_sem, r0, r1, r2, r3]) rfl ⟨.inr ⟨HL.out, rfl⟩, HBF.out⟩

set_option maxHeartbeats 4000000 in
set_option maxRecDepth 100000 in
/-- Behind find: the copy, whatever was found. -/
theorem implLookup_any (d : Nat) (w : World) (v : Value) (es : List Bd) (s : ByteArray) (h : Rows w All 5 (HBd w All d) v es) (hwt : wtS (wtBd d) es ≤ 1048576) :
    Calls Tryz.prog 11 #[v, .string s] w fun e w' => ∃ cs fp, e = .returned (.tuple #[.agg cs.toArray, .bool (lookR s es).2]) ∧ OVa w' (d + 1) cs (lookR s es).1 fp ∧ fp.Nodup ∧ (∀ a ∈ fp, w.heap.size ≤ a ∧ a < w'.heap.size) ∧ Below w.heap.size w w' := by
  obtain ⟨p, cap, rfl, hcl, hcm, -⟩ := id h
  have HH : Hid (Rows w All 5 (HBd w All d) (.slice p es.length cap) es) := h
  clear h
  obtain ⟨W1, hW1⟩ : ∃ W1, W1 = w.alloc (.cells #[.int .i64 0, .int .i64 0, .string ⟨#[]⟩, .slice none 0 0] 26) := ⟨_, rfl⟩
  have bR : Hid (Blk W1 w.heap.size #[.int .i64 0, .int .i64 0, .string ⟨#[]⟩, .slice none 0 0] 26) := by show Blk _ _ _ _; rw [hW1]; exact Blk.new
  have B1 : Hid (Below w.heap.size w W1) := by show Below _ _ _; rw [hW1]; exact (Below.refl _ _).alloc (Nat.le_refl _) _
  have HW1 : Hid (W1 = w.alloc (.cells #[.int .i64 0, .int .i64 0, .string ⟨#[]⟩, .slice none 0 0] 26)) := hW1
  clear hW1
  have hrow : ∀ w', Below w.heap.size w w' → Rows w' All 5 (HBd w' All d) (.slice p es.length cap) es := fun w' hw => HH.out.mono (SameOn.of_below hw) (fun _ h => h) (fun _ _ _ h => h.mono (SameOn.of_below hw) (fun _ h => h))
  generalize es.length = n at *
  go_enter Tryz.func11, Tryz.ntmps11
  go_wp2_with fail
  rw [← HW1.out]
  refine (find_any d _ _ es s (hrow _ B1.out)).mono ?_
  rintro e w2 ⟨hcase, hb2⟩
  obtain ⟨x, b, cs, rfl, hR, hx, hwx⟩ : ∃ x b cs, e = .returned (.tuple #[.agg cs.toArray, .bool b]) ∧ lookR s es = (x, b) ∧ HVa w2 All (d + 1) cs x ∧ wtVa (d + 1) x ≤ 1048576 := by
    rcases hcase with ⟨x, cs, h1, rfl, h2⟩ | ⟨h1, rfl⟩
    · exact ⟨x, true, cs, rfl, lookR_some h1, h2.deeper (by omega), by rw [wtVa_deeper h2]; exact Nat.le_trans (lookV_wt h1) hwt⟩
    · exact ⟨zeroVa, false, [.int .i64 0, .int .i64 0, .string ⟨#[]⟩, .slice none 0 0], rfl, lookR_none h1, zero_HVa, by rw [zero_wt]; omega⟩
  have HR : Hid (lookR s es = (x, b)) := hR
  clear hcase hR
  obtain ⟨sk, sn, st, p1, n1, q1, rfl⟩ := hx.shape
  have HX : Hid (HVa w2 All (d + 1) [.int .i64 sk, .int .i64 sn, .string st, .slice p1 n1 q1] x) := hx
  have HWX : Hid (wtVa (d + 1) x ≤ 1048576) := hwx
  have HB2 : Hid (Below w.heap.size w w2) := B1.out.trans (hb2.mono B1.out.size)
  have bR2 : Hid (Blk w2 w.heap.size #[.int .i64 0, .int .i64 0, .string ⟨#[]⟩, .slice none 0 0] 26) := bR.out.next hb2
  clear hx hwx hb2
  have K3 : Hid (Below w2.heap.size w2 (w2.alloc (.cells #[.int .i64 sk, .int .i64 sn, .string st, .slice p1 n1 q1] 26))) := (Below.refl _ _).alloc (Nat.le_refl _) _
  go_wp2_with fail
  refine (copyVal_own (d + 1) _ _ x ⟨_, rfl, HX.out.mono (SameOn.of_below K3.out) (fun _ h => h)⟩ HWX.out).mono ?_
  rintro e w4 ⟨u, fp, rfl, ⟨cs, rfl, ho⟩, hnd, hrg, hb⟩
  obtain ⟨tk, tn, tt, p2, n2, q2, rfl⟩ := ho.shape
  have K4 := K3.out.trans (hb.mono K3.out.size)
  have b4 := bR2.out.next K4
  have r0 := b4.cell 0 _ rfl
  have r1 := b4.cell 1 _ rfl
  have r2 := b4.cell 2 _ rfl
  have r3 := b4.cell 3 _ rfl
  have z0 := b4.frozen 0
  have z1 := b4.frozen 1
  have z2 := b4.frozen 2
  have z3 := b4.frozen 3
  have HB4 : Hid (Below w.heap.size w w4) := HB2.out.trans (K4.mono HB2.out.size)
  have hlt2 : w.heap.size < w2.heap.size := bR2.out.lt
  have HO : Hid (OVa w4 (d + 1) [.int .i64 tk, .int .i64 tn, .string tt, .slice p2 n2 q2] x fp) := ho
  have HND : Hid fp.Nodup := hnd
  have HRG : Hid (∀ a ∈ fp, w2.heap.size ≤ a ∧ a < w4.heap.size) := fun a ha => ⟨Nat.le_trans K3.out.size (hrg a ha).1, (hrg a ha).2⟩
  have bF : Blk ((((w4.setCell ⟨w.heap.size, 0, none⟩ (.int .i64 tk)).setCell ⟨w.heap.size, 1, none⟩ (.int .i64 tn)).setCell ⟨w.heap.size, 2, none⟩ (.string tt)).setCell ⟨w.heap.size, 3, none⟩ (.slice p2 n2 q2)) w.heap.size #[.int .i64 tk, .int .i64 tn, .string tt, .slice p2 n2 q2] 26 := (((b4.same (j := 0) (v := .int .i64 tk) rfl).same (j := 1) (v := .int .i64 tn) rfl).same (j := 2) (v := .string tt) rfl).same (j := 3) (v := .slice p2 n2 q2) rfl
  have c0 := bF.cell 0 _ rfl
  have c1 := bF.cell 1 _ rfl
  have c2 := bF.cell 2 _ rfl
  have c3 := bF.cell 3 _ rfl
  have HBF : Hid (Below w.heap.size w ((((w4.setCell ⟨w.heap.size, 0, none⟩ (.int .i64 tk)).setCell ⟨w.heap.size, 1, none⟩ (.int .i64 tn)).setCell ⟨w.heap.size, 2, none⟩ (.string tt)).setCell ⟨w.heap.size, 3, none⟩ (.slice p2 n2 q2))) := Below.setCell (Below.setCell (Below.setCell (Below.setCell HB4.out (by show _ ≤ w.heap.size; omega) _) (by show _ ≤ w.heap.size; omega) _) (by show _ ≤ w.heap.size; omega) _) (by show _ ≤ w.heap.size; omega) _
  have SF : Hid (SameOn (fun g => w.heap.size + 1 ≤ g) w4 ((((w4.setCell ⟨w.heap.size, 0, none⟩ (.int .i64 tk)).setCell ⟨w.heap.size, 1, none⟩ (.int .i64 tn)).setCell ⟨w.heap.size, 2, none⟩ (.string tt)).setCell ⟨w.heap.size, 3, none⟩ (.slice p2 n2 q2))) := SameOn.setCell (SameOn.setCell (SameOn.setCell (SameOn.setCell (SameOn.of_below (Below.refl _ _)) (by show ¬ (_ ≤ w.heap.size); omega) _) (by show ¬ (_ ≤ w.heap.size); omega) _) (by show ¬ (_ ≤ w.heap.size); omega) _) (by show ¬ (_ ≤ w.heap.size); omega) _
  clear ho hnd hrg hb b4 bF K4
  go_wp2_with fail
  exact bodyPost_ret (v := .tuple #[.agg #[.int .i64 tk, .int .i64 tn, .string tt, .slice p2 n2 q2], .bool b]) (by simp [results, Tryz.results11, go_sem, c0, c1, c2, c3]) rfl
    ⟨[.int .i64 tk, .int .i64 tn, .string tt, .slice p2 n2 q2], fp, by rw [HR.out], by rw [HR.out]; exact HO.out.keep (fun a ha => SF.out.2 a (by have := (HRG.out a ha).1; show _ ≤ _; omega) (HRG.out a ha).2), HND.out, fun a ha => ⟨by have := (HRG.out a ha).1; omega, Nat.lt_of_lt_of_le (HRG.out a ha).2 SF.out.1⟩, HBF.out⟩
end Go.Proofs.YtmnghlkkfkpjhaaGreatDoor
/-
  Which values fit a pattern, as plain mathematics; what was bound fits again.
-/
namespace Go.Proofs.YtmnghlkkfkpjhaaGreatDoor
open Go.ChangeShapes Go.WideShapes Go.ChangeAt Go.RowKit
set_option linter.unusedVariables false

/-- Kids one behind the other. -/
def kidsM (f : Ex → Va → List Bd → Option (List Bd)) : List Ex → List Va → List Bd → Option (List Bd)
  | [], [], env => some env
  | p :: ps, v :: vs, env => match f p v env with
    | none => none
    | some e => kidsM f ps vs e
  | _, _, _ => none
noncomputable def varM (D : Nat) (s : ByteArray) (v : Va) (env : List Bd) : Option (List Bd) := match lookV s env with
  | some u => if cmpVa D u v = 0 then some env else none
  | none => some (env ++ [⟨s, v⟩])
/-- What is bound behind a pattern that a value fits. -/
noncomputable def matchM (D : Nat) : Nat → Ex → Va → List Bd → Option (List Bd)
  | 0, _, _, _ => none
  | k + 1, p, v, env =>
    if p.kind = 0 then (if v.kind = 0 ∧ v.n = p.n then some env else none)
    else if p.kind = 1 then (if v.kind = 1 ∧ v.text = p.text then some env else none)
    else if p.kind = 2 then varM D p.text v env
    else if p.kind = 3 then some env
    else if p.kind = 4 then (if v.kind = 2 ∧ p.kids.length = v.kids.length then kidsM (matchM D k) p.kids v.kids env else none)
    else if p.kind = 5 then (if v.kind = 3 then some env else none)
    else if p.kind = 6 then (if v.kind = 4 ∧ p.kids.length = v.kids.length then kidsM (matchM D k) p.kids v.kids env else none)
    else none

theorem lookV_more {s : ByteArray} {u : Va} : ∀ {env more : List Bd}, lookV s env = some u → lookV s (env ++ more) = some u
  | [], _, h => by simp [lookV] at h
  | b :: env, more, h => by
    simp only [lookV, List.cons_append] at h ⊢
    split at h
    · rename_i hb; rw [if_pos hb]; exact h
    · rename_i hb; rw [if_neg hb]; exact lookV_more h
theorem lookV_new {s : ByteArray} {v : Va} : ∀ {env more : List Bd}, lookV s env = none → lookV s (env ++ [⟨s, v⟩] ++ more) = some v
  | [], _, _ => by simp [lookV, sameB_true rfl]
  | b :: env, more, h => by
    simp only [lookV, List.cons_append] at h ⊢
    split at h
    · cases h
    · rename_i hb; rw [if_neg hb]; exact lookV_new h

def Again (f : Ex → Va → List Bd → Option (List Bd)) : Prop := ∀ p v env out, f p v env = some out → ∃ more, out = env ++ more ∧ ∀ m, f p v (out ++ m) = some (out ++ m)

theorem kidsM_again {f : Ex → Va → List Bd → Option (List Bd)} (hf : Again f) : ∀ (ps : List Ex) (vs : List Va) (env out : List Bd), kidsM f ps vs env = some out →
    ∃ more, out = env ++ more ∧ ∀ m, kidsM f ps vs (out ++ m) = some (out ++ m)
  | [], [], env, out, h => by
    simp only [kidsM, Option.some.injEq] at h
    subst h
    exact ⟨[], by simp, fun m => rfl⟩
  | [], _ :: _, _, _, h => by simp [kidsM] at h
  | _ :: _, [], _, _, h => by simp [kidsM] at h
  | p :: ps, v :: vs, env, out, h => by
    simp only [kidsM] at h
    cases h1 : f p v env with
    | none => rw [h1] at h; cases h
    | some e1 =>
      rw [h1] at h
      obtain ⟨m1, rfl, g1⟩ := hf p v env e1 h1
      obtain ⟨m2, rfl, g2⟩ := kidsM_again hf ps vs _ out h
      refine ⟨m1 ++ m2, by simp, fun m => ?_⟩
      simp only [kidsM]
      rw [show env ++ m1 ++ m2 ++ m = env ++ m1 ++ (m2 ++ m) by simp, g1 (m2 ++ m)]
      simp only
      rw [← List.append_assoc]
      exact g2 m

theorem cmpVa_self (D : Nat) (v : Va) : cmpVa D v v = 0 := by
  induction D generalizing v with
  | zero => rfl
  | succ d ih =>
    have hl : ∀ l : List Va, cmpL (cmpVa d) l l = 0 := by
      intro l
      induction l with
      | nil => rfl
      | cons x l ihl => show (if cmpVa d x x = 0 then cmpL (cmpVa d) l l else cmpVa d x x) = 0; rw [if_pos (ih x)]; exact ihl
    show (if cmpI v.kind v.kind = 0 then (if cmpI v.n v.n = 0 then (if cmpS v.text v.text = 0 then cmpL (cmpVa d) v.kids v.kids else cmpS v.text v.text) else cmpI v.n v.n) else cmpI v.kind v.kind) = 0
    rw [if_pos (cmpI_self _), if_pos (cmpI_self _), if_pos (cmpS_self _)]
    exact hl _

/-- What fits a pattern fits it again with what was bound. -/
theorem matchM_again (D : Nat) : ∀ k, Again (matchM D k)
  | 0, _, _, _, _, h => by simp [matchM] at h
  | k + 1, p, v, env, out, h => by
    have ih := matchM_again D k
    have same : some env = some out → ∃ more, out = env ++ more := fun e => ⟨[], by simpa using (Option.some.inj e).symm⟩
    simp only [matchM] at h ⊢
    by_cases k0 : p.kind = 0
    · simp only [if_pos k0] at h ⊢
      split at h
      · rename_i c; obtain ⟨m, hm⟩ := same h; exact ⟨m, hm, fun m => if_pos c⟩
      · cases h
    simp only [if_neg k0] at h ⊢
    by_cases k1 : p.kind = 1
    · simp only [if_pos k1] at h ⊢
      split at h
      · rename_i c; obtain ⟨m, hm⟩ := same h; exact ⟨m, hm, fun m => if_pos c⟩
      · cases h
    simp only [if_neg k1] at h ⊢
    by_cases k2 : p.kind = 2
    · simp only [if_pos k2] at h ⊢
      unfold varM at h ⊢
      cases hl : lookV p.text env with
      | some u =>
        rw [hl] at h
        simp only at h
        split at h
        · rename_i c
          have := Option.some.inj h
          subst this
          refine ⟨[], by simp, fun m => ?_⟩
          rw [lookV_more hl]
          simp only [if_pos c]
        · cases h
      | none =>
        rw [hl] at h
        have := Option.some.inj h
        subst this
        refine ⟨_, rfl, fun m => ?_⟩
        rw [lookV_new hl]
        simp only [if_pos (cmpVa_self D v)]
    simp only [if_neg k2] at h ⊢
    by_cases k3 : p.kind = 3
    · simp only [if_pos k3] at h ⊢
      obtain ⟨m, hm⟩ := same h; exact ⟨m, hm, fun m => by first | rfl | trivial⟩
    simp only [if_neg k3] at h ⊢
    by_cases k4 : p.kind = 4
    · simp only [if_pos k4] at h ⊢
      split at h
      · rename_i c
        obtain ⟨m, hm, g⟩ := kidsM_again ih _ _ _ _ h
        exact ⟨m, hm, fun m => by rw [if_pos c]; exact g m⟩
      · cases h
    simp only [if_neg k4] at h ⊢
    by_cases k5 : p.kind = 5
    · simp only [if_pos k5] at h ⊢
      split at h
      · rename_i c; obtain ⟨m, hm⟩ := same h; exact ⟨m, hm, fun m => if_pos c⟩
      · cases h
    simp only [if_neg k5] at h ⊢
    by_cases k6 : p.kind = 6
    · simp only [if_pos k6] at h ⊢
      split at h
      · rename_i c
        obtain ⟨m, hm, g⟩ := kidsM_again ih _ _ _ _ h
        exact ⟨m, hm, fun m => by rw [if_pos c]; exact g m⟩
      · cases h
    simp only [if_neg k6] at h
    cases h
theorem matchM_idem {D k : Nat} {p : Ex} {v : Va} {env out : List Bd} (h : matchM D k p v env = some out) : matchM D k p v out = some out ∧ env.length ≤ out.length := by
  obtain ⟨m, hm, g⟩ := matchM_again D k p v env out h
  refine ⟨by simpa using g [], ?_⟩
  rw [hm, List.length_append]; omega
/-- How many nodes a pattern has: no more names are bound. -/
def ndE : Nat → Ex → Nat
  | 0, _ => 0
  | k + 1, p => 1 + (p.kids.map (ndE k)).sum
theorem kidsM_len {f : Ex → Va → List Bd → Option (List Bd)} {c : Ex → Nat} (hf : ∀ p v env out, f p v env = some out → out.length ≤ env.length + c p) : ∀ (ps : List Ex) (vs : List Va) (env out : List Bd), kidsM f ps vs env = some out → out.length ≤ env.length + (ps.map c).sum
  | [], [], env, out, h => by simp only [kidsM, Option.some.injEq] at h; subst h; simp
  | [], _ :: _, _, _, h => by simp [kidsM] at h
  | _ :: _, [], _, _, h => by simp [kidsM] at h
  | p :: ps, v :: vs, env, out, h => by
    simp only [kidsM] at h
    cases h1 : f p v env with
    | none => rw [h1] at h; cases h
    | some e1 =>
      rw [h1] at h
      have g1 := hf p v env e1 h1
      have g2 := kidsM_len hf ps vs e1 out h
      simp only [List.map_cons, List.sum_cons]
      omega
theorem matchM_len (D : Nat) : ∀ k (p : Ex) (v : Va) (env out : List Bd), matchM D k p v env = some out → out.length ≤ env.length + ndE k p
  | 0, _, _, _, _, h => by simp [matchM] at h
  | k + 1, p, v, env, out, h => by
    have ih := matchM_len D k
    have same : some env = some out → out.length ≤ env.length + ndE (k + 1) p := fun e => by rw [← Option.some.inj e]; omega
    have kids : kidsM (matchM D k) p.kids v.kids env = some out → out.length ≤ env.length + ndE (k + 1) p := fun e => by
      have := kidsM_len (c := ndE k) ih _ _ _ _ e
      simp only [ndE]; omega
    simp only [matchM] at h
    split at h
    · split at h
      · exact same h
      · cases h
    split at h
    · split at h
      · exact same h
      · cases h
    split at h
    · unfold varM at h
      split at h
      · split at h
        · exact same h
        · cases h
      · rw [← Option.some.inj h]; simp [ndE]
    split at h
    · exact same h
    split at h
    · split at h
      · exact kids h
      · cases h
    split at h
    · split at h
      · exact same h
      · cases h
    split at h
    · split at h
      · exact kids h
      · cases h
    · cases h
/-- Kids, step by step. -/
theorem kidsM_step {f : Ex → Va → List Bd → Option (List Bd)} {ps : List Ex} {vs : List Va} {k : Nat} {p : Ex} {v : Va} (hp : ps[k]? = some p) (hv : vs[k]? = some v) (env : List Bd) :
    kidsM f (ps.drop k) (vs.drop k) env = match f p v env with | none => none | some e => kidsM f (ps.drop (k + 1)) (vs.drop (k + 1)) e := by
  obtain ⟨h1, rfl⟩ := List.getElem?_eq_some_iff.1 hp
  obtain ⟨h2, rfl⟩ := List.getElem?_eq_some_iff.1 hv
  rw [List.drop_eq_getElem_cons h1, List.drop_eq_getElem_cons h2]
  rfl
theorem kidsM_end {f : Ex → Va → List Bd → Option (List Bd)} {ps : List Ex} {vs : List Va} {k : Nat} (h1 : ps.length ≤ k) (h2 : vs.length ≤ k) (env : List Bd) : kidsM f (ps.drop k) (vs.drop k) env = some env := by
  rw [List.drop_of_length_le h1, List.drop_of_length_le h2]; rfl
def kidsL (f : Ex → Va → List Bd → Option (List Bd)) (ps : List Ex) (vs : List Va) (env : List Bd) : Option (List Bd) := if ps.length = vs.length then kidsM f ps vs env else none
end Go.Proofs.YtmnghlkkfkpjhaaGreatDoor
/-
  What the small tests of bytes answer: those of the program (isSmall, isGreat, isDigit, isNamePart) and those of the specification (l01In, l01Small, l01Great, l01Digit, l01Sign). No conditions but that a byte is one.
-/
namespace Go.Proofs.YtmnghlkkfkpjhaaGreatDoor
open Go.ChangeShapes Go.WideShapes Go.ChangeAt Go.RowKit
set_option linter.unusedVariables false

def inB (x a b : Int) : Bool := decide (a ≤ x ∧ x ≤ b)
def signB (n : Int) : Bool := inB n 97 122 || inB n 65 90 || inB n 48 57 || n == 95

theorem ret_bool {a b : Bool} (h : a = b) : Ending.returned (.bool a) = .returned (.bool b) := by rw [h]

theorem l01In_any (x a b : Int) (w : World) :
    Calls Tryz.prog 69 #[.int .i64 x, .int .i64 a, .int .i64 b] w fun e w' => e = .returned (.bool (inB x a b)) ∧ w' = w := by
  by_cases h1 : a ≤ x <;> by_cases h2 : x ≤ b
  all_goals
    go_enter Tryz.func69, Tryz.ntmps69
    go_wp2
    go_ret
    exact ⟨ret_bool (by simp [inB, h1, h2]), rfl⟩

theorem l01Small_any (n : Int) (w : World) (h0 : 0 ≤ n) (h1 : n < 256) :
    Calls Tryz.prog 76 #[.int .u8 n] w fun e w' => e = .returned (.bool (inB n 97 122)) ∧ w' = w := by
  go_enter Tryz.func76, Tryz.ntmps76
  go_wp2_with (go_at_call 69; go_must (refine (l01In_any _ _ _ _).mono ?_; rintro e w' ⟨rfl, rfl⟩))
  go_ret
  exact ⟨rfl, rfl⟩

theorem l01Great_any (n : Int) (w : World) (h0 : 0 ≤ n) (h1 : n < 256) :
    Calls Tryz.prog 86 #[.int .u8 n] w fun e w' => e = .returned (.bool (inB n 65 90)) ∧ w' = w := by
  go_enter Tryz.func86, Tryz.ntmps86
  go_wp2_with (go_at_call 69; go_must (refine (l01In_any _ _ _ _).mono ?_; rintro e w' ⟨rfl, rfl⟩))
  go_ret
  exact ⟨rfl, rfl⟩

theorem l01Digit_any (n : Int) (w : World) (h0 : 0 ≤ n) (h1 : n < 256) :
    Calls Tryz.prog 87 #[.int .u8 n] w fun e w' => e = .returned (.bool (inB n 48 57)) ∧ w' = w := by
  go_enter Tryz.func87, Tryz.ntmps87
  go_wp2_with (go_at_call 69; go_must (refine (l01In_any _ _ _ _).mono ?_; rintro e w' ⟨rfl, rfl⟩))
  go_ret
  exact ⟨rfl, rfl⟩

theorem isSmall_any (n : Int) (w : World) (h0 : 0 ≤ n) (h1 : n < 256) :
    Calls Tryz.prog 80 #[.int .u8 n] w fun e w' => e = .returned (.bool (inB n 97 122)) ∧ w' = w := by
  by_cases h1 : 97 ≤ n <;> by_cases h2 : n ≤ 122
  all_goals
    go_enter Tryz.func80, Tryz.ntmps80
    go_wp2
    go_ret
    exact ⟨ret_bool (by simp [inB, h1, h2]), rfl⟩

theorem isGreat_any (n : Int) (w : World) (h0 : 0 ≤ n) (h1 : n < 256) :
    Calls Tryz.prog 89 #[.int .u8 n] w fun e w' => e = .returned (.bool (inB n 65 90)) ∧ w' = w := by
  by_cases h1 : 65 ≤ n <;> by_cases h2 : n ≤ 90
  all_goals
    go_enter Tryz.func89, Tryz.ntmps89
    go_wp2
    go_ret
    exact ⟨ret_bool (by simp [inB, h1, h2]), rfl⟩

theorem isDigit_any (n : Int) (w : World) (h0 : 0 ≤ n) (h1 : n < 256) :
    Calls Tryz.prog 90 #[.int .u8 n] w fun e w' => e = .returned (.bool (inB n 48 57)) ∧ w' = w := by
  by_cases h1 : 48 ≤ n <;> by_cases h2 : n ≤ 57
  all_goals
    go_enter Tryz.func90, Tryz.ntmps90
    go_wp2
    go_ret
    exact ⟨ret_bool (by simp [inB, h1, h2]), rfl⟩

theorem l01Sign_any (n : Int) (w : World) (h0 : 0 ≤ n) (h1 : n < 256) :
    Calls Tryz.prog 82 #[.int .u8 n] w fun e w' => e = .returned (.bool (signB n)) ∧ w' = w := by
  have hb1 : inB n 97 122 = true ∨ inB n 97 122 = false := by cases inB n 97 122 <;> simp
  have hb2 : inB n 65 90 = true ∨ inB n 65 90 = false := by cases inB n 65 90 <;> simp
  have hb3 : inB n 48 57 = true ∨ inB n 48 57 = false := by cases inB n 48 57 <;> simp
  rcases hb1 with hb1 | hb1 <;> rcases hb2 with hb2 | hb2 <;> rcases hb3 with hb3 | hb3
  all_goals
    go_enter Tryz.func82, Tryz.ntmps82
    go_wp2_with (first
      | (go_at_call 76; go_must (refine (l01Small_any _ _ h0 h1).mono ?_; rintro e w' ⟨rfl, rfl⟩))
      | (go_at_call 86; go_must (refine (l01Great_any _ _ h0 h1).mono ?_; rintro e w' ⟨rfl, rfl⟩))
      | (go_at_call 87; go_must (refine (l01Digit_any _ _ h0 h1).mono ?_; rintro e w' ⟨rfl, rfl⟩)))
    go_ret
    exact ⟨ret_bool (by simp [signB, hb1, hb2, hb3]), rfl⟩

theorem isNamePart_any (n : Int) (w : World) (h0 : 0 ≤ n) (h1 : n < 256) :
    Calls Tryz.prog 85 #[.int .u8 n] w fun e w' => e = .returned (.bool (signB n)) ∧ w' = w := by
  have hb1 : inB n 97 122 = true ∨ inB n 97 122 = false := by cases inB n 97 122 <;> simp
  have hb2 : inB n 65 90 = true ∨ inB n 65 90 = false := by cases inB n 65 90 <;> simp
  have hb3 : inB n 48 57 = true ∨ inB n 48 57 = false := by cases inB n 48 57 <;> simp
  rcases hb1 with hb1 | hb1 <;> rcases hb2 with hb2 | hb2 <;> rcases hb3 with hb3 | hb3
  all_goals
    go_enter Tryz.func85, Tryz.ntmps85
    go_wp2_with (first
      | (go_at_call 80; go_must (refine (isSmall_any _ _ h0 h1).mono ?_; rintro e w' ⟨rfl, rfl⟩))
      | (go_at_call 89; go_must (refine (isGreat_any _ _ h0 h1).mono ?_; rintro e w' ⟨rfl, rfl⟩))
      | (go_at_call 90; go_must (refine (isDigit_any _ _ h0 h1).mono ?_; rintro e w' ⟨rfl, rfl⟩)))
    go_ret
    exact ⟨ret_bool (by simp [signB, hb1, hb2, hb3]), rfl⟩
end Go.Proofs.YtmnghlkkfkpjhaaGreatDoor
/-
  What l01Name (specification) and nameOk, madeOf (program) answer: whether a text is 1 to 10 signs of names. Condition: the text is no longer than any text may be.
-/
namespace Go.Proofs.YtmnghlkkfkpjhaaGreatDoor
open Go.ChangeShapes Go.WideShapes Go.ChangeAt Go.RowKit
set_option linter.unusedVariables false

def allB (l : List UInt8) : Bool := l.all fun c => signB (c.toNat : Int)
def nameB (s : ByteArray) : Bool := allB s.data.toList && decide (1 ≤ s.size ∧ s.size ≤ 10)

theorem take_snoc (s : ByteArray) (k : Nat) (h : k < s.size) : s.data.toList.take (k + 1) = s.data.toList.take k ++ [s[k]] := by
  rw [List.take_succ_eq_append_getElem (by simpa using h)]; rfl
theorem allB_snoc (s : ByteArray) (k : Nat) (h : k < s.size) (ha : allB (s.data.toList.take k) = true) (hs : signB (s[k].toNat : Int) = true) :
    allB (s.data.toList.take (k + 1)) = true := by
  rw [take_snoc s k h]; unfold allB at *; rw [List.all_append, ha]; simp [hs]
theorem allB_no (s : ByteArray) (k : Nat) (h : k < s.size) (hs : signB (s[k].toNat : Int) = false) :
    allB s.data.toList = false := by
  unfold allB
  rw [List.all_eq_false]
  refine ⟨s[k], ?_, by simp [hs]⟩
  exact List.getElem_mem (by simpa using h)
theorem allB_all (s : ByteArray) (k : Nat) (h : s.size ≤ k) (ha : allB (s.data.toList.take k) = true) : allB s.data.toList = true := by
  rwa [List.take_of_length_le (by simpa using h)] at ha

theorem byte_lt (s : ByteArray) (k : Nat) (h : k < s.size) : 0 ≤ ((s[k].toNat : Nat) : Int) ∧ ((s[k].toNat : Nat) : Int) < 256 := by
  have := s[k].toNat_lt; omega

theorem inB_size (n : Nat) : inB (n : Int) 1 10 = decide (1 ≤ n ∧ n ≤ 10) := by
  unfold inB; rw [decide_eq_decide]; omega
theorem nameB_none (s : ByteArray) (h : ¬ 1 ≤ s.size ∨ ¬ s.size ≤ 10) : nameB s = false := by
  unfold nameB; rw [decide_eq_false (by omega), Bool.and_false]
theorem nameB_some (s : ByteArray) (h1 : 1 ≤ s.size) (h2 : s.size ≤ 10) : nameB s = allB s.data.toList := by
  unfold nameB; rw [decide_eq_true ⟨h1, h2⟩, Bool.and_true]

set_option maxHeartbeats 400000 in
theorem l01Name_any (s : ByteArray) (w : World) (hs : s.size ≤ maxLen) :
    Calls Tryz.prog 75 #[.string s] w fun e w' => e = .returned (.bool (nameB s)) ∧ w' = w := by
  unfold maxLen at hs
  go_enter Tryz.func75, Tryz.ntmps75
  go_wp2
  go_loop [3] (fun i => ∃ k : Nat, k ≤ s.size ∧ i = .int .i64 k ∧ allB (s.data.toList.take k) = true) (fun i => s.size - (intOf i).toNat)
  case atStart => exact ⟨0, Nat.zero_le _, rfl, rfl⟩
  case round =>
    obtain ⟨k, hk, rfl, ha⟩ := hrel
    by_cases hlt : k < s.size
    · have hb := byte_lt s k hlt
      have HA : Hid (allB (s.data.toList.take k) = true) := ha
      clear ha
      have hc : signB (s[k].toNat : Int) = true ∨ signB (s[k].toNat : Int) = false := by cases signB (s[k].toNat : Int) <;> simp
      rcases hc with hc | hc
      · go_wp2_with (go_at_call 82; go_must (refine (l01Sign_any _ _ hb.1 hb.2).mono ?_; rintro e w' ⟨rfl, rfl⟩))
        go_round
        case rel => exact ⟨k + 1, by omega, by go_num, allB_snoc s k hlt HA.out hc⟩
        case measure => simp [intOf]; omega
      · go_wp2_with (go_at_call 82; go_must (refine (l01Sign_any _ _ hb.1 hb.2).mono ?_; rintro e w' ⟨rfl, rfl⟩))
        go_ret
        exact ⟨ret_bool (by simp [nameB, allB_no s k hlt hc]), rfl⟩
    · have hall := allB_all s k (by omega) ha
      have HA : Hid (allB s.data.toList = true) := hall
      clear ha hall
      go_wp2_with (go_at_call 69; go_must (refine (l01In_any _ _ _ _).mono ?_; rintro e w' ⟨rfl, rfl⟩))
      go_ret
      exact ⟨ret_bool (by rw [nameB, HA.out, Bool.true_and, inB_size]), rfl⟩

/-- 'madeOf' of isNamePart. -/
theorem madeOf_name (s : ByteArray) (w : World) (hs : s.size ≤ maxLen) :
    Calls Tryz.prog 84 #[.string s, .func (.func 85) #[] #[]] w fun e w' => e = .returned (.bool (allB s.data.toList)) ∧ w' = w := by
  unfold maxLen at hs
  go_enter Tryz.func84, Tryz.ntmps84
  go_wp2
  go_loop [8] (fun i => ∃ k : Nat, k ≤ s.size ∧ i = .int .i64 k ∧ allB (s.data.toList.take k) = true) (fun i => s.size - (intOf i).toNat)
  case atStart => exact ⟨0, Nat.zero_le _, rfl, rfl⟩
  case round =>
    obtain ⟨k, hk, rfl, ha⟩ := hrel
    by_cases hlt : k < s.size
    · have hb := byte_lt s k hlt
      have HA : Hid (allB (s.data.toList.take k) = true) := ha
      clear ha
      have hc : signB (s[k].toNat : Int) = true ∨ signB (s[k].toNat : Int) = false := by cases signB (s[k].toNat : Int) <;> simp
      rcases hc with hc | hc
      · go_wp2_with (go_at_call 85; go_must (refine (isNamePart_any _ _ hb.1 hb.2).mono ?_; rintro e w' ⟨rfl, rfl⟩))
        go_round
        case rel => exact ⟨k + 1, by omega, by go_num, allB_snoc s k hlt HA.out hc⟩
        case measure => simp [intOf]; omega
      · go_wp2_with (go_at_call 85; go_must (refine (isNamePart_any _ _ hb.1 hb.2).mono ?_; rintro e w' ⟨rfl, rfl⟩))
        go_ret
        exact ⟨ret_bool (by rw [allB_no s k hlt hc]), rfl⟩
    · have hall := allB_all s k (by omega) ha
      have HA : Hid (allB s.data.toList = true) := hall
      clear ha hall
      go_wp2
      go_ret
      exact ⟨ret_bool (by rw [HA.out]), rfl⟩

theorem nameOk_any (s : ByteArray) (w : World) (hs : s.size ≤ maxLen) :
    Calls Tryz.prog 79 #[.string s] w fun e w' => e = .returned (.bool (nameB s)) ∧ w' = w := by
  have hs' := hs
  unfold maxLen at hs
  by_cases h1 : 1 ≤ s.size
  · by_cases h2 : s.size ≤ 10
    · go_enter Tryz.func79, Tryz.ntmps79
      go_wp2_with (go_at_call 84; go_must (refine (madeOf_name _ _ hs').mono ?_; rintro e w' ⟨rfl, rfl⟩))
      go_ret
      exact ⟨ret_bool (nameB_some s h1 h2).symm, rfl⟩
    · go_enter Tryz.func79, Tryz.ntmps79
      go_wp2
      go_ret
      exact ⟨ret_bool (nameB_none s (.inr h2)).symm, rfl⟩
  · go_enter Tryz.func79, Tryz.ntmps79
    go_wp2
    go_ret
    exact ⟨ret_bool (nameB_none s (.inl h1)).symm, rfl⟩
end Go.Proofs.YtmnghlkkfkpjhaaGreatDoor
/-
  What the specification's DecText answers: the decimal text of a number. Condition: the number is one of 64 bits.
-/
namespace Go.Proofs.YtmnghlkkfkpjhaaGreatDoor
open Go.ChangeShapes Go.WideShapes Go.ChangeAt Go.RowKit
set_option linter.unusedVariables false

theorem ret_str {a b : List UInt8} (h : a = b) : Ending.returned (.string ⟨a.toArray⟩) = .returned (.string ⟨b.toArray⟩) := by rw [h]

theorem decDigits_length_le : ∀ (k u : Nat), u < 10 ^ (k + 1) → (Lib.decDigits u).length ≤ k + 1
  | 0, u, h => by
    rw [Lib.decDigits, dif_pos (by simpa using h)]; simp
  | k + 1, u, h => by
    by_cases hu : u < 10
    · rw [Lib.decDigits, dif_pos hu]; simp
    · rw [Lib.decDigits, dif_neg hu, List.length_append]
      have := decDigits_length_le k (u / 10) (by rw [Nat.div_lt_iff_lt_mul (by omega)]; rw [Nat.pow_succ] at h; exact h)
      simp only [List.length_cons, List.length_nil]; omega
theorem dec_step (x : Int) (d : Nat) (l D : List UInt8) (hd : x.natAbs % 10 = d) (h : Lib.decDigits x.natAbs ++ l = D) :
    (x.tdiv 10 ≠ 0 → Lib.decDigits (x.tdiv 10).natAbs ++ (UInt8.ofNat (48 + d) :: l) = D) ∧ (x.tdiv 10 = 0 → UInt8.ofNat (48 + d) :: l = D) := by
  have e : (x.tdiv 10).natAbs = x.natAbs / 10 := by rw [Int.natAbs_tdiv]; rfl
  refine ⟨fun h0 => ?_, fun h0 => ?_⟩
  · have hq : ¬ x.natAbs < 10 := by intro hlt; exact h0 (Int.natAbs_eq_zero.1 (by rw [e]; omega))
    rw [Lib.decDigits, dif_neg hq, hd] at h
    rw [e, ← h]; simp
  · have hq : x.natAbs < 10 := by have := congrArg Int.natAbs h0; rw [e] at this; simp at this; omega
    rw [Lib.decDigits, dif_pos hq] at h
    rw [← h, ← hd, Nat.mod_eq_of_lt hq]; rfl
theorem tmod_neg_ten (x : Int) (h : x < 0) : x.tmod 10 = -((x.natAbs % 10 : Nat) : Int) := by
  obtain ⟨u, rfl⟩ : ∃ u : Nat, x = -(u : Int) := ⟨x.natAbs, by omega⟩
  rw [Int.neg_tmod, Int.natAbs_neg, Int.natAbs_natCast]; rfl
theorem tmod_pos_ten (x : Int) (h : ¬ x < 0) : x.tmod 10 = ((x.natAbs % 10 : Nat) : Int) := by
  obtain ⟨u, rfl⟩ : ∃ u : Nat, x = (u : Int) := ⟨x.natAbs, by omega⟩
  rw [Int.natAbs_natCast]; rfl
theorem tdiv_ten_bounds (x : Int) (h0 : -9223372036854775808 ≤ x) (h1 : x ≤ 9223372036854775807) : -9223372036854775808 ≤ x.tdiv 10 ∧ x.tdiv 10 ≤ 9223372036854775807 := by
  have e : (x.tdiv 10).natAbs = x.natAbs / 10 := by rw [Int.natAbs_tdiv]; rfl
  omega
theorem tdiv_ten_less (x : Int) (h : x ≠ 0) : (x.tdiv 10).natAbs < x.natAbs := by
  have e : (x.tdiv 10).natAbs = x.natAbs / 10 := by rw [Int.natAbs_tdiv]; rfl
  omega
theorem str_cons (c : UInt8) (l : List UInt8) : ((⟨#[c]⟩ : ByteArray) ++ ⟨l.toArray⟩) = ⟨(c :: l).toArray⟩ := by
  apply ByteArray.ext; simp
theorem str_digit (d : Nat) (hd : d < 10) (l : List UInt8) : Value.string ((⟨#[48, 49, 50, 51, 52, 53, 54, 55, 56, 57]⟩ : ByteArray).extract d (d + 1) ++ ⟨l.toArray⟩) = Value.string ⟨(UInt8.ofNat (48 + d) :: l).toArray⟩ := by
  have e : (⟨#[48, 49, 50, 51, 52, 53, 54, 55, 56, 57]⟩ : ByteArray).extract d (d + 1) = ⟨#[UInt8.ofNat (48 + d)]⟩ := by
    rcases (by omega : d = 0 ∨ d = 1 ∨ d = 2 ∨ d = 3 ∨ d = 4 ∨ d = 5 ∨ d = 6 ∨ d = 7 ∨ d = 8 ∨ d = 9) with rfl | rfl | rfl | rfl | rfl | rfl | rfl | rfl | rfl | rfl <;> rfl
  rw [e, str_cons]
theorem digits_le (n : Int) (h0 : -9223372036854775808 ≤ n) (h1 : n ≤ 9223372036854775807) : (Lib.decDigits n.natAbs).length ≤ 20 :=
  decDigits_length_le 19 _ (by omega)
theorem itoa_neg (n : Int) (h : n < 0) : Lib.itoa n = 45 :: Lib.decDigits n.natAbs := by rw [Lib.itoa, if_pos h]
theorem itoa_pos (n : Int) (h : 0 ≤ n) : Lib.itoa n = Lib.decDigits n.natAbs := by rw [Lib.itoa, if_neg (by omega)]; congr 1; omega

set_option maxHeartbeats 4000000 in
theorem specDecText_any (n : Int) (w : World) (h0 : -9223372036854775808 ≤ n) (h1 : n ≤ 9223372036854775807) :
    Calls Tryz.prog 53 #[.int .i64 n] w fun e w' => e = .returned (.string ⟨(Lib.itoa n).toArray⟩) ∧ w' = w := by
  by_cases hz : n = 0
  · subst hz
    go_enter Tryz.func53, Tryz.ntmps53
    go_wp2
    go_ret
    exact ⟨ret_str (by simp [Lib.itoa, Lib.decDigits]), rfl⟩
  · have hz' : (n == 0) = false := by simpa using hz
    go_enter Tryz.func53, Tryz.ntmps53
    go_wp2
    go_loop [3, 4] (fun o m => ∃ (x : Int) (l : List UInt8), m = .int .i64 x ∧ o = .string ⟨l.toArray⟩ ∧ -9223372036854775808 ≤ x ∧ x ≤ 9223372036854775807 ∧ (x ≠ 0 → Lib.decDigits x.natAbs ++ l = Lib.decDigits n.natAbs) ∧ (x = 0 → l = Lib.decDigits n.natAbs)) (fun _ m => (intOf m).natAbs)
    case atStart => exact ⟨n, [], rfl, rfl, h0, h1, fun _ => by simp, fun h => absurd h hz⟩
    case round =>
      obtain ⟨x, l, rfl, rfl, hx0, hx1, hr1, hr2⟩ := hrel
      have H1 : Hid (x ≠ 0 → Lib.decDigits x.natAbs ++ l = Lib.decDigits n.natAbs) := hr1
      have H2 : Hid (x = 0 → l = Lib.decDigits n.natAbs) := hr2
      clear hr1 hr2
      have hD := digits_le n h0 h1
      by_cases hxz : x = 0
      · have hl : l = Lib.decDigits n.natAbs := H2.out hxz
        have hxb : (x != 0) = false := by simpa using hxz
        have hll : l.length ≤ 20 := by rw [hl]; exact hD
        have HL : Hid (l = Lib.decDigits n.natAbs) := hl
        have HX : Hid (x = 0) := hxz
        clear hl hD hxz
        by_cases hneg : n < 0
        · go_wp2
          go_ret
          exact ⟨by rw [str_cons]; exact ret_str (by rw [itoa_neg n hneg, HL.out]), rfl⟩
        · go_wp2
          go_ret
          exact ⟨ret_str (by rw [itoa_pos n hneg, HL.out]), rfl⟩
      · have hxb : (x != 0) = true := by simpa using hxz
        have hcat := H1.out hxz
        have hll : l.length ≤ 20 := by have := congrArg List.length hcat; rw [List.length_append] at this; omega
        have hst : ∀ d, x.natAbs % 10 = d → _ := fun d hd => dec_step x d l _ hd hcat
        have HS : Hid (∀ d, x.natAbs % 10 = d → (x.tdiv 10 ≠ 0 → Lib.decDigits (x.tdiv 10).natAbs ++ (UInt8.ofNat (48 + d) :: l) = Lib.decDigits n.natAbs) ∧ (x.tdiv 10 = 0 → UInt8.ofNat (48 + d) :: l = Lib.decDigits n.natAbs)) := hst
        have hb := tdiv_ten_bounds x hx0 hx1
        have HB : Hid (-9223372036854775808 ≤ x.tdiv 10 ∧ x.tdiv 10 ≤ 9223372036854775807) := hb
        have HM : Hid ((x.tdiv 10).natAbs < x.natAbs) := tdiv_ten_less x hxz
        have htn := tmod_neg_ten x
        have htp := tmod_pos_ten x
        have hm9 : x.natAbs % 10 < 10 := Nat.mod_lt _ (by omega)
        clear hcat hst hb hD H1 H2
        by_cases hneg : x < 0
        · have ht0 := htn hneg
          clear htn htp
          rcases (by omega : (x.tmod 10 = 0 ∧ x.natAbs % 10 = 0) ∨ (x.tmod 10 = -1 ∧ x.natAbs % 10 = 1) ∨ (x.tmod 10 = -2 ∧ x.natAbs % 10 = 2) ∨ (x.tmod 10 = -3 ∧ x.natAbs % 10 = 3) ∨ (x.tmod 10 = -4 ∧ x.natAbs % 10 = 4) ∨ (x.tmod 10 = -5 ∧ x.natAbs % 10 = 5) ∨ (x.tmod 10 = -6 ∧ x.natAbs % 10 = 6) ∨ (x.tmod 10 = -7 ∧ x.natAbs % 10 = 7) ∨ (x.tmod 10 = -8 ∧ x.natAbs % 10 = 8) ∨ (x.tmod 10 = -9 ∧ x.natAbs % 10 = 9)) with ⟨ht, hd⟩ | ⟨ht, hd⟩ | ⟨ht, hd⟩ | ⟨ht, hd⟩ | ⟨ht, hd⟩ | ⟨ht, hd⟩ | ⟨ht, hd⟩ | ⟨ht, hd⟩ | ⟨ht, hd⟩ | ⟨ht, hd⟩
          all_goals
            have hs := HS.out _ hd
            have HS' : Hid ((x.tdiv 10 ≠ 0 → Lib.decDigits (x.tdiv 10).natAbs ++ (UInt8.ofNat _ :: l) = Lib.decDigits n.natAbs) ∧ (x.tdiv 10 = 0 → UInt8.ofNat _ :: l = Lib.decDigits n.natAbs)) := hs
            clear hs HS hd hm9 ht0
            go_wp2
            refine ⟨⟨_, _, rfl, str_digit _ (by omega) l, HB.out.1, HB.out.2, HS'.out.1, HS'.out.2⟩, HM.out⟩
        · have ht0 := htp hneg
          clear htn htp
          have et : x.tdiv 10 = x / 10 := Int.tdiv_eq_ediv_of_nonneg (by omega)
          rw [et] at HB HM HS
          clear et
          rcases (by omega : (x.tmod 10 = 0 ∧ x.natAbs % 10 = 0) ∨ (x.tmod 10 = 1 ∧ x.natAbs % 10 = 1) ∨ (x.tmod 10 = 2 ∧ x.natAbs % 10 = 2) ∨ (x.tmod 10 = 3 ∧ x.natAbs % 10 = 3) ∨ (x.tmod 10 = 4 ∧ x.natAbs % 10 = 4) ∨ (x.tmod 10 = 5 ∧ x.natAbs % 10 = 5) ∨ (x.tmod 10 = 6 ∧ x.natAbs % 10 = 6) ∨ (x.tmod 10 = 7 ∧ x.natAbs % 10 = 7) ∨ (x.tmod 10 = 8 ∧ x.natAbs % 10 = 8) ∨ (x.tmod 10 = 9 ∧ x.natAbs % 10 = 9)) with ⟨ht, hd⟩ | ⟨ht, hd⟩ | ⟨ht, hd⟩ | ⟨ht, hd⟩ | ⟨ht, hd⟩ | ⟨ht, hd⟩ | ⟨ht, hd⟩ | ⟨ht, hd⟩ | ⟨ht, hd⟩ | ⟨ht, hd⟩
          all_goals
            have hs := HS.out _ hd
            have HS' : Hid ((x / 10 ≠ 0 → Lib.decDigits (x / 10).natAbs ++ (UInt8.ofNat _ :: l) = Lib.decDigits n.natAbs) ∧ (x / 10 = 0 → UInt8.ofNat _ :: l = Lib.decDigits n.natAbs)) := hs
            clear hs HS hd hm9 ht0
            go_wp2
            refine ⟨⟨_, _, rfl, str_digit _ (by omega) l, HB.out.1, HB.out.2, HS'.out.1, HS'.out.2⟩, HM.out⟩
end Go.Proofs.YtmnghlkkfkpjhaaGreatDoor
