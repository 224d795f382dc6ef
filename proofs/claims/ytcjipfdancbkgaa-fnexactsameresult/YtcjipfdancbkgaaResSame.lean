/-
  SameResult of the specification and of the program: whether code, reason, value and what was put out are alike.
-/
import Derived.Test.YtcjipfdancbkgaaCmpImpl
import Derived.Test.YtcjipfdancbkgaaResTree
namespace Go.Proofs.Ytcjipfdancbkgaa
open Go.ChangeShapes Go.WideShapes Go.ChangeAt Go.RowKit
set_option linter.unusedVariables false

def sameL (f : Va → Va → Int) : List Va → List Va → Bool
  | [], [] => true
  | x :: xs, y :: ys => if f x y = 0 then sameL f xs ys else false
  | _, _ => false
def sameRe (d : Nat) (a b : Re) : Bool :=
  if a.code = b.code then (if a.why = b.why then (if cmpVa d a.val b.val = 0 then sameL (cmpVa d) a.out b.out else false) else false) else false

theorem sameL_step {f : Va → Va → Int} : ∀ {es fs : List Va} {k : Nat} {x y : Va}, es[k]? = some x → fs[k]? = some y → sameL f (es.drop k) (fs.drop k) = if f x y = 0 then sameL f (es.drop (k + 1)) (fs.drop (k + 1)) else false := by
  intro es fs k x y hx hy
  obtain ⟨h1, rfl⟩ := List.getElem?_eq_some_iff.1 hx
  obtain ⟨h2, rfl⟩ := List.getElem?_eq_some_iff.1 hy
  rw [List.drop_eq_getElem_cons h1, List.drop_eq_getElem_cons h2]
  rfl
theorem sameL_end {f : Va → Va → Int} {es fs : List Va} {k : Nat} (h : es.length ≤ k) (h' : fs.length ≤ k) : sameL f (es.drop k) (fs.drop k) = true := by
  rw [List.drop_of_length_le h, List.drop_of_length_le h']; rfl
theorem sameL_len {f : Va → Va → Int} : ∀ {es fs : List Va}, ¬ es.length = fs.length → sameL f es fs = false
  | [], [], h => absurd rfl h
  | [], _ :: _, _ => rfl
  | _ :: _, [], _ => rfl
  | x :: xs, y :: ys, h => by
    show (if f x y = 0 then sameL f xs ys else false) = false
    rw [sameL_len (by simpa using h)]; simp

set_option maxHeartbeats 8000000 in
/-- THE SPECIFICATION's SameResult. -/
theorem specSame_any (d : Nat) (w : World) (cs1 cs2 : List Value) (x y : Re) (h1 : HRe w All d cs1 x) (h2 : HRe w All d cs2 y) :
    Calls Try.prog 5 #[.agg cs1.toArray, .agg cs2.toArray] w fun e w' => e = .returned (.bool (sameRe d x y)) ∧ Below w.heap.size w w' := by
  obtain ⟨sk, sn, st, p1, n1, q1, ov, rfl, a1, a2, f0, f1⟩ := h1
  obtain ⟨sk', sn', st', p1', n1', q1', ov', rfl, b1, b2, f0', f1'⟩ := h2
  obtain ⟨cx, yx, vx, es⟩ := x
  obtain ⟨cy, yy, vy, fs⟩ := y
  simp only at *
  have g0 : ∀ w', SameOn All w w' → HVa w' All d [.int .i64 sk, .int .i64 sn, .string st, .slice p1 n1 q1] vx := fun w' hw => f0.mono hw (fun _ h => h)
  have g0' : ∀ w', SameOn All w w' → HVa w' All d [.int .i64 sk', .int .i64 sn', .string st', .slice p1' n1' q1'] vy := fun w' hw => f0'.mono hw (fun _ h => h)
  obtain ⟨po, ca, rfl, hcl, hcm, hx⟩ := f1
  obtain ⟨po', ca', rfl, hcl', hcm', hy⟩ := f1'
  generalize hm : fs.length = m at *
  have HM : Hid (fs.length = m) := hm
  generalize hn : es.length = n at *
  have HN : Hid (es.length = n) := hn
  have HB0 : n ≤ 9223372036854775807 := by unfold maxLen at hcm; omega
  have HB1 : m ≤ 9223372036854775807 := by unfold maxLen at hcm'; omega
  have HX : Hid (es ≠ [] → ∃ g off, po = some ⟨g, off, none⟩ ∧ All g ∧ g < w.heap.size ∧ ∀ i x, es[i]? = some x → ∃ cs, cs.length = 4 ∧ (∀ j, j < 4 → w.cell? ⟨g, off + i * 4 + j, none⟩ = cs[j]?) ∧ HVa w All d cs x) := hx
  have HY : Hid (fs ≠ [] → ∃ g off, po' = some ⟨g, off, none⟩ ∧ All g ∧ g < w.heap.size ∧ ∀ i x, fs[i]? = some x → ∃ cs, cs.length = 4 ∧ (∀ j, j < 4 → w.cell? ⟨g, off + i * 4 + j, none⟩ = cs[j]?) ∧ HVa w All d cs x) := hy
  clear hm hn hx hy f0 f0' a1 a2 b1 b2
  by_cases kc : cx = cy
  case neg =>
    have HS : Hid (sameRe d ⟨cx, yx, vx, es⟩ ⟨cy, yy, vy, fs⟩ = false) := if_neg kc
    go_enter Try.func5, Try.ntmps5
    go_wp2
    go_ret
    exact ⟨by rw [HS.out]; rfl, ((Below.refl _ _).alloc (Nat.le_refl _) _).alloc (by simp) _⟩
  subst kc
  by_cases ky : yx = yy
  case neg =>
    have HS : Hid (sameRe d ⟨cx, yx, vx, es⟩ ⟨cx, yy, vy, fs⟩ = false) := by show _ = _; simp only [sameRe, if_true, if_neg ky]
    have hq1 := str_ne ky
    have hq2 := str_neB ky
    go_enter Try.func5, Try.ntmps5
    go_wp2
    go_ret
    exact ⟨by rw [HS.out]; rfl, ((Below.refl _ _).alloc (Nat.le_refl _) _).alloc (by simp) _⟩
  subst ky
  have hal : Below w.heap.size w ((w.alloc (.cells #[.int .i64 cx, .string yx, .int .i64 sk, .int .i64 sn, .string st, .slice p1 n1 q1, .slice po n ca] 33)).alloc (.cells #[.int .i64 cx, .string yx, .int .i64 sk', .int .i64 sn', .string st', .slice p1' n1' q1', .slice po' m ca'] 33)) := ((Below.refl _ _).alloc (Nat.le_refl _) _).alloc (by simp) _
  have HA : Hid (Below w.heap.size w ((w.alloc (.cells #[.int .i64 cx, .string yx, .int .i64 sk, .int .i64 sn, .string st, .slice p1 n1 q1, .slice po n ca] 33)).alloc (.cells #[.int .i64 cx, .string yx, .int .i64 sk', .int .i64 sn', .string st', .slice p1' n1' q1', .slice po' m ca'] 33))) := hal
  clear hal
  have HL : Hid (sameRe d ⟨cx, yx, vx, es⟩ ⟨cx, yx, vy, fs⟩ = if cmpVa d vx vy = 0 then sameL (cmpVa d) es fs else false) := by show _ = _; simp only [sameRe, if_true]
  generalize hcv : cmpVa d vx vy = cv at *
  have HCV : Hid (cmpVa d vx vy = cv) := hcv
  clear hcv
  have KEEP : ∀ w1, Below ((w.alloc (.cells #[.int .i64 cx, .string yx, .int .i64 sk, .int .i64 sn, .string st, .slice p1 n1 q1, .slice po n ca] 33)).alloc (.cells #[.int .i64 cx, .string yx, .int .i64 sk', .int .i64 sn', .string st', .slice p1' n1' q1', .slice po' m ca'] 33)).heap.size ((w.alloc (.cells #[.int .i64 cx, .string yx, .int .i64 sk, .int .i64 sn, .string st, .slice p1 n1 q1, .slice po n ca] 33)).alloc (.cells #[.int .i64 cx, .string yx, .int .i64 sk', .int .i64 sn', .string st', .slice p1' n1' q1', .slice po' m ca'] 33)) w1 → Blk w1 w.heap.size #[.int .i64 cx, .string yx, .int .i64 sk, .int .i64 sn, .string st, .slice p1 n1 q1, .slice po n ca] 33 ∧ Blk w1 (w.heap.size + 1) #[.int .i64 cx, .string yx, .int .i64 sk', .int .i64 sn', .string st', .slice p1' n1' q1', .slice po' m ca'] 33 := by
    intro w1 hb
    have k0 := (Blk.new (w := w) (cs := #[.int .i64 cx, .string yx, .int .i64 sk, .int .i64 sn, .string st, .slice p1 n1 q1, .slice po n ca]) (t := 33)).alloc (o := .cells #[.int .i64 cx, .string yx, .int .i64 sk', .int .i64 sn', .string st', .slice p1' n1' q1', .slice po' m ca'] 33)
    have k1 := (Blk.new (w := w.alloc (.cells #[.int .i64 cx, .string yx, .int .i64 sk, .int .i64 sn, .string st, .slice p1 n1 q1, .slice po n ca] 33)) (cs := #[.int .i64 cx, .string yx, .int .i64 sk', .int .i64 sn', .string st', .slice p1' n1' q1', .slice po' m ca']) (t := 33))
    simp only [alloc_hs] at k1
    exact ⟨k0.next hb, k1.next hb⟩
  by_cases hz : cv = 0
  case neg =>
    have HS : Hid (sameRe d ⟨cx, yx, vx, es⟩ ⟨cx, yx, vy, fs⟩ = false) := by show _ = _; rw [HL.out, if_neg hz]
    go_enter Try.func5, Try.ntmps5
    go_wp2_with (first | (go_at_call 11; refine (specCmp_all d _ _ _ vx vy ⟨_, rfl, g0 _ (SameOn.of_below HA.out)⟩ ⟨_, rfl, g0' _ (SameOn.of_below HA.out)⟩).mono ?_; rintro e w1 ⟨rfl, hb1⟩; rw [HCV.out]; have HB1 : Hid _ := hb1; clear hb1))
    go_ret
    exact ⟨by rw [HS.out]; rfl, HA.out.trans (HB1.out.mono HA.out.size)⟩
  have HL2 : Hid (sameRe d ⟨cx, yx, vx, es⟩ ⟨cx, yx, vy, fs⟩ = sameL (cmpVa d) es fs) := by show _ = _; rw [HL.out, if_pos hz]
  clear HL
  by_cases hnm : n = m
  case neg =>
    have HS : Hid (sameRe d ⟨cx, yx, vx, es⟩ ⟨cx, yx, vy, fs⟩ = false) := by show _ = _; rw [HL2.out]; exact sameL_len (by rw [HN.out, HM.out]; exact hnm)
    go_enter Try.func5, Try.ntmps5
    go_wp2_with (first | (go_at_call 11; refine (specCmp_all d _ _ _ vx vy ⟨_, rfl, g0 _ (SameOn.of_below HA.out)⟩ ⟨_, rfl, g0' _ (SameOn.of_below HA.out)⟩).mono ?_; rintro e w1 ⟨rfl, hb1⟩; rw [HCV.out]; have KA := (KEEP _ hb1).1.cell 6 _ rfl; have KB := (KEEP _ hb1).2.cell 6 _ rfl; have HB1 : Hid _ := hb1; clear hb1))
    go_ret
    exact ⟨by rw [HS.out]; rfl, HA.out.trans (HB1.out.mono HA.out.size)⟩
  subst hnm
  go_enter Try.func5, Try.ntmps5
  go_wp2_with (first | (go_at_call 11; refine (specCmp_all d _ _ _ vx vy ⟨_, rfl, g0 _ (SameOn.of_below HA.out)⟩ ⟨_, rfl, g0' _ (SameOn.of_below HA.out)⟩).mono ?_; rintro e w1 ⟨rfl, hb1⟩; rw [HCV.out]; have KA := (KEEP _ hb1).1.cell 6 _ rfl; have KB := (KEEP _ hb1).2.cell 6 _ rfl; have HKA : Hid _ := (KEEP _ hb1).1; have HKB : Hid _ := (KEEP _ hb1).2; have HB1 : Hid (Below w.heap.size w w1) := HA.out.trans (hb1.mono HA.out.size); clear hb1))
  clear KA KB KEEP g0 g0' HA
  go_loopw [5] (fun iv wr => ∃ k : Nat, k ≤ n ∧ iv = .int .i64 k ∧ Hid (sameL (cmpVa d) es fs = sameL (cmpVa d) (es.drop k) (fs.drop k)) ∧ Hid (SameOn All w1 wr) ∧ Below w.heap.size w wr) (fun iv _ => n - (intOf iv).toNat)
  case atStart => exact ⟨0, Nat.zero_le _, rfl, rfl, ⟨Nat.le_refl _, fun _ _ _ => rfl⟩, HB1.out⟩
  case round =>
    obtain ⟨k, hk, rfl, hsame, hso, hb⟩ := hrel
    have HB : Hid (Below w.heap.size w wr) := hb
    have KA : Blk wr w.heap.size #[.int .i64 cx, .string yx, .int .i64 sk, .int .i64 sn, .string st, .slice p1 n1 q1, .slice po n ca] 33 := Blk.same_on HKA.out hso.out
    have KB : Blk wr (w.heap.size + 1) #[.int .i64 cx, .string yx, .int .i64 sk', .int .i64 sn', .string st', .slice p1' n1' q1', .slice po' n ca'] 33 := Blk.same_on HKB.out hso.out
    have hzA := KA.lt
    have hzB := KB.lt
    have xa := KA.cell 6 _ rfl
    have xb := KB.cell 6 _ rfl
    clear KA KB
    by_cases hlt : k < n
    · obtain ⟨x, hxk⟩ : ∃ x, es[k]? = some x := ⟨es[k]'(by rw [HN.out]; exact hlt), List.getElem?_eq_getElem _⟩
      obtain ⟨g, off, rfl, _, hgl, hat⟩ := HX.out (by intro h; rw [h] at hxk; simp at hxk)
      obtain ⟨cs, hcl6, hcs, r1⟩ := hat k x hxk
      have E1 : ∀ w', SameOn All wr w' → HVa w' All d cs x := fun w' hw => r1.mono (SameOn.trans (SameOn.of_below hb) hw) (fun _ h => h)
      obtain ⟨y, hyk⟩ : ∃ y, fs[k]? = some y := ⟨fs[k]'(by rw [HM.out]; exact hlt), List.getElem?_eq_getElem _⟩
      obtain ⟨g', off', rfl, _, hgl', hat'⟩ := HY.out (by intro h; rw [h] at hyk; simp at hyk)
      obtain ⟨cs', hcl6', hcs', r2⟩ := hat' k y hyk
      have E2 : ∀ w', SameOn All wr w' → HVa w' All d cs' y := fun w' hw => r2.mono (SameOn.trans (SameOn.of_below hb) hw) (fun _ h => h)
      obtain ⟨c0, c1, c2, c3, rfl⟩ := len4 hcl6
      obtain ⟨d0, d1, d2, d3, rfl⟩ := len4 hcl6'
      have a0 := hcs 0 (by omega)
      have a1 := hcs 1 (by omega)
      have a2 := hcs 2 (by omega)
      have a3 := hcs 3 (by omega)
      have b0 := hcs' 0 (by omega)
      have b1 := hcs' 1 (by omega)
      have b2 := hcs' 2 (by omega)
      have b3 := hcs' 3 (by omega)
      rw [← hb.cell (p := ⟨g, _, none⟩) hgl] at a0 a1 a2 a3
      rw [← hb.cell (p := ⟨g', _, none⟩) hgl'] at b0 b1 b2 b3
      simp at a0 a1 a2 a3 b0 b1 b2 b3
      have hgw : g < wr.heap.size := Nat.lt_of_lt_of_le hgl HB.out.size
      have hgw' : g' < wr.heap.size := Nat.lt_of_lt_of_le hgl' HB.out.size
      clear hb hcs hat hcl6 hcs' hat' hcl6' r1 r2
      have hki : (k : Int) < (n : Int) := by omega
      have hk0 : (0 : Int) ≤ (k : Int) := by omega
      have qxa : ∀ m' : Wd (fun w' => SameOn All wr w' ∧ Below w.heap.size w w'), m'.val.cell? ⟨w.heap.size, 6, none⟩ = some (.slice (some ⟨g, off, none⟩) n ca) := fun m' => (World.cell?_of_block (m'.ok.1.2 w.heap.size trivial hzA)).trans xa
      have qxb : ∀ m' : Wd (fun w' => SameOn All wr w' ∧ Below w.heap.size w w'), m'.val.cell? ⟨w.heap.size + 1, 6, none⟩ = some (.slice (some ⟨g', off', none⟩) n ca') := fun m' => (World.cell?_of_block (m'.ok.1.2 (w.heap.size + 1) trivial hzB)).trans xb

      have qa0 : ∀ m' : Wd (fun w' => SameOn All wr w' ∧ Below w.heap.size w w'), m'.val.cell? ⟨g, off + k * 4, none⟩ = some c0 := fun m' => (World.cell?_of_block (m'.ok.1.2 g trivial hgw)).trans a0
      have qb0 : ∀ m' : Wd (fun w' => SameOn All wr w' ∧ Below w.heap.size w w'), m'.val.cell? ⟨g', off' + k * 4, none⟩ = some d0 := fun m' => (World.cell?_of_block (m'.ok.1.2 g' trivial hgw')).trans b0
      have qa1 : ∀ m' : Wd (fun w' => SameOn All wr w' ∧ Below w.heap.size w w'), m'.val.cell? ⟨g, off + k * 4 + 1, none⟩ = some c1 := fun m' => (World.cell?_of_block (m'.ok.1.2 g trivial hgw)).trans a1
      have qb1 : ∀ m' : Wd (fun w' => SameOn All wr w' ∧ Below w.heap.size w w'), m'.val.cell? ⟨g', off' + k * 4 + 1, none⟩ = some d1 := fun m' => (World.cell?_of_block (m'.ok.1.2 g' trivial hgw')).trans b1
      have qa2 : ∀ m' : Wd (fun w' => SameOn All wr w' ∧ Below w.heap.size w w'), m'.val.cell? ⟨g, off + k * 4 + 2, none⟩ = some c2 := fun m' => (World.cell?_of_block (m'.ok.1.2 g trivial hgw)).trans a2
      have qb2 : ∀ m' : Wd (fun w' => SameOn All wr w' ∧ Below w.heap.size w w'), m'.val.cell? ⟨g', off' + k * 4 + 2, none⟩ = some d2 := fun m' => (World.cell?_of_block (m'.ok.1.2 g' trivial hgw')).trans b2
      have qa3 : ∀ m' : Wd (fun w' => SameOn All wr w' ∧ Below w.heap.size w w'), m'.val.cell? ⟨g, off + k * 4 + 3, none⟩ = some c3 := fun m' => (World.cell?_of_block (m'.ok.1.2 g trivial hgw)).trans a3
      have qb3 : ∀ m' : Wd (fun w' => SameOn All wr w' ∧ Below w.heap.size w w'), m'.val.cell? ⟨g', off' + k * 4 + 3, none⟩ = some d3 := fun m' => (World.cell?_of_block (m'.ok.1.2 g' trivial hgw')).trans b3
      have HST : Hid (sameL (cmpVa d) (es.drop k) (fs.drop k) = if cmpVa d x y = 0 then sameL (cmpVa d) (es.drop (k + 1)) (fs.drop (k + 1)) else false) := sameL_step (f := cmpVa d) hxk hyk
      generalize hcv : cmpVa d x y = ce at *
      have HCE : Hid (cmpVa d x y = ce) := hcv
      clear hcv
      by_cases hz2 : ce = 0
      · skip
        go_wp2
        have hCne : Nonempty (Wd (fun w' => SameOn All wr w' ∧ Below w.heap.size w w')) := ⟨⟨wr.drew, ⟨⟨Nat.le_refl _, fun _ _ _ => rfl⟩, HB.out.drew⟩⟩⟩
        refine wp_region_class (fun w' => SameOn All wr w' ∧ Below w.heap.size w w') (by kernel_rfl) (by kernel_rfl) ⟨⟨Nat.le_refl _, fun _ _ _ => rfl⟩, HB.out.drew⟩ ?_
        repeat (go_big_quiet_step (first | (rename_i m'; go_at_call 11; refine (specCmp_all d _ _ _ x y ⟨_, rfl, E1 _ m'.ok.1⟩ ⟨_, rfl, E2 _ m'.ok.1⟩).mono ?_; rintro e w1 ⟨rfl, hb1⟩; exact ⟨by rw [HCE.out], ⟨⟨w1, ⟨(SameOn.trans m'.ok.1 (SameOn.of_below hb1)), m'.ok.2.trans (hb1.mono m'.ok.2.size)⟩⟩, rfl⟩⟩)))
        refine wpQuiet_nil ?_
        rintro _ ⟨mq, rfl⟩
        have hbe := mq.ok.2
        have hse := mq.ok.1
        generalize mq.val = wq at hbe hse ⊢
        go_wp2
        exact ⟨⟨k + 1, by omega, by go_num, (by show _ = _; rw [hsame.out, HST.out, if_pos hz2]), hso.out.trans hse, hbe⟩, by simp [intOf]; omega⟩
      · have HS : Hid (sameRe d ⟨cx, yx, vx, es⟩ ⟨cx, yx, vy, fs⟩ = false) := by show _ = _; rw [HL2.out, hsame.out, HST.out, if_neg hz2]
        go_wp2
        have hCne : Nonempty (Wd (fun w' => SameOn All wr w' ∧ Below w.heap.size w w')) := ⟨⟨wr.drew, ⟨⟨Nat.le_refl _, fun _ _ _ => rfl⟩, HB.out.drew⟩⟩⟩
        refine wp_region_class (fun w' => SameOn All wr w' ∧ Below w.heap.size w w') (by kernel_rfl) (by kernel_rfl) ⟨⟨Nat.le_refl _, fun _ _ _ => rfl⟩, HB.out.drew⟩ ?_
        repeat (go_big_quiet_step (first | (rename_i m'; go_at_call 11; refine (specCmp_all d _ _ _ x y ⟨_, rfl, E1 _ m'.ok.1⟩ ⟨_, rfl, E2 _ m'.ok.1⟩).mono ?_; rintro e w1 ⟨rfl, hb1⟩; exact ⟨by rw [HCE.out], ⟨⟨w1, ⟨(SameOn.trans m'.ok.1 (SameOn.of_below hb1)), m'.ok.2.trans (hb1.mono m'.ok.2.size)⟩⟩, rfl⟩⟩)))
        refine wpQuiet_nil ?_
        rintro _ ⟨mq, rfl⟩
        have hbe := mq.ok.2
        have hse := mq.ok.1
        generalize mq.val = wq at hbe hse ⊢
        go_wp2
        go_ret
        exact ⟨by rw [HS.out]; rfl, hbe⟩
    · have HS : Hid (sameRe d ⟨cx, yx, vx, es⟩ ⟨cx, yx, vy, fs⟩ = true) := by show _ = _; rw [HL2.out, hsame.out]; exact sameL_end (by rw [HN.out]; omega) (by rw [HM.out]; omega)
      clear hb
      go_wp2
      go_ret
      exact ⟨by rw [HS.out]; rfl, HB.out⟩

/-- Two values that compare as alike. -/
def SameC (F : FuncId) (d : Nat) : Prop := ∀ (w : World) (v1 v2 : Value) (x y : Va), (∃ cs : List Value, v1 = .agg cs.toArray ∧ HVa w All d cs x) → (∃ cs : List Value, v2 = .agg cs.toArray ∧ HVa w All d cs y) →
    Calls Try.prog F #[v1, v2] w fun e w' => e = .returned (.bool (cmpVa d x y == 0)) ∧ Below w.heap.size w w'

set_option maxHeartbeats 4000000 in
theorem sameVal_any (d : Nat) : SameC 14 d := by
  intro w v1 v2 x y h1 h2
  obtain ⟨cs, rfl, h1⟩ := h1
  obtain ⟨cs', rfl, h2⟩ := h2
  obtain ⟨sk, sn, st, p1, n1, q1, rfl⟩ := h1.shape
  obtain ⟨sk', sn', st', p1', n1', q1', rfl⟩ := h2.shape
  have E1 : ∀ w', SameOn All w w' → HVa w' All d [.int .i64 sk, .int .i64 sn, .string st, .slice p1 n1 q1] x := fun w' hw => h1.mono hw (fun _ h => h)
  have E2 : ∀ w', SameOn All w w' → HVa w' All d [.int .i64 sk', .int .i64 sn', .string st', .slice p1' n1' q1'] y := fun w' hw => h2.mono hw (fun _ h => h)
  clear h1 h2
  have hal : Below w.heap.size w ((w.alloc (.cells #[.int .i64 sk, .int .i64 sn, .string st, .slice p1 n1 q1] 31)).alloc (.cells #[.int .i64 sk', .int .i64 sn', .string st', .slice p1' n1' q1'] 31)) := ((Below.refl _ _).alloc (Nat.le_refl _) _).alloc (by simp) _
  have HA : Hid (Below w.heap.size w ((w.alloc (.cells #[.int .i64 sk, .int .i64 sn, .string st, .slice p1 n1 q1] 31)).alloc (.cells #[.int .i64 sk', .int .i64 sn', .string st', .slice p1' n1' q1'] 31))) := hal
  clear hal
  generalize hcv : cmpVa d x y = cv at *
  have HCV : Hid (cmpVa d x y = cv) := hcv
  clear hcv
  go_enter Try.func14, Try.ntmps14
  go_wp2_with (first | (go_at_call 18; refine (implCmp_all d _ _ _ x y ⟨_, rfl, E1 _ (SameOn.of_below HA.out)⟩ ⟨_, rfl, E2 _ (SameOn.of_below HA.out)⟩).mono ?_; rintro e w1 ⟨rfl, hb1⟩; rw [HCV.out]; have HB1 : Hid _ := hb1; clear hb1))
  go_ret
  exact ⟨rfl, HA.out.trans (HB1.out.mono HA.out.size)⟩

set_option maxHeartbeats 8000000 in
theorem equalF_any (d : Nat) (w : World) (v1 v2 : Value) (es fs : List Va) (h1 : Rows w All 4 (HVa w All d) v1 es) (h2 : Rows w All 4 (HVa w All d) v2 fs) :
    Calls Try.prog 15 #[v1, v2, .func (.func 14) #[] #[]] w fun e w' => e = .returned (.bool (sameL (cmpVa d) es fs)) ∧ Below w.heap.size w w' := by
  have hE := sameVal_any d
  obtain ⟨p, cap, rfl, hcl, hcm, hx⟩ := h1
  obtain ⟨q, cap', rfl, hcl', hcm', hy⟩ := h2
  have HB0 : es.length ≤ 9223372036854775807 := by unfold maxLen at hcm; omega
  have HB1 : fs.length ≤ 9223372036854775807 := by unfold maxLen at hcm'; omega
  generalize hm : fs.length = m at *
  have HM : Hid (fs.length = m) := hm
  generalize hn : es.length = n at *
  have HN : Hid (es.length = n) := hn
  have HX : Hid (es ≠ [] → ∃ g off, p = some ⟨g, off, none⟩ ∧ All g ∧ g < w.heap.size ∧ ∀ i x, es[i]? = some x → ∃ cs, cs.length = 4 ∧ (∀ j, j < 4 → w.cell? ⟨g, off + i * 4 + j, none⟩ = cs[j]?) ∧ HVa w All d cs x) := hx
  have HY : Hid (fs ≠ [] → ∃ g off, q = some ⟨g, off, none⟩ ∧ All g ∧ g < w.heap.size ∧ ∀ i x, fs[i]? = some x → ∃ cs, cs.length = 4 ∧ (∀ j, j < 4 → w.cell? ⟨g, off + i * 4 + j, none⟩ = cs[j]?) ∧ HVa w All d cs x) := hy
  clear hm hn hx hy
  by_cases hnm : n = m
  case neg =>
    have HS : Hid (sameL (cmpVa d) es fs = false) := sameL_len (by rw [HN.out, HM.out]; exact hnm)
    go_enter Try.func15, Try.ntmps15
    go_wp2
    go_ret
    exact ⟨by rw [HS.out]; rfl, Below.refl _ _⟩
  subst hnm
  go_enter Try.func15, Try.ntmps15
  go_wp2
  go_loopw [17] (fun iv wr => ∃ k : Nat, k ≤ n ∧ iv = .int .i64 k ∧ Hid (sameL (cmpVa d) es fs = sameL (cmpVa d) (es.drop k) (fs.drop k)) ∧ Below w.heap.size w wr) (fun iv _ => n - (intOf iv).toNat)
  case atStart => exact ⟨0, Nat.zero_le _, rfl, rfl, Below.refl _ _⟩
  case round =>
    obtain ⟨k, hk, rfl, hsame, hb⟩ := hrel
    have HB : Hid (Below w.heap.size w wr) := hb
    by_cases hlt : k < n
    · obtain ⟨x, hxk⟩ : ∃ x, es[k]? = some x := ⟨es[k]'(by rw [HN.out]; exact hlt), List.getElem?_eq_getElem _⟩
      obtain ⟨g, off, rfl, _, hgl, hat⟩ := HX.out (by intro h; rw [h] at hxk; simp at hxk)
      obtain ⟨cs, hcl6, hcs, r1⟩ := hat k x hxk
      have E1 : ∀ w', SameOn All wr w' → HVa w' All d cs x := fun w' hw => r1.mono (SameOn.trans (SameOn.of_below hb) hw) (fun _ h => h)
      obtain ⟨sk, sn, st, p1, n1, q1, rfl⟩ := r1.shape
      have a0 := hcs 0 (by omega)
      have a1 := hcs 1 (by omega)
      have a2 := hcs 2 (by omega)
      have a3 := hcs 3 (by omega)
      rw [← hb.cell (p := ⟨g, _, none⟩) hgl] at a0 a1 a2 a3
      simp at a0 a1 a2 a3
      have hgw : g < wr.heap.size := Nat.lt_of_lt_of_le hgl HB.out.size
      have hki : (k : Int) < (n : Int) := by omega
      have hk0 : (0 : Int) ≤ (k : Int) := by omega
      obtain ⟨y, hyk⟩ : ∃ y, fs[k]? = some y := ⟨fs[k]'(by rw [HM.out]; exact hlt), List.getElem?_eq_getElem _⟩
      obtain ⟨g', off', rfl, _, hgl', hat'⟩ := HY.out (by intro h; rw [h] at hyk; simp at hyk)
      obtain ⟨cs', hcl6', hcs', r2⟩ := hat' k y hyk
      have E2 : ∀ w', SameOn All wr w' → HVa w' All d cs' y := fun w' hw => r2.mono (SameOn.trans (SameOn.of_below hb) hw) (fun _ h => h)
      obtain ⟨sk', sn', st', p1', n1', q1', rfl⟩ := r2.shape
      have b0 := hcs' 0 (by omega)
      have b1 := hcs' 1 (by omega)
      have b2 := hcs' 2 (by omega)
      have b3 := hcs' 3 (by omega)
      rw [← hb.cell (p := ⟨g', _, none⟩) hgl'] at b0 b1 b2 b3
      simp at b0 b1 b2 b3
      have hgw' : g' < wr.heap.size := Nat.lt_of_lt_of_le hgl' HB.out.size
      clear hb hcs hat hcl6 hcs' hat' hcl6' r1 r2
      have hal : Below wr.heap.size wr ((wr.alloc (.cells #[.int .i64 sk, .int .i64 sn, .string st, .slice p1 n1 q1] 31)).alloc (.cells #[.int .i64 sk', .int .i64 sn', .string st', .slice p1' n1' q1'] 31)) := ((Below.refl _ _).alloc (Nat.le_refl _) _).alloc (by simp) _
      have HA : Hid (Below wr.heap.size wr ((wr.alloc (.cells #[.int .i64 sk, .int .i64 sn, .string st, .slice p1 n1 q1] 31)).alloc (.cells #[.int .i64 sk', .int .i64 sn', .string st', .slice p1' n1' q1'] 31))) := hal
      clear hal
      have HST : Hid (sameL (cmpVa d) (es.drop k) (fs.drop k) = if cmpVa d x y = 0 then sameL (cmpVa d) (es.drop (k + 1)) (fs.drop (k + 1)) else false) := sameL_step (f := cmpVa d) hxk hyk
      by_cases hz : cmpVa d x y = 0
      · have HCV : Hid ((cmpVa d x y == 0) = true) := by show _ = _; simpa using hz
        have HZ : Hid (cmpVa d x y = 0) := hz
        clear hz
        go_wp2_with (first | (go_at_call 14; refine (hE _ _ _ x y ⟨_, rfl, E1 _ (SameOn.of_below HA.out)⟩ ⟨_, rfl, E2 _ (SameOn.of_below HA.out)⟩).mono ?_; rintro e w1 ⟨rfl, hb1⟩; rw [HCV.out]; have HB1 : Hid _ := hb1; clear hb1))
        have hbe : Below w.heap.size w w1 := (HB.out.trans (HA.out.mono HB.out.size)).trans (HB1.out.mono (HB.out.trans (HA.out.mono HB.out.size)).size)
        exact ⟨⟨k + 1, by omega, by go_num, (by show _ = _; rw [hsame.out, HST.out, if_pos HZ.out]), hbe⟩, by simp [intOf]; omega⟩
      · have HCV : Hid ((cmpVa d x y == 0) = false) := by show _ = _; simpa using hz
        have HS : Hid (sameL (cmpVa d) es fs = false) := by show _ = _; rw [hsame.out, HST.out, if_neg hz]
        clear hz
        go_wp2_with (first | (go_at_call 14; refine (hE _ _ _ x y ⟨_, rfl, E1 _ (SameOn.of_below HA.out)⟩ ⟨_, rfl, E2 _ (SameOn.of_below HA.out)⟩).mono ?_; rintro e w1 ⟨rfl, hb1⟩; rw [HCV.out]; have HB1 : Hid _ := hb1; clear hb1))
        go_ret
        have hbe : Below w.heap.size w w1 := (HB.out.trans (HA.out.mono HB.out.size)).trans (HB1.out.mono (HB.out.trans (HA.out.mono HB.out.size)).size)
        exact ⟨by rw [HS.out]; rfl, hbe⟩
    · have HS : Hid (sameL (cmpVa d) es fs = true) := by show _ = _; rw [hsame.out]; exact sameL_end (by rw [HN.out]; omega) (by rw [HM.out]; omega)
      clear hb
      go_wp2
      go_ret
      exact ⟨by rw [HS.out]; rfl, HB.out⟩

set_option maxHeartbeats 8000000 in
/-- THE PROGRAM's SameResult. -/
theorem implSame_any (d : Nat) (w : World) (cs1 cs2 : List Value) (x y : Re) (h1 : HRe w All d cs1 x) (h2 : HRe w All d cs2 y) :
    Calls Try.prog 7 #[.agg cs1.toArray, .agg cs2.toArray] w fun e w' => e = .returned (.bool (sameRe d x y)) ∧ Below w.heap.size w w' := by
  obtain ⟨sk, sn, st, p1, n1, q1, ov, rfl, a1, a2, f0, f1⟩ := h1
  obtain ⟨sk', sn', st', p1', n1', q1', ov', rfl, b1, b2, f0', f1'⟩ := h2
  obtain ⟨cx, yx, vx, es⟩ := x
  obtain ⟨cy, yy, vy, fs⟩ := y
  simp only at *
  have g0 : ∀ w', SameOn All w w' → HVa w' All d [.int .i64 sk, .int .i64 sn, .string st, .slice p1 n1 q1] vx := fun w' hw => f0.mono hw (fun _ h => h)
  have g0' : ∀ w', SameOn All w w' → HVa w' All d [.int .i64 sk', .int .i64 sn', .string st', .slice p1' n1' q1'] vy := fun w' hw => f0'.mono hw (fun _ h => h)
  have e0 : ∀ w', SameOn All w w' → Rows w' All 4 (HVa w' All d) ov es := fun w' hw => f1.mono hw (fun _ h => h) (fun _ _ _ => HVa.mono hw (fun _ h => h))
  have e0' : ∀ w', SameOn All w w' → Rows w' All 4 (HVa w' All d) ov' fs := fun w' hw => f1'.mono hw (fun _ h => h) (fun _ _ _ => HVa.mono hw (fun _ h => h))
  clear f0 f0' f1 f1' a1 a2 b1 b2
  by_cases kc : cx = cy
  case neg =>
    have HS : Hid (sameRe d ⟨cx, yx, vx, es⟩ ⟨cy, yy, vy, fs⟩ = false) := if_neg kc
    go_enter Try.func7, Try.ntmps7
    go_wp2
    go_ret
    exact ⟨by rw [HS.out]; rfl, ((Below.refl _ _).alloc (Nat.le_refl _) _).alloc (by simp) _⟩
  subst kc
  by_cases ky : yx = yy
  case neg =>
    have HS : Hid (sameRe d ⟨cx, yx, vx, es⟩ ⟨cx, yy, vy, fs⟩ = false) := by show _ = _; simp only [sameRe, if_true, if_neg ky]
    have hq1 := str_ne ky
    have hq2 := str_neB ky
    go_enter Try.func7, Try.ntmps7
    go_wp2
    go_ret
    exact ⟨by rw [HS.out]; rfl, ((Below.refl _ _).alloc (Nat.le_refl _) _).alloc (by simp) _⟩
  subst ky
  have hal : Below w.heap.size w ((w.alloc (.cells #[.int .i64 cx, .string yx, .int .i64 sk, .int .i64 sn, .string st, .slice p1 n1 q1, ov] 33)).alloc (.cells #[.int .i64 cx, .string yx, .int .i64 sk', .int .i64 sn', .string st', .slice p1' n1' q1', ov'] 33)) := ((Below.refl _ _).alloc (Nat.le_refl _) _).alloc (by simp) _
  have HA : Hid (Below w.heap.size w ((w.alloc (.cells #[.int .i64 cx, .string yx, .int .i64 sk, .int .i64 sn, .string st, .slice p1 n1 q1, ov] 33)).alloc (.cells #[.int .i64 cx, .string yx, .int .i64 sk', .int .i64 sn', .string st', .slice p1' n1' q1', ov'] 33))) := hal
  clear hal
  have HL : Hid (sameRe d ⟨cx, yx, vx, es⟩ ⟨cx, yx, vy, fs⟩ = if cmpVa d vx vy = 0 then sameL (cmpVa d) es fs else false) := by show _ = _; simp only [sameRe, if_true]
  have KEEP : ∀ w1, Below ((w.alloc (.cells #[.int .i64 cx, .string yx, .int .i64 sk, .int .i64 sn, .string st, .slice p1 n1 q1, ov] 33)).alloc (.cells #[.int .i64 cx, .string yx, .int .i64 sk', .int .i64 sn', .string st', .slice p1' n1' q1', ov'] 33)).heap.size ((w.alloc (.cells #[.int .i64 cx, .string yx, .int .i64 sk, .int .i64 sn, .string st, .slice p1 n1 q1, ov] 33)).alloc (.cells #[.int .i64 cx, .string yx, .int .i64 sk', .int .i64 sn', .string st', .slice p1' n1' q1', ov'] 33)) w1 → Blk w1 w.heap.size #[.int .i64 cx, .string yx, .int .i64 sk, .int .i64 sn, .string st, .slice p1 n1 q1, ov] 33 ∧ Blk w1 (w.heap.size + 1) #[.int .i64 cx, .string yx, .int .i64 sk', .int .i64 sn', .string st', .slice p1' n1' q1', ov'] 33 := by
    intro w1 hb
    have k0 := (Blk.new (w := w) (cs := #[.int .i64 cx, .string yx, .int .i64 sk, .int .i64 sn, .string st, .slice p1 n1 q1, ov]) (t := 33)).alloc (o := .cells #[.int .i64 cx, .string yx, .int .i64 sk', .int .i64 sn', .string st', .slice p1' n1' q1', ov'] 33)
    have k1 := (Blk.new (w := w.alloc (.cells #[.int .i64 cx, .string yx, .int .i64 sk, .int .i64 sn, .string st, .slice p1 n1 q1, ov] 33)) (cs := #[.int .i64 cx, .string yx, .int .i64 sk', .int .i64 sn', .string st', .slice p1' n1' q1', ov']) (t := 33))
    simp only [alloc_hs] at k1
    exact ⟨k0.next hb, k1.next hb⟩
  by_cases hz : cmpVa d vx vy = 0
  case neg =>
    have HS : Hid (sameRe d ⟨cx, yx, vx, es⟩ ⟨cx, yx, vy, fs⟩ = false) := by show _ = _; rw [HL.out, if_neg hz]
    have HCV : Hid ((cmpVa d vx vy == 0) = false) := by show _ = _; simpa using hz
    clear hz
    go_enter Try.func7, Try.ntmps7
    go_wp2_with (first | (go_at_call 14; refine (sameVal_any d _ _ _ vx vy ⟨_, rfl, g0 _ (SameOn.of_below HA.out)⟩ ⟨_, rfl, g0' _ (SameOn.of_below HA.out)⟩).mono ?_; rintro e w1 ⟨rfl, hb1⟩; rw [HCV.out]; have HB1 : Hid _ := hb1; clear hb1))
    go_ret
    exact ⟨by rw [HS.out]; rfl, HA.out.trans (HB1.out.mono HA.out.size)⟩
  have HL2 : Hid (sameRe d ⟨cx, yx, vx, es⟩ ⟨cx, yx, vy, fs⟩ = sameL (cmpVa d) es fs) := by show _ = _; rw [HL.out, if_pos hz]
  have HCV : Hid ((cmpVa d vx vy == 0) = true) := by show _ = _; simpa using hz
  clear HL hz
  go_enter Try.func7, Try.ntmps7
  go_wp2_with (first | (go_at_call 15; refine (equalF_any d _ _ _ es fs (e0 _ (SameOn.of_below HB1.out)) (e0' _ (SameOn.of_below HB1.out))).mono ?_; rintro e w2 ⟨rfl, hb2⟩; rw [← HL2.out]; have HB2 : Hid _ := hb2; clear hb2) | (go_at_call 14; refine (sameVal_any d _ _ _ vx vy ⟨_, rfl, g0 _ (SameOn.of_below HA.out)⟩ ⟨_, rfl, g0' _ (SameOn.of_below HA.out)⟩).mono ?_; rintro e w1 ⟨rfl, hb1⟩; rw [HCV.out]; have KA := (KEEP _ hb1).1.cell 6 _ rfl; have KB := (KEEP _ hb1).2.cell 6 _ rfl; have HB1 : Hid (Below w.heap.size w w1) := HA.out.trans (hb1.mono HA.out.size); clear hb1))
  go_ret
  exact ⟨rfl, HB1.out.trans (HB2.out.mono HB1.out.size)⟩
end Go.Proofs.Ytcjipfdancbkgaa
