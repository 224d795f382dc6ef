/-
  Texts of the proof, packed: MatchImplD, LawVal, ReckSpec.
-/
import Derived.Test.YtmnghlkkfkpjhaaGreatDoorPackO
import Derived.Test.YtmnghlkkfkpjhaaGreatDoorPackB
/-
  The program's copyBinds and Match, by contract.
-/
namespace Go.Proofs.YtmnghlkkfkpjhaaGreatDoor
open Go.ChangeShapes Go.WideShapes Go.ChangeAt Go.RowKit
set_option linter.unusedVariables false
set_option maxRecDepth 100000

def OBc (w : World) (d : Nat) (cs : List Value) (b : Bd) (fp : List Nat) : Prop := ∃ vs, cs = .string b.name :: vs ∧ okS b.name ∧ OVa w d vs b.val fp
theorem OBc.keep {w w' : World} {d : Nat} {cs : List Value} {b : Bd} {fp : List Nat} (h : OBc w d cs b fp) (hk : KeepOn fp w w') : OBc w' d cs b fp := by
  obtain ⟨vs, rfl, h1, h2⟩ := h
  exact ⟨vs, rfl, h1, h2.keep hk⟩

set_option maxHeartbeats 8000000 in
theorem copyBinds_any (d : Nat) (w : World) (v : Value) (es : List Bd) (h : Rows w All 5 (HBd w All d) v es) (hl : es.length ≤ 1048576) (hw : ∀ b ∈ es, wtVa d b.val ≤ 1048576) :
    Calls Tryz.prog 37 #[v] w fun e w' => ∃ u, e = .returned u ∧ Rows w' All 5 (HBd w' All d) u es ∧ Below w.heap.size w w' := by
  have hE := copyVal_own d
  obtain ⟨p, cap, rfl, hcl, hcm, hx⟩ := h
  generalize hn : es.length = n at *
  have HN : Hid (es.length = n) := hn
  have HX : Hid (es ≠ [] → ∃ g off, p = some ⟨g, off, none⟩ ∧ All g ∧ g < w.heap.size ∧ ∀ i x, es[i]? = some x → ∃ cs, cs.length = 5 ∧ (∀ j, j < 5 → w.cell? ⟨g, off + i * 5 + j, none⟩ = cs[j]?) ∧ HBd w All d cs x) := hx
  have HWT : Hid (∀ b ∈ es, wtVa d b.val ≤ 1048576) := hw
  clear hx hn hw
  obtain ⟨M, hM, hmk⟩ := make_row (t := 34) (e := 66) (c := 5) Tryz.underlying34 (by kernel_rfl) w n hl
  have HO : Hid (Made w (w.alloc (.cells M 66)) w.heap.size n 66 5 (fun w => OBc w d) es 0 M.toList []) := Made.start hM (by unfold maxLen; omega)
  generalize hG : w.heap.size = G at *
  have HG : Hid (w.heap.size = G) := hG
  go_enter Tryz.func37, Tryz.ntmps37
  go_wp2
  go_loopw [11] (fun iv wr => ∃ (k : Nat) (xs : List Value) (fps : List (List Nat)), k ≤ n ∧ iv = .int .i64 k ∧ Hid (Made w wr G n 66 5 (fun w => OBc w d) es k xs fps)) (fun iv _ => n - (intOf iv).toNat)
  case atStart => exact ⟨0, M.toList, [], Nat.zero_le _, rfl, HO⟩
  case round =>
    obtain ⟨k, xs, fps, hk, rfl, HM⟩ := hrel
    by_cases hlt : k < n
    · obtain ⟨x, hxk⟩ : ∃ x, es[k]? = some x := ⟨es[k]'(by rw [HN.out]; exact hlt), List.getElem?_eq_getElem _⟩
      obtain ⟨g, off, rfl, hg, hgl, hat⟩ := HX.out (by intro h; rw [h] at hxk; simp at hxk)
      obtain ⟨cs, hcl6, hcs, us, rfl, hys, hex⟩ := hat k x hxk
      have hbw : Below w.heap.size w wr := by rw [HG.out]; exact HM.out.below
      have hex' : ∀ w', SameOn All wr w' → HVa w' All d us x.val := fun w' hw => hex.mono (SameOn.trans (SameOn.of_below hbw) hw) (fun _ h => h)
      obtain ⟨ak, an, at_, pa, na, qa, rfl⟩ := hex.shape
      have a0 := hcs 0 (by omega)
      have a1 := hcs 1 (by omega)
      have a2 := hcs 2 (by omega)
      have a3 := hcs 3 (by omega)
      have a4 := hcs 4 (by omega)
      rw [← hbw.cell (p := ⟨g, _, none⟩) (by show g < w.heap.size; rw [HG.out]; exact hgl)] at a0 a1 a2 a3 a4
      simp at a0 a1 a2 a3 a4
      have hwx : wtVa d x.val ≤ 1048576 := HWT.out x (List.mem_of_getElem? hxk)
      have hki : (k : Int) < (n : Int) := by omega
      have hk0 : (0 : Int) ≤ (k : Int) := by omega
      have HAL : Hid (Below wr.heap.size wr (wr.alloc (.cells #[.string x.name, .int .i64 ak, .int .i64 an, .string at_, .slice pa na qa] 66))) := (Below.refl _ _).alloc (Nat.le_refl _) _
      have bX : Hid (Blk (wr.alloc (.cells #[.string x.name, .int .i64 ak, .int .i64 an, .string at_, .slice pa na qa] 66)) wr.heap.size #[.string x.name, .int .i64 ak, .int .i64 an, .string at_, .slice pa na qa] 66) := Blk.new
      have HYS : Hid (okS x.name) := hys
      clear hbw hcs hat hex hcl6 hys
      have hxl : xs.length = n * 5 := HM.out.own.1
      go_wp2_with fail
      go_region_law
        (first | (go_simp; go_at_call 42; refine (hE _ _ x.val ⟨_, rfl, hex' _ (SameOn.of_below HAL.out).drew⟩ hwx).mono ?_; rintro e w1 ⟨u, fp, rfl, ⟨cs', rfl, hx1⟩, hnd, hrg, hb1⟩; obtain ⟨sk, sn, st, p1, n1, q1, hsh⟩ := hx1.shape; subst hsh; have L1 : Hid (Below (wr.alloc (.cells #[.string x.name, .int .i64 ak, .int .i64 an, .string at_, .slice pa na qa] 66)).heap.size (wr.alloc (.cells #[.string x.name, .int .i64 ak, .int .i64 an, .string at_, .slice pa na qa] 66)) w1) := ⟨hb1.os, hb1.tape, hb1.output, hb1.size, hb1.block⟩; have HB1 : Hid (Below wr.heap.size wr w1) := HAL.out.trans (L1.out.mono HAL.out.size); have HX1 : Hid (OBc w1 d [.string x.name, .int .i64 sk, .int .i64 sn, .string st, .slice p1 n1 q1] x fp) := ⟨_, rfl, HYS.out, hx1⟩; have HND : Hid fp.Nodup := hnd; have HRG : Hid (∀ a ∈ fp, wr.heap.size ≤ a ∧ a < w1.heap.size) := (fun a ha => ⟨Nat.le_trans HAL.out.size (hrg a ha).1, (hrg a ha).2⟩); have o1 := HM.out.own.kept (grownBy_belowR (r := none) HB1.out) (Or.inr (by simp [Value.ownBlock])); have HO1 : Hid (w1.ownsRow G 66 5 (.slice (some ⟨G, 0, none⟩) n n) n xs) := o1; have f0 := o1.frozenAt (k * 5); obtain ⟨y0, g0⟩ := own_someR o1 (k * 5) (by omega); have f1 := o1.frozenAt (k * 5 + 1); obtain ⟨y1, g1⟩ := own_someR o1 (k * 5 + 1) (by omega); have f2 := o1.frozenAt (k * 5 + 2); obtain ⟨y2, g2⟩ := own_someR o1 (k * 5 + 2) (by omega); have f3 := o1.frozenAt (k * 5 + 3); obtain ⟨y3, g3⟩ := own_someR o1 (k * 5 + 3) (by omega); have f4 := o1.frozenAt (k * 5 + 4); obtain ⟨y4, g4⟩ := own_someR o1 (k * 5 + 4) (by omega); have nm := (bX.out.next L1.out).cell 0 _ rfl; clear o1 hb1 hx1 hnd hrg; dsimp only))
      all_goals
        go_wp2_with fail
        have sd := stored5 HO1.out (k * 5) (.string x.name) (.int .i64 sk) (.int .i64 sn) (.string st) (.slice p1 n1 q1)
        have hlen : xs.length = n * 5 := HO1.out.1
        exact ⟨⟨k + 1, _, _, by omega, by go_num, Made.step (O := fun w => OBc w d) (c := 5) (fun w w' cs x f h hk => OBc.keep h hk) HM.out hxk HB1.out HX1.out HND.out HRG.out rfl sd.1 sd.2 (fun m hm => set5_other hm) (fun j hj => set5_self (by omega) j hj)⟩, by simp [intOf]; omega⟩
    · obtain rfl : k = n := by omega
      obtain ⟨fp, r1, r2, r3⟩ := HM.out.done HN.out (by unfold maxLen; omega)
      have R1 : Hid (Rows wr All 5 (HBd wr All d) (.slice (some ⟨G, 0, none⟩) k k) es) := ORows.rows r1 (fun _ _ => trivial) (fun cs x f _ hs h => by obtain ⟨vs, h1, h2, h3⟩ := h; exact ⟨vs, h1, h2, h3.tree (fun _ _ => trivial)⟩)
      clear r1 r2 r3
      go_wp2
      go_ret
      exact ⟨_, rfl, R1.out, by rw [← HG.out] at *; exact HM.out.below⟩

theorem cut_any (p : Option Addr) (l c : Nat) (w : World) (hl : l ≤ c) (hc : c ≤ maxLen) : Calls Tryz.prog 36 #[.slice p l c] w fun e w' => e = .returned (.slice p l l) ∧ w' = w := by
  have hb : c ≤ 9223372036854775807 := by unfold maxLen at hc; omega
  go_enter Tryz.func36, Tryz.ntmps36
  go_wp2
  go_ret
  exact ⟨rfl, rfl⟩

theorem rows_low {α : Type} {w : World} {c : Nat} {R R' : List Value → α → Prop} {v : Value} {xs : List α} (h : Rows w All c R v xs) (hR : ∀ cs x, x ∈ xs → R cs x → R' cs x) : Rows w (fun g => g < w.heap.size) c R' v xs := by
  obtain ⟨p, cap, hv, h1, h2, hx⟩ := h
  refine ⟨p, cap, hv, h1, h2, fun hne => ?_⟩
  obtain ⟨g, off, hp, _, hl, hat⟩ := hx hne
  refine ⟨g, off, hp, hl, hl, fun i x hi => ?_⟩
  obtain ⟨cs, hc, hcs, hr⟩ := hat i x hi
  exact ⟨cs, hc, hcs, hR cs x (List.mem_of_getElem? hi) hr⟩
theorem HVa.lowM {w : World} : ∀ {d : Nat} {cs : List Value} {x : Va}, HVa w All d cs x → HVa w (fun g => g < w.heap.size) d cs x
  | 0, _, _, h => h.elim
  | d + 1, cs, x, h => by
    obtain ⟨kv, rfl, h1, h2, h3, hr⟩ := h
    exact ⟨kv, rfl, h1, h2, h3, rows_low hr (fun _ _ _ h => h.lowM)⟩
theorem HEx.low {w : World} : ∀ {d : Nat} {cs : List Value} {x : Ex}, HEx w All d cs x → HEx w (fun g => g < w.heap.size) d cs x
  | 0, _, _, h => h.elim
  | d + 1, cs, x, h => by
    obtain ⟨kv, cv, rfl, h1, h2, h3, h4, hr, hc⟩ := h
    exact ⟨kv, cv, rfl, h1, h2, h3, h4, rows_low hr (fun _ _ _ h => h.low), rows_low hc (fun _ _ _ ⟨a, b, e, ha, hb⟩ => ⟨a, b, e, rows_low ha (fun _ _ _ h => h.low), rows_low hb (fun _ _ _ h => h.low)⟩)⟩

set_option maxHeartbeats 8000000 in
theorem implMatch_any (d k : Nat) (w : World) (pcs : List Value) (p : Ex) (vcs : List Value) (v : Va) (ev : Value) (env : List Bd) (hp : HEx w All k pcs p) (hv : HVa w All d vcs v) (h2 : twoV d v) (he : Rows w All 5 (HBd w All d) ev env)
    (hl : env.length + ndE k p ≤ 100000) (hw : ∀ out, matchM d k p v env = some out → ∀ b ∈ out, wtVa d b.val ≤ 1048576) :
    Calls Tryz.prog 8 #[.agg pcs.toArray, .agg vcs.toArray, ev] w fun e w' => ToldE (matchM d k p v env) d e w' ∧ Below w.heap.size w w' := by
  have HP : Hid (HEx w (fun g => g < w.heap.size) k pcs p) := hp.low
  have HV : Hid (HVa w (fun g => g < w.heap.size) d vcs v) := hv.lowM
  have H2 : Hid (twoV d v) := h2
  have HL : Hid (env.length + ndE k p ≤ 100000) := hl
  have HW : Hid (∀ out, matchM d k p v env = some out → ∀ b ∈ out, wtVa d b.val ≤ 1048576) := hw
  obtain ⟨xk, xn, xt, xm, p3, n3, q3, p4, n4, q4, rfl⟩ := HEx.shapeM hp
  obtain ⟨sk, sn, st, p1, n1, q1, rfl⟩ := hv.shape
  have RL : Rows w (fun g => g < w.heap.size) 5 (RBd w.heap.size w d) ev env := rows_low he (fun cs b _ ⟨vs, e1, e2, e3⟩ => ⟨vs, e1, e2, StV.of e3.lowM⟩)
  obtain ⟨pe, ec, rfl, hel, hem, hex⟩ := RL
  have hnb : env.length ≤ 9223372036854775807 := by omega
  have hal : Below w.heap.size w ((w.alloc (.cells #[.int .i64 xk, .int .i64 xn, .string xt, .string xm, .slice p3 n3 q3, .slice p4 n4 q4] 33)).alloc (.cells #[.int .i64 sk, .int .i64 sn, .string st, .slice p1 n1 q1] 26)) := ((Below.refl _ _).alloc (Nat.le_refl _) _).alloc (by simp) _
  have HA : Hid (Below w.heap.size w ((w.alloc (.cells #[.int .i64 xk, .int .i64 xn, .string xt, .string xm, .slice p3 n3 q3, .slice p4 n4 q4] 33)).alloc (.cells #[.int .i64 sk, .int .i64 sn, .string st, .slice p1 n1 q1] 26))) := hal
  have RC : Hid (∀ w', Below w.heap.size w w' → BnB w.heap.size w d w' (.slice pe env.length env.length) env) := fun w' hb => .inr ⟨hb.size, Rows.mono (w := w) ⟨pe, env.length, rfl, Nat.le_refl _, by omega, hex⟩ (SameOn.of_below hb) (fun _ h => h) (fun _ _ _ h => h), pe, rfl⟩
  have HC : Hid (env.length ≤ ec ∧ ec ≤ maxLen) := ⟨hel, hem⟩
  clear hp hv hl hw he h2 hex hal
  go_enter Tryz.func8, Tryz.ntmps8
  cases hmx : matchM d k p v env with
  | none =>
    have HMX : Hid (matchM d k p v env = none) := hmx
    clear hmx
    go_wp2_with fail
    go_region_law
      (first
        | (go_simp; go_at_call 36; refine (cut_any _ _ _ _ HC.out.1 HC.out.2).mono ?_; rintro e w1 ⟨rfl, rfl⟩; dsimp only)
        | (go_simp; go_at_call 35; refine (fit_all w.heap.size w d k _ _ p _ v _ env HA.out.drew HP.out HV.out H2.out (RC.out _ HA.out.drew) (by have := HL.out; omega)).mono ?_; rintro e w2 ⟨ht, hb⟩; rw [HMX.out] at ht; obtain ⟨ev', rfl⟩ := ht; have K2 : Hid (Below w.heap.size w w2) := HA.out.drew.trans hb; clear hb; dsimp only))
    all_goals
      go_wp2_with fail
      refine bodyPost_ret (v := .tuple #[.slice (some ⟨w2.heap.size, 0, none⟩) 0 0, .bool false]) (by simp [results, Tryz.results8, go_sem]) rfl ⟨?_, K2.out.alloc K2.out.size _⟩
      exact ⟨_, rfl, _, _, rfl, Nat.zero_le _, Nat.zero_le _, fun h => absurd rfl h⟩
  | some out =>
    have HMX : Hid (matchM d k p v env = some out) := hmx
    have HLO : Hid (out.length ≤ 1048576) := by have h1 := matchM_len d k p v env out hmx; have h2 := HL.out; show _ ≤ _; omega
    have HWO : Hid (∀ b ∈ out, wtVa d b.val ≤ 1048576) := HW.out out hmx
    clear hmx
    go_wp2_with fail
    go_region_law
      (first
        | (go_simp; go_at_call 36; refine (cut_any _ _ _ _ HC.out.1 HC.out.2).mono ?_; rintro e w1 ⟨rfl, rfl⟩; dsimp only)
        | (go_simp; go_at_call 35; refine (fit_all w.heap.size w d k _ _ p _ v _ env HA.out.drew HP.out HV.out H2.out (RC.out _ HA.out.drew) (by have := HL.out; omega)).mono ?_; rintro e w2 ⟨ht, hb⟩; rw [HMX.out] at ht; obtain ⟨ev', rfl, hrows⟩ := ht; have HR2 : Hid (BnB w.heap.size w d w2 ev' out) := hrows; clear hrows; have K2 : Hid (Below w.heap.size w w2) := HA.out.drew.trans hb; clear hb; dsimp only))
    all_goals
      go_wp2_with fail
      refine (copyBinds_any d _ _ out (BnB.binds HR2.out K2.out) HLO.out HWO.out).mono ?_
      rintro e w4 ⟨u, rfl, hr4, hb4⟩
      have HR4 : Hid (Rows w4 All 5 (HBd w4 All d) u out) := hr4
      have K4 : Hid (Below w.heap.size w w4) := K2.out.trans (hb4.mono K2.out.size)
      clear hr4 hb4
      go_wp2_with fail
      refine bodyPost_ret (v := .tuple #[u, .bool true]) (by simp [results, Tryz.results8, go_sem]) rfl ⟨?_, K4.out⟩
      exact ⟨_, rfl, HR4.out⟩
end Go.Proofs.YtmnghlkkfkpjhaaGreatDoor
/-
  The laws' own sameVal and sameEnv: whether two values, or two lists of what is bound, are one tree.
-/
namespace Go.Proofs.YtmnghlkkfkpjhaaGreatDoor
open Go.ChangeShapes Go.WideShapes Go.ChangeAt Go.RowKit
set_option linter.unusedVariables false
set_option maxRecDepth 100000

theorem take_eq_succ {α : Type} {es fs : List α} {k : Nat} {x y : α} (h : es.take k = fs.take k) (hx : es[k]? = some x) (hy : fs[k]? = some y) (e : x = y) : es.take (k + 1) = fs.take (k + 1) := by
  rw [List.take_add_one, List.take_add_one, hx, hy, h, e]
theorem ne_of_at {α : Type} {es fs : List α} {k : Nat} {x y : α} (hx : es[k]? = some x) (hy : fs[k]? = some y) (e : x ≠ y) : es ≠ fs := by
  intro h; rw [h, hy] at hx; exact e (Option.some.inj hx).symm

set_option maxHeartbeats 8000000 in
theorem sameVal_of {d : Nat} (hE : CmpC 19 (fun w v e => ∃ cs, v = .agg cs.toArray ∧ HVa w All d cs e)) :
    CmpC 19 (fun w v e => ∃ cs, v = .agg cs.toArray ∧ HVa w All (d + 1) cs e) := by
  intro w v1 v2 x y i1 i2
  obtain ⟨cs, rfl, kv, rfl, _, _, _, f0⟩ := i1
  obtain ⟨cs, rfl, kv', rfl, _, _, _, f0'⟩ := i2
  obtain ⟨kx, nx, tx, es⟩ := x
  obtain ⟨ky, ny, ty, fs⟩ := y
  simp only [Va.kind, Va.n, Va.text, Va.kids] at *
  obtain ⟨p, cap, rfl, hcl, hcm, hx⟩ := f0
  obtain ⟨q, cap', rfl, hcl', hcm', hy⟩ := f0'
  have HB0 : es.length ≤ 9223372036854775807 := by unfold maxLen at hcm; omega
  have HB1 : fs.length ≤ 9223372036854775807 := by unfold maxLen at hcm'; omega
  generalize hm : fs.length = m at *
  have HM : Hid (fs.length = m) := hm
  generalize hn : es.length = n at *
  have HN : Hid (es.length = n) := hn
  have HX : Hid (es ≠ [] → ∃ g off, p = some ⟨g, off, none⟩ ∧ All g ∧ g < w.heap.size ∧ ∀ i x, es[i]? = some x → ∃ cs, cs.length = 4 ∧ (∀ j, j < 4 → w.cell? ⟨g, off + i * 4 + j, none⟩ = cs[j]?) ∧ HVa w All d cs x) := hx
  have HY : Hid (fs ≠ [] → ∃ g off, q = some ⟨g, off, none⟩ ∧ All g ∧ g < w.heap.size ∧ ∀ i x, fs[i]? = some x → ∃ cs, cs.length = 4 ∧ (∀ j, j < 4 → w.cell? ⟨g, off + i * 4 + j, none⟩ = cs[j]?) ∧ HVa w All d cs x) := hy
  clear hm hn hx hy
  by_cases c_k : kx = ky
  case neg =>
    have HS : Hid (sameB (Va.mk kx nx tx es) (Va.mk ky ny ty fs) = false) := sameB_false (by intro e; injection e; contradiction)
    go_enter Tryz.func19, Tryz.ntmps19
    go_wp2
    go_ret
    exact ⟨by rw [HS.out]; rfl, ((Below.refl _ _).alloc (Nat.le_refl _) _).alloc (by simp) _⟩
  subst c_k
  by_cases c_n : nx = ny
  case neg =>
    have HS : Hid (sameB (Va.mk kx nx tx es) (Va.mk kx ny ty fs) = false) := sameB_false (by intro e; injection e; contradiction)
    go_enter Tryz.func19, Tryz.ntmps19
    go_wp2
    go_ret
    exact ⟨by rw [HS.out]; rfl, ((Below.refl _ _).alloc (Nat.le_refl _) _).alloc (by simp) _⟩
  subst c_n
  by_cases c_t : tx = ty
  case neg =>
    have HS : Hid (sameB (Va.mk kx nx tx es) (Va.mk kx nx ty fs) = false) := sameB_false (by intro e; injection e; contradiction)
    have hq1 := str_ne c_t
    have hq2 := str_neB c_t
    go_enter Tryz.func19, Tryz.ntmps19
    go_wp2
    go_ret
    exact ⟨by rw [HS.out]; rfl, ((Below.refl _ _).alloc (Nat.le_refl _) _).alloc (by simp) _⟩
  subst c_t
  by_cases hnm : n = m
  case neg =>
    have HS : Hid (sameB (Va.mk kx nx tx es) (Va.mk kx nx tx fs) = false) := sameB_false (by intro e; injection e with _ _ _ e; exact hnm (by rw [← HN.out, ← HM.out, e]))
    go_enter Tryz.func19, Tryz.ntmps19
    go_wp2
    go_ret
    exact ⟨by rw [HS.out]; rfl, ((Below.refl _ _).alloc (Nat.le_refl _) _).alloc (by simp) _⟩
  subst hnm
  have bA := (Blk.new (w := w) (cs := #[.int .i64 kx, .int .i64 nx, .string tx, .slice p n cap]) (t := 26)).alloc (o := .cells #[.int .i64 kx, .int .i64 nx, .string tx, .slice q n cap'] 26)
  have bB := (Blk.new (w := w.alloc (.cells #[.int .i64 kx, .int .i64 nx, .string tx, .slice p n cap] 26)) (cs := #[.int .i64 kx, .int .i64 nx, .string tx, .slice q n cap']) (t := 26))
  simp only [alloc_hs] at bB
  have HBA : Hid (Blk ((w.alloc (.cells #[.int .i64 kx, .int .i64 nx, .string tx, .slice p n cap] 26)).alloc (.cells #[.int .i64 kx, .int .i64 nx, .string tx, .slice q n cap'] 26)) w.heap.size #[.int .i64 kx, .int .i64 nx, .string tx, .slice p n cap] 26) := bA
  have HBB : Hid (Blk ((w.alloc (.cells #[.int .i64 kx, .int .i64 nx, .string tx, .slice p n cap] 26)).alloc (.cells #[.int .i64 kx, .int .i64 nx, .string tx, .slice q n cap'] 26)) (w.heap.size + 1) #[.int .i64 kx, .int .i64 nx, .string tx, .slice q n cap'] 26) := bB
  have HA : Hid (Below w.heap.size w ((w.alloc (.cells #[.int .i64 kx, .int .i64 nx, .string tx, .slice p n cap] 26)).alloc (.cells #[.int .i64 kx, .int .i64 nx, .string tx, .slice q n cap'] 26))) := ((Below.refl _ _).alloc (Nat.le_refl _) _).alloc (by simp) _
  clear bA bB
  go_enter Tryz.func19, Tryz.ntmps19
  go_wp2
  go_loopw [5] (fun iv wr => ∃ k : Nat, k ≤ n ∧ iv = .int .i64 k ∧ Hid (es.take k = fs.take k) ∧ Hid (SameOn All ((w.alloc (.cells #[.int .i64 kx, .int .i64 nx, .string tx, .slice p n cap] 26)).alloc (.cells #[.int .i64 kx, .int .i64 nx, .string tx, .slice q n cap'] 26)) wr) ∧ Below w.heap.size w wr) (fun iv _ => n - (intOf iv).toNat)
  case atStart => exact ⟨0, Nat.zero_le _, rfl, by show _ = _; simp, ⟨Nat.le_refl _, fun _ _ _ => rfl⟩, HA.out⟩
  case round =>
    obtain ⟨k, hk, rfl, hsame, hso, hb⟩ := hrel
    have HB : Hid (Below w.heap.size w wr) := hb
    have KA : Blk wr w.heap.size #[.int .i64 kx, .int .i64 nx, .string tx, .slice p n cap] 26 := Blk.same_on HBA.out hso.out
    have KB : Blk wr (w.heap.size + 1) #[.int .i64 kx, .int .i64 nx, .string tx, .slice q n cap'] 26 := Blk.same_on HBB.out hso.out
    have hzA := KA.lt
    have hzB := KB.lt
    have xa := KA.cell 3 _ rfl
    have xb := KB.cell 3 _ rfl
    clear KA KB
    by_cases hlt : k < n
    · obtain ⟨x, hxk⟩ : ∃ x, es[k]? = some x := ⟨es[k]'(by rw [HN.out]; exact hlt), List.getElem?_eq_getElem _⟩
      obtain ⟨g, off, rfl, _, hgl, hat⟩ := HX.out (by intro h; rw [h] at hxk; simp at hxk)
      obtain ⟨cs, hcl6, hcs, r1⟩ := hat k x hxk
      have E1 : ∀ w', SameOn All wr w' → HVa w' All d cs x := fun w' hw => r1.mono (SameOn.trans (SameOn.of_below hb) hw) (fun _ h => h)
      obtain ⟨y, hyk⟩ : ∃ y, fs[k]? = some y := ⟨fs[k]'(by rw [HM.out]; exact hlt), List.getElem?_eq_getElem _⟩
      obtain ⟨g', off', rfl, _, hgl', hat'⟩ := HY.out (by intro h; rw [h] at hyk; simp at hyk)
      obtain ⟨cs', hcl6', hcs', r2⟩ := hat' k y hyk
      have E2 : ∀ w', SameOn All wr w' → HVa w' All d cs' y := fun w' hw => r2.mono (SameOn.trans (SameOn.of_below hb) hw) (fun _ h => h)
      obtain ⟨c0, c1, c2, c3, rfl⟩ := len4 hcl6
      obtain ⟨d0, d1, d2, d3, rfl⟩ := len4 hcl6'
      have a0 := hcs 0 (by omega)
      have a1 := hcs 1 (by omega)
      have a2 := hcs 2 (by omega)
      have a3 := hcs 3 (by omega)
      have b0 := hcs' 0 (by omega)
      have b1 := hcs' 1 (by omega)
      have b2 := hcs' 2 (by omega)
      have b3 := hcs' 3 (by omega)
      rw [← hb.cell (p := ⟨g, _, none⟩) hgl] at a0 a1 a2 a3
      rw [← hb.cell (p := ⟨g', _, none⟩) hgl'] at b0 b1 b2 b3
      simp at a0 a1 a2 a3 b0 b1 b2 b3
      have hgw : g < wr.heap.size := Nat.lt_of_lt_of_le hgl HB.out.size
      have hgw' : g' < wr.heap.size := Nat.lt_of_lt_of_le hgl' HB.out.size
      clear hb hcs hat hcl6 hcs' hat' hcl6' r1 r2
      have hki : (k : Int) < (n : Int) := by omega
      have hk0 : (0 : Int) ≤ (k : Int) := by omega
      have qxa : ∀ m' : Wd (fun w' => SameOn All wr w' ∧ Below w.heap.size w w'), m'.val.cell? ⟨w.heap.size, 3, none⟩ = some (.slice (some ⟨g, off, none⟩) n cap) := fun m' => (World.cell?_of_block (m'.ok.1.2 w.heap.size trivial hzA)).trans xa
      have qxb : ∀ m' : Wd (fun w' => SameOn All wr w' ∧ Below w.heap.size w w'), m'.val.cell? ⟨w.heap.size + 1, 3, none⟩ = some (.slice (some ⟨g', off', none⟩) n cap') := fun m' => (World.cell?_of_block (m'.ok.1.2 (w.heap.size + 1) trivial hzB)).trans xb
      have qa0 : ∀ m' : Wd (fun w' => SameOn All wr w' ∧ Below w.heap.size w w'), m'.val.cell? ⟨g, off + k * 4, none⟩ = some c0 := fun m' => (World.cell?_of_block (m'.ok.1.2 g trivial hgw)).trans a0
      have qb0 : ∀ m' : Wd (fun w' => SameOn All wr w' ∧ Below w.heap.size w w'), m'.val.cell? ⟨g', off' + k * 4, none⟩ = some d0 := fun m' => (World.cell?_of_block (m'.ok.1.2 g' trivial hgw')).trans b0
      have qa1 : ∀ m' : Wd (fun w' => SameOn All wr w' ∧ Below w.heap.size w w'), m'.val.cell? ⟨g, off + k * 4 + 1, none⟩ = some c1 := fun m' => (World.cell?_of_block (m'.ok.1.2 g trivial hgw)).trans a1
      have qb1 : ∀ m' : Wd (fun w' => SameOn All wr w' ∧ Below w.heap.size w w'), m'.val.cell? ⟨g', off' + k * 4 + 1, none⟩ = some d1 := fun m' => (World.cell?_of_block (m'.ok.1.2 g' trivial hgw')).trans b1
      have qa2 : ∀ m' : Wd (fun w' => SameOn All wr w' ∧ Below w.heap.size w w'), m'.val.cell? ⟨g, off + k * 4 + 2, none⟩ = some c2 := fun m' => (World.cell?_of_block (m'.ok.1.2 g trivial hgw)).trans a2
      have qb2 : ∀ m' : Wd (fun w' => SameOn All wr w' ∧ Below w.heap.size w w'), m'.val.cell? ⟨g', off' + k * 4 + 2, none⟩ = some d2 := fun m' => (World.cell?_of_block (m'.ok.1.2 g' trivial hgw')).trans b2
      have qa3 : ∀ m' : Wd (fun w' => SameOn All wr w' ∧ Below w.heap.size w w'), m'.val.cell? ⟨g, off + k * 4 + 3, none⟩ = some c3 := fun m' => (World.cell?_of_block (m'.ok.1.2 g trivial hgw)).trans a3
      have qb3 : ∀ m' : Wd (fun w' => SameOn All wr w' ∧ Below w.heap.size w w'), m'.val.cell? ⟨g', off' + k * 4 + 3, none⟩ = some d3 := fun m' => (World.cell?_of_block (m'.ok.1.2 g' trivial hgw')).trans b3
      by_cases hz : x = y
      · have HCE : Hid (sameB x y = true) := sameB_true hz
        have HTK : Hid (es.take (k + 1) = fs.take (k + 1)) := take_eq_succ hsame.out hxk hyk hz
        clear hz
        go_wp2
        have hCne : Nonempty (Wd (fun w' => SameOn All wr w' ∧ Below w.heap.size w w')) := ⟨⟨wr.drew, ⟨⟨Nat.le_refl _, fun _ _ _ => rfl⟩, HB.out.drew⟩⟩⟩
        refine wp_region_class (fun w' => SameOn All wr w' ∧ Below w.heap.size w w') (by kernel_rfl) (by kernel_rfl) ⟨⟨Nat.le_refl _, fun _ _ _ => rfl⟩, HB.out.drew⟩ ?_
        repeat (go_big_quiet_step (first | (rename_i m'; go_at_call 19; refine (hE _ _ _ x y ⟨_, rfl, E1 _ m'.ok.1⟩ ⟨_, rfl, E2 _ m'.ok.1⟩).mono ?_; rintro e w1 ⟨rfl, hb1⟩; exact ⟨by rw [HCE.out], ⟨⟨w1, ⟨(SameOn.trans m'.ok.1 (SameOn.of_below hb1)), m'.ok.2.trans (hb1.mono m'.ok.2.size)⟩⟩, rfl⟩⟩)))
        refine wpQuiet_nil ?_
        rintro _ ⟨mq, rfl⟩
        have hbe := mq.ok.2
        have hse := mq.ok.1
        generalize mq.val = wq at hbe hse ⊢
        go_wp2
        exact ⟨⟨k + 1, by omega, by go_num, HTK, hso.out.trans hse, hbe⟩, by simp [intOf]; omega⟩
      · have HCE : Hid (sameB x y = false) := sameB_false hz
        have HS : Hid (sameB (Va.mk kx nx tx es) (Va.mk kx nx tx fs) = false) := sameB_false (by intro e; injection e with _ _ _ e; exact ne_of_at hxk hyk hz e)
        clear hz
        go_wp2
        have hCne : Nonempty (Wd (fun w' => SameOn All wr w' ∧ Below w.heap.size w w')) := ⟨⟨wr.drew, ⟨⟨Nat.le_refl _, fun _ _ _ => rfl⟩, HB.out.drew⟩⟩⟩
        refine wp_region_class (fun w' => SameOn All wr w' ∧ Below w.heap.size w w') (by kernel_rfl) (by kernel_rfl) ⟨⟨Nat.le_refl _, fun _ _ _ => rfl⟩, HB.out.drew⟩ ?_
        repeat (go_big_quiet_step (first | (rename_i m'; go_at_call 19; refine (hE _ _ _ x y ⟨_, rfl, E1 _ m'.ok.1⟩ ⟨_, rfl, E2 _ m'.ok.1⟩).mono ?_; rintro e w1 ⟨rfl, hb1⟩; exact ⟨by rw [HCE.out], ⟨⟨w1, ⟨(SameOn.trans m'.ok.1 (SameOn.of_below hb1)), m'.ok.2.trans (hb1.mono m'.ok.2.size)⟩⟩, rfl⟩⟩)))
        refine wpQuiet_nil ?_
        rintro _ ⟨mq, rfl⟩
        have hbe := mq.ok.2
        have hse := mq.ok.1
        generalize mq.val = wq at hbe hse ⊢
        go_wp2
        go_ret
        exact ⟨by rw [HS.out]; rfl, hbe⟩
    · have HS : Hid (sameB (Va.mk kx nx tx es) (Va.mk kx nx tx fs) = true) := sameB_true (by
        have := hsame.out
        rw [List.take_of_length_le (by rw [HN.out]; omega), List.take_of_length_le (by rw [HM.out]; omega)] at this
        rw [this])
      clear hb
      go_wp2
      go_ret
      exact ⟨by rw [HS.out]; rfl, HB.out⟩

/-- THE LAWS' sameVal. -/
theorem sameVal_law : ∀ d, CmpC 19 (fun w v e => ∃ cs, v = .agg cs.toArray ∧ HVa w All d cs e)
  | 0 => fun w v v' x y ⟨_, _, h⟩ _ => h.elim
  | d + 1 => sameVal_of (sameVal_law d)

set_option maxHeartbeats 8000000 in
/-- THE LAWS' sameEnv. -/
theorem sameEnv_law (d : Nat) : CmpC 20 (fun w v es => Rows w All 5 (HBd w All d) v es) := by
  have hE := sameVal_law d
  intro w v1 v2 es fs h1 h2
  obtain ⟨p, cap, rfl, hcl, hcm, hx⟩ := h1
  obtain ⟨q, cap', rfl, hcl', hcm', hy⟩ := h2
  have HB0 : es.length ≤ 9223372036854775807 := by unfold maxLen at hcm; omega
  have HB1 : fs.length ≤ 9223372036854775807 := by unfold maxLen at hcm'; omega
  generalize hm : fs.length = m at *
  have HM : Hid (fs.length = m) := hm
  generalize hn : es.length = n at *
  have HN : Hid (es.length = n) := hn
  have HX : Hid (es ≠ [] → ∃ g off, p = some ⟨g, off, none⟩ ∧ All g ∧ g < w.heap.size ∧ ∀ i x, es[i]? = some x → ∃ cs, cs.length = 5 ∧ (∀ j, j < 5 → w.cell? ⟨g, off + i * 5 + j, none⟩ = cs[j]?) ∧ HBd w All d cs x) := hx
  have HY : Hid (fs ≠ [] → ∃ g off, q = some ⟨g, off, none⟩ ∧ All g ∧ g < w.heap.size ∧ ∀ i x, fs[i]? = some x → ∃ cs, cs.length = 5 ∧ (∀ j, j < 5 → w.cell? ⟨g, off + i * 5 + j, none⟩ = cs[j]?) ∧ HBd w All d cs x) := hy
  clear hm hn hx hy
  by_cases hnm : n = m
  case neg =>
    have HS : Hid (sameB es fs = false) := sameB_false (by intro e; exact hnm (by rw [← HN.out, ← HM.out, e]))
    go_enter Tryz.func20, Tryz.ntmps20
    go_wp2
    go_ret
    exact ⟨by rw [HS.out]; rfl, Below.refl _ _⟩
  subst hnm
  go_enter Tryz.func20, Tryz.ntmps20
  go_wp2
  go_loopw [5] (fun iv wr => ∃ k : Nat, k ≤ n ∧ iv = .int .i64 k ∧ Hid (es.take k = fs.take k) ∧ Below w.heap.size w wr) (fun iv _ => n - (intOf iv).toNat)
  case atStart => exact ⟨0, Nat.zero_le _, rfl, by show _ = _; simp, Below.refl _ _⟩
  case round =>
    obtain ⟨k, hk, rfl, hsame, hb⟩ := hrel
    have HB : Hid (Below w.heap.size w wr) := hb
    by_cases hlt : k < n
    · obtain ⟨x, hxk⟩ : ∃ x, es[k]? = some x := ⟨es[k]'(by rw [HN.out]; exact hlt), List.getElem?_eq_getElem _⟩
      obtain ⟨g, off, rfl, _, hgl, hat⟩ := HX.out (by intro h; rw [h] at hxk; simp at hxk)
      obtain ⟨cs, hcl6, hcs, vs, rfl, hxs, r1⟩ := hat k x hxk
      have E1 : ∀ w', SameOn All wr w' → HVa w' All d vs x.val := fun w' hw => r1.mono (SameOn.trans (SameOn.of_below hb) hw) (fun _ h => h)
      obtain ⟨y, hyk⟩ : ∃ y, fs[k]? = some y := ⟨fs[k]'(by rw [HM.out]; exact hlt), List.getElem?_eq_getElem _⟩
      obtain ⟨g', off', rfl, _, hgl', hat'⟩ := HY.out (by intro h; rw [h] at hyk; simp at hyk)
      obtain ⟨cs', hcl6', hcs', vs', rfl, hys, r2⟩ := hat' k y hyk
      have E2 : ∀ w', SameOn All wr w' → HVa w' All d vs' y.val := fun w' hw => r2.mono (SameOn.trans (SameOn.of_below hb) hw) (fun _ h => h)
      obtain ⟨c1, c2, c3, c4, rfl⟩ := len4 (by simpa using hcl6)
      obtain ⟨d1, d2, d3, d4, rfl⟩ := len4 (by simpa using hcl6')
      have a0 := hcs 0 (by omega)
      have a1 := hcs 1 (by omega)
      have a2 := hcs 2 (by omega)
      have a3 := hcs 3 (by omega)
      have a4 := hcs 4 (by omega)
      have b0 := hcs' 0 (by omega)
      have b1 := hcs' 1 (by omega)
      have b2 := hcs' 2 (by omega)
      have b3 := hcs' 3 (by omega)
      have b4 := hcs' 4 (by omega)
      rw [← hb.cell (p := ⟨g, _, none⟩) hgl] at a0 a1 a2 a3 a4
      rw [← hb.cell (p := ⟨g', _, none⟩) hgl'] at b0 b1 b2 b3 b4
      simp at a0 a1 a2 a3 a4 b0 b1 b2 b3 b4
      have hgw : g < wr.heap.size := Nat.lt_of_lt_of_le hgl HB.out.size
      have hgw' : g' < wr.heap.size := Nat.lt_of_lt_of_le hgl' HB.out.size
      obtain ⟨xn, xv⟩ := x
      obtain ⟨yn, yv⟩ := y
      simp only at *
      clear hb hcs hat hcl6 hcs' hat' hcl6' r1 r2 hxs hys
      have hki : (k : Int) < (n : Int) := by omega
      have hk0 : (0 : Int) ≤ (k : Int) := by omega
      have qa1 : ∀ m' : Wd (fun w' => SameOn All wr w' ∧ Below w.heap.size w w'), m'.val.cell? ⟨g, off + k * 5 + 1, none⟩ = some c1 := fun m' => (World.cell?_of_block (m'.ok.1.2 g trivial hgw)).trans a1
      have qb1 : ∀ m' : Wd (fun w' => SameOn All wr w' ∧ Below w.heap.size w w'), m'.val.cell? ⟨g', off' + k * 5 + 1, none⟩ = some d1 := fun m' => (World.cell?_of_block (m'.ok.1.2 g' trivial hgw')).trans b1
      have qa2 : ∀ m' : Wd (fun w' => SameOn All wr w' ∧ Below w.heap.size w w'), m'.val.cell? ⟨g, off + k * 5 + 2, none⟩ = some c2 := fun m' => (World.cell?_of_block (m'.ok.1.2 g trivial hgw)).trans a2
      have qb2 : ∀ m' : Wd (fun w' => SameOn All wr w' ∧ Below w.heap.size w w'), m'.val.cell? ⟨g', off' + k * 5 + 2, none⟩ = some d2 := fun m' => (World.cell?_of_block (m'.ok.1.2 g' trivial hgw')).trans b2
      have qa3 : ∀ m' : Wd (fun w' => SameOn All wr w' ∧ Below w.heap.size w w'), m'.val.cell? ⟨g, off + k * 5 + 3, none⟩ = some c3 := fun m' => (World.cell?_of_block (m'.ok.1.2 g trivial hgw)).trans a3
      have qb3 : ∀ m' : Wd (fun w' => SameOn All wr w' ∧ Below w.heap.size w w'), m'.val.cell? ⟨g', off' + k * 5 + 3, none⟩ = some d3 := fun m' => (World.cell?_of_block (m'.ok.1.2 g' trivial hgw')).trans b3
      have qa4 : ∀ m' : Wd (fun w' => SameOn All wr w' ∧ Below w.heap.size w w'), m'.val.cell? ⟨g, off + k * 5 + 4, none⟩ = some c4 := fun m' => (World.cell?_of_block (m'.ok.1.2 g trivial hgw)).trans a4
      have qb4 : ∀ m' : Wd (fun w' => SameOn All wr w' ∧ Below w.heap.size w w'), m'.val.cell? ⟨g', off' + k * 5 + 4, none⟩ = some d4 := fun m' => (World.cell?_of_block (m'.ok.1.2 g' trivial hgw')).trans b4
      have qa0 : ∀ m' : Wd (fun w' => SameOn All wr w' ∧ Below w.heap.size w w'), m'.val.cell? ⟨g, off + k * 5, none⟩ = some (.string xn) := fun m' => (World.cell?_of_block (m'.ok.1.2 g trivial hgw)).trans a0
      have qb0 : ∀ m' : Wd (fun w' => SameOn All wr w' ∧ Below w.heap.size w w'), m'.val.cell? ⟨g', off' + k * 5, none⟩ = some (.string yn) := fun m' => (World.cell?_of_block (m'.ok.1.2 g' trivial hgw')).trans b0
      by_cases hnn : xn = yn
      case neg =>
        have HS : Hid (sameB es fs = false) := sameB_false (ne_of_at hxk hyk (by intro e; injection e; contradiction))
        have hq1 := str_ne hnn
        have hq2 := str_neB hnn
        have HCE : Hid (sameB xv yv = sameB xv yv) := rfl
        go_wp2
        have hCne : Nonempty (Wd (fun w' => SameOn All wr w' ∧ Below w.heap.size w w')) := ⟨⟨wr.drew, ⟨⟨Nat.le_refl _, fun _ _ _ => rfl⟩, HB.out.drew⟩⟩⟩
        refine wp_region_class (fun w' => SameOn All wr w' ∧ Below w.heap.size w w') (by kernel_rfl) (by kernel_rfl) ⟨⟨Nat.le_refl _, fun _ _ _ => rfl⟩, HB.out.drew⟩ ?_
        repeat (go_big_quiet_step (first | (rename_i m'; go_at_call 19; refine (hE _ _ _ xv yv ⟨_, rfl, E1 _ m'.ok.1⟩ ⟨_, rfl, E2 _ m'.ok.1⟩).mono ?_; rintro e w1 ⟨rfl, hb1⟩; exact ⟨by rw [HCE.out], ⟨⟨w1, ⟨(SameOn.trans m'.ok.1 (SameOn.of_below hb1)), m'.ok.2.trans (hb1.mono m'.ok.2.size)⟩⟩, rfl⟩⟩)))
        refine wpQuiet_nil ?_
        rintro _ ⟨mq, rfl⟩
        have hbe := mq.ok.2
        have hse := mq.ok.1
        generalize mq.val = wq at hbe hse ⊢
        go_wp2
        go_ret
        exact ⟨by rw [HS.out]; rfl, hbe⟩
      subst hnn
      by_cases hz : xv = yv
      · have HCE : Hid (sameB xv yv = true) := sameB_true hz
        have HTK : Hid (es.take (k + 1) = fs.take (k + 1)) := take_eq_succ hsame.out hxk hyk (by rw [hz])
        clear hz
        go_wp2
        have hCne : Nonempty (Wd (fun w' => SameOn All wr w' ∧ Below w.heap.size w w')) := ⟨⟨wr.drew, ⟨⟨Nat.le_refl _, fun _ _ _ => rfl⟩, HB.out.drew⟩⟩⟩
        refine wp_region_class (fun w' => SameOn All wr w' ∧ Below w.heap.size w w') (by kernel_rfl) (by kernel_rfl) ⟨⟨Nat.le_refl _, fun _ _ _ => rfl⟩, HB.out.drew⟩ ?_
        repeat (go_big_quiet_step (first | (rename_i m'; go_at_call 19; refine (hE _ _ _ xv yv ⟨_, rfl, E1 _ m'.ok.1⟩ ⟨_, rfl, E2 _ m'.ok.1⟩).mono ?_; rintro e w1 ⟨rfl, hb1⟩; exact ⟨by rw [HCE.out], ⟨⟨w1, ⟨(SameOn.trans m'.ok.1 (SameOn.of_below hb1)), m'.ok.2.trans (hb1.mono m'.ok.2.size)⟩⟩, rfl⟩⟩)))
        refine wpQuiet_nil ?_
        rintro _ ⟨mq, rfl⟩
        have hbe := mq.ok.2
        have hse := mq.ok.1
        generalize mq.val = wq at hbe hse ⊢
        go_wp2
        exact ⟨⟨k + 1, by omega, by go_num, HTK, hbe⟩, by simp [intOf]; omega⟩
      · have HCE : Hid (sameB xv yv = false) := sameB_false hz
        have HS : Hid (sameB es fs = false) := sameB_false (ne_of_at hxk hyk (by intro e; injection e; contradiction))
        clear hz
        go_wp2
        have hCne : Nonempty (Wd (fun w' => SameOn All wr w' ∧ Below w.heap.size w w')) := ⟨⟨wr.drew, ⟨⟨Nat.le_refl _, fun _ _ _ => rfl⟩, HB.out.drew⟩⟩⟩
        refine wp_region_class (fun w' => SameOn All wr w' ∧ Below w.heap.size w w') (by kernel_rfl) (by kernel_rfl) ⟨⟨Nat.le_refl _, fun _ _ _ => rfl⟩, HB.out.drew⟩ ?_
        repeat (go_big_quiet_step (first | (rename_i m'; go_at_call 19; refine (hE _ _ _ xv yv ⟨_, rfl, E1 _ m'.ok.1⟩ ⟨_, rfl, E2 _ m'.ok.1⟩).mono ?_; rintro e w1 ⟨rfl, hb1⟩; exact ⟨by rw [HCE.out], ⟨⟨w1, ⟨(SameOn.trans m'.ok.1 (SameOn.of_below hb1)), m'.ok.2.trans (hb1.mono m'.ok.2.size)⟩⟩, rfl⟩⟩)))
        refine wpQuiet_nil ?_
        rintro _ ⟨mq, rfl⟩
        have hbe := mq.ok.2
        have hse := mq.ok.1
        generalize mq.val = wq at hbe hse ⊢
        go_wp2
        go_ret
        exact ⟨by rw [HS.out]; rfl, hbe⟩
    · have HS : Hid (sameB es fs = true) := sameB_true (by
        have := hsame.out
        rwa [List.take_of_length_le (by rw [HN.out]; omega), List.take_of_length_le (by rw [HM.out]; omega)] at this)
      clear hb
      go_wp2
      go_ret
      exact ⟨by rw [HS.out]; rfl, HB.out⟩
end Go.Proofs.YtmnghlkkfkpjhaaGreatDoor
/-
  The specification's Reckon, by contract.
-/
namespace Go.Proofs.YtmnghlkkfkpjhaaGreatDoor
open Go.ChangeShapes Go.WideShapes Go.ChangeAt Go.RowKit
set_option linter.unusedVariables false

def trueB : ByteArray := ⟨#[116, 114, 117, 101]⟩
def falseB : ByteArray := ⟨#[102, 97, 108, 115, 101]⟩
/-- What Reckon answers: the number, the kind, the text; and whether it can. -/
def reck (d : Nat) (op : List UInt8) (x y : Va) : (Int × Int × ByteArray) × Bool :=
  if op = [61, 61] then ((1, 0, if cmpVa d x y = 0 then trueB else falseB), true)
  else if op = [60] then ((1, 0, if cmpVa d x y < 0 then trueB else falseB), true)
  else if x.kind ≠ 0 ∨ y.kind ≠ 0 then ((0, 0, ⟨#[]⟩), false)
  else if op = [43] then ((0, wrap64 (x.n + y.n), ⟨#[]⟩), true)
  else if op = [45] then ((0, wrap64 (x.n - y.n), ⟨#[]⟩), true)
  else if op = [42] then ((0, wrap64 (x.n * y.n), ⟨#[]⟩), true)
  else ((0, 0, ⟨#[]⟩), false)
def reckE (r : (Int × Int × ByteArray) × Bool) : Value := .tuple #[.agg #[.int .i64 r.1.1, .int .i64 r.1.2.1, .string r.1.2.2, .slice none 0 0], .bool r.2]

theorem HVa.scal {w : World} {S : Nat → Prop} {d : Nat} {k n : Int} {t : ByteArray} {v : Value} {x : Va} (h : HVa w S d [.int .i64 k, .int .i64 n, .string t, v] x) : x.kind = k ∧ x.n = n := by
  cases d with
  | zero => exact h.elim
  | succ d =>
    obtain ⟨kv, h, -⟩ := h
    simp only [List.cons.injEq, Value.int.injEq, true_and, and_true] at h
    exact ⟨h.1.symm, h.2.1.symm⟩
theorem lst_ne {a b : List UInt8} (h : ¬ a = b) : (a == b) = false := by simpa using h
theorem lst_eq {a b : List UInt8} (h : a = b) : (a == b) = true := by simpa using h

theorem l03Bool_any (b : Bool) (w : World) : Calls Tryz.prog 47 #[.bool b] w fun e w' => e = .returned (.agg #[.int .i64 1, .int .i64 0, .string (if b = true then trueB else falseB), .slice none 0 0]) ∧ Below w.heap.size w w' := by
  cases b with
  | true =>
    go_enter Tryz.func47, Tryz.ntmps47
    go_wp2
    exact bodyPost_ret (v := .agg #[.int .i64 1, .int .i64 0, .string trueB, .slice none 0 0]) (by simp [results, Tryz.results47, go_sem, trueB]) rfl ⟨rfl, (Below.refl _ _).alloc (Nat.le_refl _) _⟩
  | false =>
    go_enter Tryz.func47, Tryz.ntmps47
    go_wp2
    exact bodyPost_ret (v := .agg #[.int .i64 1, .int .i64 0, .string falseB, .slice none 0 0]) (by simp [results, Tryz.results47, go_sem, falseB]) rfl ⟨rfl, (Below.refl _ _).alloc (Nat.le_refl _) _⟩

set_option maxHeartbeats 4000000 in
set_option maxRecDepth 100000 in
theorem specReckon_any (d : Nat) (w : World) (op : ByteArray) (cs0 cs1 : List Value) (x y : Va) (h0 : HVa w All d cs0 x) (h1 : HVa w All d cs1 y) :
    Calls Tryz.prog 15 #[.string op, .agg cs0.toArray, .agg cs1.toArray] w fun e w' => e = .returned (reckE (reck d op.toList x y)) ∧ Below w.heap.size w w' := by
  obtain ⟨kx, nx, tx, p, l, c, rfl⟩ := h0.shape
  obtain ⟨ky, ny, ty, q, m, e_, rfl⟩ := h1.shape
  obtain ⟨hkx, hnx⟩ := h0.scal
  obtain ⟨hky, hny⟩ := h1.scal
  have G0 : ∀ w', Below w.heap.size w w' → HVa w' All d [.int .i64 kx, .int .i64 nx, .string tx, .slice p l c] x := fun w' hw => h0.mono (SameOn.of_below hw) (fun _ h => h)
  have G1 : ∀ w', Below w.heap.size w w' → HVa w' All d [.int .i64 ky, .int .i64 ny, .string ty, .slice q m e_] y := fun w' hw => h1.mono (SameOn.of_below hw) (fun _ h => h)
  obtain ⟨W3, hW3⟩ : ∃ W3, W3 = (((w.alloc (.cells #[.int .i64 kx, .int .i64 nx, .string tx, .slice p l c] 26)).alloc (.cells #[.int .i64 ky, .int .i64 ny, .string ty, .slice q m e_] 26)).alloc (.cells #[.int .i64 0, .int .i64 0, .string ⟨#[]⟩, .slice none 0 0] 26)) := ⟨_, rfl⟩
  have bA : Hid (Blk W3 w.heap.size #[.int .i64 kx, .int .i64 nx, .string tx, .slice p l c] 26) := by show Blk _ _ _ _; rw [hW3]; exact Blk.new.alloc.alloc
  have bB : Hid (Blk W3 (w.heap.size + 1) #[.int .i64 ky, .int .i64 ny, .string ty, .slice q m e_] 26) := by
    show Blk _ _ _ _
    rw [hW3]
    have := (Blk.new (w := (w.alloc (.cells #[.int .i64 kx, .int .i64 nx, .string tx, .slice p l c] 26))) (cs := #[.int .i64 ky, .int .i64 ny, .string ty, .slice q m e_]) (t := 26)).alloc (o := .cells #[.int .i64 0, .int .i64 0, .string ⟨#[]⟩, .slice none 0 0] 26)
    simp only [alloc_hs] at this
    exact this
  have bR : Hid (Blk W3 (w.heap.size + 1 + 1) #[.int .i64 0, .int .i64 0, .string ⟨#[]⟩, .slice none 0 0] 26) := by
    show Blk _ _ _ _
    rw [hW3]
    have := Blk.new (w := ((w.alloc (.cells #[.int .i64 kx, .int .i64 nx, .string tx, .slice p l c] 26)).alloc (.cells #[.int .i64 ky, .int .i64 ny, .string ty, .slice q m e_] 26))) (cs := #[.int .i64 0, .int .i64 0, .string ⟨#[]⟩, .slice none 0 0]) (t := 26)
    simp only [alloc_hs] at this
    exact this
  have B3 : Hid (Below w.heap.size w W3) := by show Below _ _ _; rw [hW3]; exact (((Below.refl _ _).alloc (Nat.le_refl _) _).alloc (by simp only [alloc_hs]; omega) _).alloc (by simp only [alloc_hs]; omega) _
  have HW3 : Hid (W3 = (((w.alloc (.cells #[.int .i64 kx, .int .i64 nx, .string tx, .slice p l c] 26)).alloc (.cells #[.int .i64 ky, .int .i64 ny, .string ty, .slice q m e_] 26)).alloc (.cells #[.int .i64 0, .int .i64 0, .string ⟨#[]⟩, .slice none 0 0] 26))) := hW3
  clear hW3 h0 h1
  by_cases q1 : op.toList = [61, 61]
  · have e1 := lst_eq q1
    have R1 : reck d op.toList x y = ((1, 0, if cmpVa d x y = 0 then trueB else falseB), true) := by unfold reck; rw [if_pos q1]
    clear q1
    go_enter Tryz.func15, Tryz.ntmps15
    go_wp2_with fail
    rw [← HW3.out]
    refine (specCmp_all d _ _ _ x y ⟨_, rfl, G0 _ B3.out⟩ ⟨_, rfl, G1 _ B3.out⟩).mono ?_
    rintro e w4 ⟨rfl, hb4⟩
    have K4 : Hid (Below W3.heap.size W3 w4) := hb4
    clear hb4
    go_wp2_with fail
    refine (l03Bool_any _ _).mono ?_
    rintro e w5 ⟨rfl, hb5⟩
    have K5 : Hid (Below W3.heap.size W3 w5) := K4.out.trans (hb5.mono K4.out.size)
    clear hb5
    generalize ht : (if (cmpVa d x y == 0) = true then trueB else falseB) = tt at *
    have HS : Hid (reck d op.toList x y = ((1, 0, tt), true)) := by
      show _ = _
      rw [← ht, R1]; simp
    clear ht
    have b4 := bR.out.next K5.out
    have r0 := b4.cell 0 _ rfl
    have z0 := b4.frozen 0
    have r1 := b4.cell 1 _ rfl
    have z1 := b4.frozen 1
    have r2 := b4.cell 2 _ rfl
    have z2 := b4.frozen 2
    have r3 := b4.cell 3 _ rfl
    have z3 := b4.frozen 3
    have bF : Blk ((((w5.setCell ⟨w.heap.size + 1 + 1, 0, none⟩ (.int .i64 1)).setCell ⟨w.heap.size + 1 + 1, 1, none⟩ (.int .i64 0)).setCell ⟨w.heap.size + 1 + 1, 2, none⟩ (.string tt)).setCell ⟨w.heap.size + 1 + 1, 3, none⟩ (.slice none 0 0)) (w.heap.size + 1 + 1) #[.int .i64 1, .int .i64 0, .string tt, .slice none 0 0] 26 := (((b4.same (j := 0) (v := .int .i64 1) rfl).same (j := 1) (v := .int .i64 0) rfl).same (j := 2) (v := .string tt) rfl).same (j := 3) (v := .slice none 0 0) rfl
    have c0 := bF.cell 0 _ rfl
    have c1 := bF.cell 1 _ rfl
    have c2 := bF.cell 2 _ rfl
    have c3 := bF.cell 3 _ rfl
    have HBF : Hid (Below w.heap.size w ((((w5.setCell ⟨w.heap.size + 1 + 1, 0, none⟩ (.int .i64 1)).setCell ⟨w.heap.size + 1 + 1, 1, none⟩ (.int .i64 0)).setCell ⟨w.heap.size + 1 + 1, 2, none⟩ (.string tt)).setCell ⟨w.heap.size + 1 + 1, 3, none⟩ (.slice none 0 0))) := Below.setCell (Below.setCell (Below.setCell (Below.setCell (B3.out.trans (K5.out.mono B3.out.size)) (by show _ ≤ w.heap.size + 1 + 1; omega) _) (by show _ ≤ w.heap.size + 1 + 1; omega) _) (by show _ ≤ w.heap.size + 1 + 1; omega) _) (by show _ ≤ w.heap.size + 1 + 1; omega) _
    clear b4 bF
    go_wp2_with fail
    exact bodyPost_ret (v := .tuple #[.agg #[.int .i64 1, .int .i64 0, .string tt, .slice none 0 0], .bool true]) (by simp [results, Tryz.results15, go_sem, c0, c1, c2, c3]) rfl ⟨by rw [HS.out]; rfl, HBF.out⟩
  have e1 := lst_ne q1
  by_cases q2 : op.toList = [60]
  · have e2 := lst_eq q2
    have R1 : reck d op.toList x y = ((1, 0, if cmpVa d x y < 0 then trueB else falseB), true) := by unfold reck; rw [if_neg q1, if_pos q2]
    clear q1 q2
    go_enter Tryz.func15, Tryz.ntmps15
    go_wp2_with fail
    rw [← HW3.out]
    refine (specCmp_all d _ _ _ x y ⟨_, rfl, G0 _ B3.out⟩ ⟨_, rfl, G1 _ B3.out⟩).mono ?_
    rintro e w4 ⟨rfl, hb4⟩
    have K4 : Hid (Below W3.heap.size W3 w4) := hb4
    clear hb4
    go_wp2_with fail
    refine (l03Bool_any _ _).mono ?_
    rintro e w5 ⟨rfl, hb5⟩
    have K5 : Hid (Below W3.heap.size W3 w5) := K4.out.trans (hb5.mono K4.out.size)
    clear hb5
    generalize ht : (if decide (cmpVa d x y < 0) = true then trueB else falseB) = tt at *
    have HS : Hid (reck d op.toList x y = ((1, 0, tt), true)) := by
      show _ = _
      rw [← ht, R1]; simp
    clear ht
    have b4 := bR.out.next K5.out
    have r0 := b4.cell 0 _ rfl
    have z0 := b4.frozen 0
    have r1 := b4.cell 1 _ rfl
    have z1 := b4.frozen 1
    have r2 := b4.cell 2 _ rfl
    have z2 := b4.frozen 2
    have r3 := b4.cell 3 _ rfl
    have z3 := b4.frozen 3
    have bF : Blk ((((w5.setCell ⟨w.heap.size + 1 + 1, 0, none⟩ (.int .i64 1)).setCell ⟨w.heap.size + 1 + 1, 1, none⟩ (.int .i64 0)).setCell ⟨w.heap.size + 1 + 1, 2, none⟩ (.string tt)).setCell ⟨w.heap.size + 1 + 1, 3, none⟩ (.slice none 0 0)) (w.heap.size + 1 + 1) #[.int .i64 1, .int .i64 0, .string tt, .slice none 0 0] 26 := (((b4.same (j := 0) (v := .int .i64 1) rfl).same (j := 1) (v := .int .i64 0) rfl).same (j := 2) (v := .string tt) rfl).same (j := 3) (v := .slice none 0 0) rfl
    have c0 := bF.cell 0 _ rfl
    have c1 := bF.cell 1 _ rfl
    have c2 := bF.cell 2 _ rfl
    have c3 := bF.cell 3 _ rfl
    have HBF : Hid (Below w.heap.size w ((((w5.setCell ⟨w.heap.size + 1 + 1, 0, none⟩ (.int .i64 1)).setCell ⟨w.heap.size + 1 + 1, 1, none⟩ (.int .i64 0)).setCell ⟨w.heap.size + 1 + 1, 2, none⟩ (.string tt)).setCell ⟨w.heap.size + 1 + 1, 3, none⟩ (.slice none 0 0))) := Below.setCell (Below.setCell (Below.setCell (Below.setCell (B3.out.trans (K5.out.mono B3.out.size)) (by show _ ≤ w.heap.size + 1 + 1; omega) _) (by show _ ≤ w.heap.size + 1 + 1; omega) _) (by show _ ≤ w.heap.size + 1 + 1; omega) _) (by show _ ≤ w.heap.size + 1 + 1; omega) _
    clear b4 bF
    go_wp2_with fail
    exact bodyPost_ret (v := .tuple #[.agg #[.int .i64 1, .int .i64 0, .string tt, .slice none 0 0], .bool true]) (by simp [results, Tryz.results15, go_sem, c0, c1, c2, c3]) rfl ⟨by rw [HS.out]; rfl, HBF.out⟩
  have e2 := lst_ne q2
  clear bA bB bR B3 HW3 G0 G1
  by_cases k1 : kx = 0
  · by_cases k2 : ky = 0
    · have hk : ¬ (x.kind ≠ 0 ∨ y.kind ≠ 0) := by rw [hkx, hky]; simp [k1, k2]
      by_cases q3 : op.toList = [43]
      · have e3 := lst_eq q3
        have HS : Hid (reck d op.toList x y = ((0, wrap64 (nx + ny), ⟨#[]⟩), true)) := by show _ = _; unfold reck; rw [if_neg q1, if_neg q2, if_neg hk, if_pos q3, hnx, hny]
        clear q1 q2 q3 hk
        go_enter Tryz.func15, Tryz.ntmps15
        go_wp2
        exact bodyPost_ret (v := .tuple #[.agg #[.int .i64 0, .int .i64 (wrap64 (nx + ny)), .string ⟨#[]⟩, .slice none 0 0], .bool true]) (by simp [results, Tryz.results15, go_sem]) rfl ⟨by rw [HS.out]; rfl, (((Below.refl _ _).alloc (Nat.le_refl _) _).alloc (by simp only [alloc_hs]; omega) _).alloc (by simp only [alloc_hs]; omega) _⟩
      have e3 := lst_ne q3
      by_cases q4 : op.toList = [45]
      · have e4 := lst_eq q4
        have HS : Hid (reck d op.toList x y = ((0, wrap64 (nx - ny), ⟨#[]⟩), true)) := by show _ = _; unfold reck; rw [if_neg q1, if_neg q2, if_neg hk, if_neg q3, if_pos q4, hnx, hny]
        clear q1 q2 q3 q4 hk
        go_enter Tryz.func15, Tryz.ntmps15
        go_wp2
        exact bodyPost_ret (v := .tuple #[.agg #[.int .i64 0, .int .i64 (wrap64 (nx - ny)), .string ⟨#[]⟩, .slice none 0 0], .bool true]) (by simp [results, Tryz.results15, go_sem]) rfl ⟨by rw [HS.out]; rfl, (((Below.refl _ _).alloc (Nat.le_refl _) _).alloc (by simp only [alloc_hs]; omega) _).alloc (by simp only [alloc_hs]; omega) _⟩
      have e4 := lst_ne q4
      by_cases q5 : op.toList = [42]
      · have e5 := lst_eq q5
        have HS : Hid (reck d op.toList x y = ((0, wrap64 (nx * ny), ⟨#[]⟩), true)) := by show _ = _; unfold reck; rw [if_neg q1, if_neg q2, if_neg hk, if_neg q3, if_neg q4, if_pos q5, hnx, hny]
        clear q1 q2 q3 q4 q5 hk
        go_enter Tryz.func15, Tryz.ntmps15
        go_wp2
        exact bodyPost_ret (v := .tuple #[.agg #[.int .i64 0, .int .i64 (wrap64 (nx * ny)), .string ⟨#[]⟩, .slice none 0 0], .bool true]) (by simp [results, Tryz.results15, go_sem]) rfl ⟨by rw [HS.out]; rfl, (((Below.refl _ _).alloc (Nat.le_refl _) _).alloc (by simp only [alloc_hs]; omega) _).alloc (by simp only [alloc_hs]; omega) _⟩
      have e5 := lst_ne q5
      have HS : Hid (reck d op.toList x y = ((0, 0, ⟨#[]⟩), false)) := by show _ = _; unfold reck; rw [if_neg q1, if_neg q2, if_neg hk, if_neg q3, if_neg q4, if_neg q5]
      clear q1 q2 q3 q4 q5 hk
      go_enter Tryz.func15, Tryz.ntmps15
      go_wp2
      exact bodyPost_ret (v := .tuple #[.agg #[.int .i64 0, .int .i64 0, .string ⟨#[]⟩, .slice none 0 0], .bool false]) (by simp [results, Tryz.results15, go_sem]) rfl ⟨by rw [HS.out]; rfl, (((Below.refl _ _).alloc (Nat.le_refl _) _).alloc (by simp only [alloc_hs]; omega) _).alloc (by simp only [alloc_hs]; omega) _⟩
    · have HS : Hid (reck d op.toList x y = ((0, 0, ⟨#[]⟩), false)) := by show _ = _; unfold reck; rw [if_neg q1, if_neg q2, if_pos (Or.inr (by rw [hky]; exact k2))]
      clear q1 q2
      go_enter Tryz.func15, Tryz.ntmps15
      go_wp2
      exact bodyPost_ret (v := .tuple #[.agg #[.int .i64 0, .int .i64 0, .string ⟨#[]⟩, .slice none 0 0], .bool false]) (by simp [results, Tryz.results15, go_sem]) rfl ⟨by rw [HS.out]; rfl, (((Below.refl _ _).alloc (Nat.le_refl _) _).alloc (by simp only [alloc_hs]; omega) _).alloc (by simp only [alloc_hs]; omega) _⟩
  · have HS : Hid (reck d op.toList x y = ((0, 0, ⟨#[]⟩), false)) := by show _ = _; unfold reck; rw [if_neg q1, if_neg q2, if_pos (Or.inl (by rw [hkx]; exact k1))]
    clear q1 q2
    go_enter Tryz.func15, Tryz.ntmps15
    go_wp2
    exact bodyPost_ret (v := .tuple #[.agg #[.int .i64 0, .int .i64 0, .string ⟨#[]⟩, .slice none 0 0], .bool false]) (by simp [results, Tryz.results15, go_sem]) rfl ⟨by rw [HS.out]; rfl, (((Below.refl _ _).alloc (Nat.le_refl _) _).alloc (by simp only [alloc_hs]; omega) _).alloc (by simp only [alloc_hs]; omega) _⟩
end Go.Proofs.YtmnghlkkfkpjhaaGreatDoor
