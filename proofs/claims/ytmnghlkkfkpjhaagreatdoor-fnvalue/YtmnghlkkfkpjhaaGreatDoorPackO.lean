/-
  Texts of the proof, packed: MatchImplC, MatchSpecD.
-/
import Derived.Test.YtmnghlkkfkpjhaaGreatDoorPackF
import Derived.Test.YtmnghlkkfkpjhaaGreatDoorPackN
import Derived.Deep.QuietTactic
import Derived.BigQuiet
import Derived.Deep.RegionWith
import Derived.Test.YtmnghlkkfkpjhaaGreatDoorPackI
/-
  The program's fit, by contract.
-/
namespace Go.Proofs.YtmnghlkkfkpjhaaGreatDoor
open Go.ChangeShapes Go.WideShapes Go.ChangeAt Go.RowKit
set_option linter.unusedVariables false
set_option maxRecDepth 100000

theorem partsT_any (p : Option Addr) (l c : Nat) (w : World) : Calls Tryz.prog 60 #[.agg #[.slice p l c]] w fun e w' => e = .returned (.slice p l c) ∧ Below w.heap.size w w' := by
  go_enter Tryz.func60, Tryz.ntmps60
  go_wp2
  go_ret
  exact ⟨rfl, (Below.refl _ _).alloc (Nat.le_refl _) _⟩
theorem partsC_any (p : Option Addr) (l c : Nat) (w : World) : Calls Tryz.prog 62 #[.agg #[.slice p l c]] w fun e w' => e = .returned (.slice p l c) ∧ Below w.heap.size w w' := by
  go_enter Tryz.func62, Tryz.ntmps62
  go_wp2
  go_ret
  exact ⟨rfl, (Below.refl _ _).alloc (Nat.le_refl _) _⟩

theorem twoV_deeper : ∀ {d : Nat} {x : Va}, twoV d x → dpV d x → twoV (d + 1) x
  | 0, _, _, h => h.elim
  | d + 1, x, h, hd => ⟨h.1, fun y hy => twoV_deeper (h.2 y hy) (hd y hy)⟩

set_option maxHeartbeats 16000000 in
theorem fit_of {N : Nat} {w0 : World} {d k : Nat} (hK : FitsC N w0 d k) : FitC N w0 d (k + 1) := by
  intro w pcs p vcs v ev env hb0 hp hv h2 he hl
  have HB0 : Hid (Below N w0 w) := hb0
  have HV0 : Hid (HVa w0 (fun g => g < N) d vcs v) := hv
  have HE0 : Hid (BnB N w0 d w ev env) := he
  have hN := he.low
  obtain ⟨pe, ec, rfl, -⟩ := he.slice
  obtain ⟨kv, cv, rfl, hk1, hk2, hk3, hk4, hks, hcs⟩ := hp
  obtain ⟨pk, pn, pt, pm, pks, pcl⟩ := p
  cases d with
  | zero => exact hv.elim
  | succ d =>
  obtain ⟨vv, rfl, hv1, hv2, hv3, hvs⟩ := hv
  obtain ⟨vk, vn, vt, vks⟩ := v
  simp only [Ex.kind, Ex.n, Ex.text, Ex.mod, Ex.kids, Ex.clauses, Va.kind, Va.n, Va.text, Va.kids] at *
  have KR : Hid (Rows w0 (fun g => g < N) 6 (HEx w0 (fun g => g < N) k) kv pks) := hks
  have LR : Hid (Rows w0 (fun g => g < N) 4 (HVa w0 (fun g => g < N) (d + 1)) vv vks) := hvs.mono ⟨Nat.le_refl _, fun _ _ _ => rfl⟩ (fun _ h => h) (fun _ _ _ h => h.deeper (Nat.le_succ d))
  have HL : Hid (env.length + (1 + (pks.map (ndE k)).sum) ≤ 1048576) := hl
  have H22 : Hid ((vk = 4 → vks.length = 2) ∧ ∀ y ∈ vks, twoV (d + 1) y) := ⟨h2.1, fun y hy => twoV_deeper (h2.2 y hy) (by obtain ⟨ix, hix⟩ := List.mem_iff_getElem?.1 hy; obtain ⟨_, _, _, _, _, hrr⟩ := id hvs; obtain ⟨_, _, _, _, _, hat⟩ := hrr (by intro e; rw [e] at hix; simp at hix); obtain ⟨_, _, _, hh⟩ := hat ix y hix; exact hh.dp)⟩
  obtain ⟨pp, pc, rfl, hpb, hpm, -⟩ := hks
  obtain ⟨qp, qc, rfl, -⟩ := hcs
  obtain ⟨vp, vc, rfl, hvb, hvm, -⟩ := hvs
  have hnb2 : vks.length ≤ 9223372036854775807 := by unfold maxLen at hvm; omega
  have HVL0 : Hid (∃ vl, vks.length = vl) := ⟨_, rfl⟩
  obtain ⟨vl, hvl⟩ := HVL0.out
  have HPL0 : Hid (∃ pl, pks.length = pl) := ⟨_, rfl⟩
  obtain ⟨pl, hpl⟩ := HPL0.out
  have HQL0 : Hid (∃ ql, pcl.length = ql) := ⟨_, rfl⟩
  obtain ⟨ql, hql⟩ := HQL0.out
  rw [hpl] at KR
  rw [hvl] at LR HV0 hnb2 H22
  rw [hpl, hvl, hql]
  have HM : Hid (matchM (d + 1) (k + 1) (Ex.mk pk pn pt pm pks pcl) (Va.mk vk vn vt vks) env = if pk = 0 then (if vk = 0 ∧ vn = pn then some env else none) else if pk = 1 then (if vk = 1 ∧ vt = pt then some env else none) else if pk = 2 then varM (d + 1) pt (Va.mk vk vn vt vks) env else if pk = 3 then some env
    else if pk = 4 then (if vk = 2 ∧ pks.length = vks.length then kidsM (matchM (d + 1) k) pks vks env else none) else if pk = 5 then (if vk = 3 then some env else none) else if pk = 6 then (if vk = 4 ∧ pks.length = vks.length then kidsM (matchM (d + 1) k) pks vks env else none) else none) := rfl
  have HPT : Hid (okS pt) := hk3
  have hal : Below w.heap.size w ((w.alloc (.cells #[.int .i64 pk, .int .i64 pn, .string pt, .string pm, .slice pp pl pc, .slice qp ql qc] 33)).alloc (.cells #[.int .i64 vk, .int .i64 vn, .string vt, .slice vp vl vc] 26)) := ((Below.refl _ _).alloc (Nat.le_refl _) _).alloc (by simp) _
  have HA : Hid (Below N w ((w.alloc (.cells #[.int .i64 pk, .int .i64 pn, .string pt, .string pm, .slice pp pl pc, .slice qp ql qc] 33)).alloc (.cells #[.int .i64 vk, .int .i64 vn, .string vt, .slice vp vl vc] 26))) := hal.mono hN
  have HEA : Hid (BnB N w0 (d + 1) ((w.alloc (.cells #[.int .i64 pk, .int .i64 pn, .string pt, .string pm, .slice pp pl pc, .slice qp ql qc] 33)).alloc (.cells #[.int .i64 vk, .int .i64 vn, .string vt, .slice vp vl vc] 26)) (.slice pe env.length ec) env) := BnG.next HE0.out hal
  have bP : Hid (Blk ((w.alloc (.cells #[.int .i64 pk, .int .i64 pn, .string pt, .string pm, .slice pp pl pc, .slice qp ql qc] 33)).alloc (.cells #[.int .i64 vk, .int .i64 vn, .string vt, .slice vp vl vc] 26)) w.heap.size #[.int .i64 pk, .int .i64 pn, .string pt, .string pm, .slice pp pl pc, .slice qp ql qc] 33) := (Blk.new (w := w)).alloc
  have bV : Hid (Blk ((w.alloc (.cells #[.int .i64 pk, .int .i64 pn, .string pt, .string pm, .slice pp pl pc, .slice qp ql qc] 33)).alloc (.cells #[.int .i64 vk, .int .i64 vn, .string vt, .slice vp vl vc] 26)) (w.heap.size + 1) #[.int .i64 vk, .int .i64 vn, .string vt, .slice vp vl vc] 26) := by
    have := Blk.new (w := w.alloc (.cells #[.int .i64 pk, .int .i64 pn, .string pt, .string pm, .slice pp pl pc, .slice qp ql qc] 33)) (cs := #[.int .i64 vk, .int .i64 vn, .string vt, .slice vp vl vc]) (t := 26)
    simp only [alloc_hs] at this
    exact this
  clear hk1 hk2 hk3 hk4 hv1 hv2 hv3 hpb hpm hvb hvm hl HVL0 HPL0 HQL0 hvl hpl hql h2 hb0 he hal HE0
  by_cases e3 : pk = 3
  · subst e3
    have HS : Hid (matchM (d + 1) (k + 1) (Ex.mk 3 pn pt pm pks pcl) (Va.mk vk vn vt vks) env = some env) := by show _ = _; rw [HM.out]; simp
    go_enter Tryz.func35, Tryz.ntmps35
    go_wp2_with fail
    refine bodyPost_ret (v := .tuple #[.slice pe env.length ec, .bool true]) (by first | (simp [results, Tryz.results35, go_sem]; done) | (simp [results, Tryz.results35, go_sem, c2]; done) | (simp [results, Tryz.results35, go_sem, Ne.symm c2]; done) | (simp [results, Tryz.results35, go_sem, c1]; done)) rfl ⟨?_, HA.out⟩
    rw [HS.out]
    exact ⟨_, rfl, HEA.out⟩
  by_cases e2 : pk = 2
  · subst e2
    have HS : Hid (matchM (d + 1) (k + 1) (Ex.mk 2 pn pt pm pks pcl) (Va.mk vk vn vt vks) env = varM (d + 1) pt (Va.mk vk vn vt vks) env) := by show _ = _; rw [HM.out]; simp
    have HL1 : Hid (env.length + 1 ≤ 1048576) := by have := HL.out; show _ ≤ _; omega
    go_enter Tryz.func35, Tryz.ntmps35
    go_wp2_with fail
    refine (fitVar_any N w0 (d + 1) _ (HB0.out.trans HA.out) pt HPT.out _ (Va.mk vk vn vt vks) _ env (StV.of HV0.out) HEA.out HL1.out).mono ?_
    rintro e w1 ⟨ht, hb⟩
    have K1 : Hid (Below N w w1) := HA.out.trans hb
    clear hb
    cases hmx : varM (d + 1) pt (Va.mk vk vn vt vks) env with
    | none =>
      rw [hmx] at ht
      obtain ⟨ev', rfl⟩ := ht
      have HS2 : Hid (matchM (d + 1) (k + 1) (Ex.mk 2 pn pt pm pks pcl) (Va.mk vk vn vt vks) env = none) := by show _ = _; rw [HS.out, hmx]
      go_wp2_with fail
      refine bodyPost_ret (v := .tuple #[ev', .bool false]) (by first | (simp [results, Tryz.results35, go_sem]; done) | (simp [results, Tryz.results35, go_sem, c2]; done) | (simp [results, Tryz.results35, go_sem, Ne.symm c2]; done) | (simp [results, Tryz.results35, go_sem, c1]; done)) rfl ⟨?_, K1.out⟩
      rw [HS2.out]
      exact ⟨_, rfl⟩
    | some out =>
      rw [hmx] at ht
      obtain ⟨ev', rfl, hrows⟩ := ht
      have HS2 : Hid (matchM (d + 1) (k + 1) (Ex.mk 2 pn pt pm pks pcl) (Va.mk vk vn vt vks) env = some out) := by show _ = _; rw [HS.out, hmx]
      have HR1 : Hid (BnB N w0 (d + 1) w1 ev' out) := hrows
      clear hrows
      go_wp2_with fail
      refine bodyPost_ret (v := .tuple #[ev', .bool true]) (by first | (simp [results, Tryz.results35, go_sem]; done) | (simp [results, Tryz.results35, go_sem, c2]; done) | (simp [results, Tryz.results35, go_sem, Ne.symm c2]; done) | (simp [results, Tryz.results35, go_sem, c1]; done)) rfl ⟨?_, K1.out⟩
      rw [HS2.out]
      exact ⟨_, rfl, HR1.out⟩
  by_cases v0 : vk = 0
  · subst v0
    by_cases c1 : pk = 0
    · subst c1
      by_cases c2 : vn = pn
      · subst c2
        have HS : Hid (matchM (d + 1) (k + 1) (Ex.mk 0 vn pt pm pks pcl) (Va.mk 0 vn vt vks) env = some env) := by show _ = _; rw [HM.out]; simp
        have q_numberValue := as_numberValue_numberValue
        have q_atomValue := as_numberValue_atomValue
        have q_tupleValue := as_numberValue_tupleValue
        have q_nilValue := as_numberValue_nilValue
        have q_consValue := as_numberValue_consValue
        go_enter Tryz.func35, Tryz.ntmps35
        go_wp2_with fail
        refine (vof0 vn vt vp vl vc _).mono ?_
        rintro e w1 ⟨rfl, hb⟩
        have bP1 := bP.out.next hb
        have HE1 : Hid (BnB N w0 (d + 1) w1 (.slice pe env.length ec) env) := BnG.next HEA.out hb
        have K1 : Hid (Below N w w1) := HA.out.trans (hb.mono (Nat.le_trans hN HA.out.size))
        clear hb
        have hal3 : Below w1.heap.size w1 (w1.alloc (.cells #[.int .i64 vn] 87)) := (Below.refl _ _).alloc (Nat.le_refl _) _
        have HE3 : Hid (BnB N w0 (d + 1) (w1.alloc (.cells #[.int .i64 vn] 87)) (.slice pe env.length ec) env) := BnG.next HE1.out hal3
        have K3 : Hid (Below N w (w1.alloc (.cells #[.int .i64 vn] 87))) := K1.out.trans (hal3.mono (Nat.le_trans hN K1.out.size))
        have bP3 : Hid (Blk (w1.alloc (.cells #[.int .i64 vn] 87)) w.heap.size #[.int .i64 0, .int .i64 vn, .string pt, .string pm, .slice pp pl pc, .slice qp ql qc] 33) := bP1.alloc
        have bX3 : Hid (Blk (w1.alloc (.cells #[.int .i64 vn] 87)) w1.heap.size #[.int .i64 vn] 87) := Blk.new
        clear hal3
        have z0 := bP3.out.cell 0 _ rfl
        have z1 := bP3.out.cell 1 _ rfl
        have z2 := bP3.out.cell 2 _ rfl
        have z3 := bP3.out.cell 3 _ rfl
        have z4 := bP3.out.cell 4 _ rfl
        have z5 := bP3.out.cell 5 _ rfl
        go_wp2_with fail
        try (go_quiet (fail); go_wp2_with fail)
        refine bodyPost_ret (v := .tuple #[.slice pe env.length ec, .bool true]) (by first | (simp [results, Tryz.results35, go_sem]; done) | (simp [results, Tryz.results35, go_sem, c2]; done) | (simp [results, Tryz.results35, go_sem, Ne.symm c2]; done) | (simp [results, Tryz.results35, go_sem, c1]; done)) rfl ⟨?_, by first | exact K3.out | exact below_drewN K3.out _ | exact K3.out.drew⟩
        rw [HS.out]
        exact ⟨_, rfl, by first | exact HE3.out | exact BnG.next HE3.out (below_drewN (Below.refl _ _) _) | exact BnG.next HE3.out (Below.refl _ _).drew⟩
      · skip
        have HS : Hid (matchM (d + 1) (k + 1) (Ex.mk 0 pn pt pm pks pcl) (Va.mk 0 vn vt vks) env = none) := by show _ = _; rw [HM.out]; simp [c2]
        have q_numberValue := as_numberValue_numberValue
        have q_atomValue := as_numberValue_atomValue
        have q_tupleValue := as_numberValue_tupleValue
        have q_nilValue := as_numberValue_nilValue
        have q_consValue := as_numberValue_consValue
        go_enter Tryz.func35, Tryz.ntmps35
        go_wp2_with fail
        refine (vof0 vn vt vp vl vc _).mono ?_
        rintro e w1 ⟨rfl, hb⟩
        have bP1 := bP.out.next hb
        have HE1 : Hid (BnB N w0 (d + 1) w1 (.slice pe env.length ec) env) := BnG.next HEA.out hb
        have K1 : Hid (Below N w w1) := HA.out.trans (hb.mono (Nat.le_trans hN HA.out.size))
        clear hb
        have hal3 : Below w1.heap.size w1 (w1.alloc (.cells #[.int .i64 vn] 87)) := (Below.refl _ _).alloc (Nat.le_refl _) _
        have HE3 : Hid (BnB N w0 (d + 1) (w1.alloc (.cells #[.int .i64 vn] 87)) (.slice pe env.length ec) env) := BnG.next HE1.out hal3
        have K3 : Hid (Below N w (w1.alloc (.cells #[.int .i64 vn] 87))) := K1.out.trans (hal3.mono (Nat.le_trans hN K1.out.size))
        have bP3 : Hid (Blk (w1.alloc (.cells #[.int .i64 vn] 87)) w.heap.size #[.int .i64 0, .int .i64 pn, .string pt, .string pm, .slice pp pl pc, .slice qp ql qc] 33) := bP1.alloc
        have bX3 : Hid (Blk (w1.alloc (.cells #[.int .i64 vn] 87)) w1.heap.size #[.int .i64 vn] 87) := Blk.new
        clear hal3
        have z0 := bP3.out.cell 0 _ rfl
        have z1 := bP3.out.cell 1 _ rfl
        have z2 := bP3.out.cell 2 _ rfl
        have z3 := bP3.out.cell 3 _ rfl
        have z4 := bP3.out.cell 4 _ rfl
        have z5 := bP3.out.cell 5 _ rfl
        go_wp2_with fail
        try (go_quiet (fail); go_wp2_with fail)
        refine bodyPost_ret (v := .tuple #[.slice pe env.length ec, .bool false]) (by first | (simp [results, Tryz.results35, go_sem]; done) | (simp [results, Tryz.results35, go_sem]; done) | (simp [results, Tryz.results35, go_sem, Ne.symm c2]; done) | (simp [results, Tryz.results35, go_sem, c1]; done)) rfl ⟨?_, by first | exact K3.out | exact below_drewN K3.out _ | exact K3.out.drew⟩
        rw [HS.out]
        exact ⟨_, rfl⟩
    · skip
      have HS : Hid (matchM (d + 1) (k + 1) (Ex.mk pk pn pt pm pks pcl) (Va.mk 0 vn vt vks) env = none) := by show _ = _; rw [HM.out]; simp [c1, e2, e3]
      have q_numberValue := as_numberValue_numberValue
      have q_atomValue := as_numberValue_atomValue
      have q_tupleValue := as_numberValue_tupleValue
      have q_nilValue := as_numberValue_nilValue
      have q_consValue := as_numberValue_consValue
      go_enter Tryz.func35, Tryz.ntmps35
      go_wp2_with fail
      refine (vof0 vn vt vp vl vc _).mono ?_
      rintro e w1 ⟨rfl, hb⟩
      have bP1 := bP.out.next hb
      have HE1 : Hid (BnB N w0 (d + 1) w1 (.slice pe env.length ec) env) := BnG.next HEA.out hb
      have K1 : Hid (Below N w w1) := HA.out.trans (hb.mono (Nat.le_trans hN HA.out.size))
      clear hb
      have hal3 : Below w1.heap.size w1 (w1.alloc (.cells #[.int .i64 vn] 87)) := (Below.refl _ _).alloc (Nat.le_refl _) _
      have HE3 : Hid (BnB N w0 (d + 1) (w1.alloc (.cells #[.int .i64 vn] 87)) (.slice pe env.length ec) env) := BnG.next HE1.out hal3
      have K3 : Hid (Below N w (w1.alloc (.cells #[.int .i64 vn] 87))) := K1.out.trans (hal3.mono (Nat.le_trans hN K1.out.size))
      have bP3 : Hid (Blk (w1.alloc (.cells #[.int .i64 vn] 87)) w.heap.size #[.int .i64 pk, .int .i64 pn, .string pt, .string pm, .slice pp pl pc, .slice qp ql qc] 33) := bP1.alloc
      have bX3 : Hid (Blk (w1.alloc (.cells #[.int .i64 vn] 87)) w1.heap.size #[.int .i64 vn] 87) := Blk.new
      clear hal3
      have z0 := bP3.out.cell 0 _ rfl
      have z1 := bP3.out.cell 1 _ rfl
      have z2 := bP3.out.cell 2 _ rfl
      have z3 := bP3.out.cell 3 _ rfl
      have z4 := bP3.out.cell 4 _ rfl
      have z5 := bP3.out.cell 5 _ rfl
      go_wp2_with fail
      try (go_quiet (fail); go_wp2_with fail)
      refine bodyPost_ret (v := .tuple #[.slice pe env.length ec, .bool false]) (by first | (simp [results, Tryz.results35, go_sem]; done) | (simp [results, Tryz.results35, go_sem, c2]; done) | (simp [results, Tryz.results35, go_sem, Ne.symm c2]; done) | (simp [results, Tryz.results35, go_sem, c1]; done)) rfl ⟨?_, by first | exact K3.out | exact below_drewN K3.out _ | exact K3.out.drew⟩
      rw [HS.out]
      exact ⟨_, rfl⟩
  by_cases v1 : vk = 1
  · subst v1
    by_cases c1 : pk = 1
    · subst c1
      by_cases c2 : vt = pt
      · subst c2
        have HS : Hid (matchM (d + 1) (k + 1) (Ex.mk 1 pn vt pm pks pcl) (Va.mk 1 vn vt vks) env = some env) := by show _ = _; rw [HM.out]; simp
        have q_numberValue := as_atomValue_numberValue
        have q_atomValue := as_atomValue_atomValue
        have q_tupleValue := as_atomValue_tupleValue
        have q_nilValue := as_atomValue_nilValue
        have q_consValue := as_atomValue_consValue
        go_enter Tryz.func35, Tryz.ntmps35
        go_wp2_with fail
        refine (vof1 vn vt vp vl vc _).mono ?_
        rintro e w1 ⟨rfl, hb⟩
        have bP1 := bP.out.next hb
        have HE1 : Hid (BnB N w0 (d + 1) w1 (.slice pe env.length ec) env) := BnG.next HEA.out hb
        have K1 : Hid (Below N w w1) := HA.out.trans (hb.mono (Nat.le_trans hN HA.out.size))
        clear hb
        have hal3 : Below w1.heap.size w1 (w1.alloc (.cells #[.string vt] 89)) := (Below.refl _ _).alloc (Nat.le_refl _) _
        have HE3 : Hid (BnB N w0 (d + 1) (w1.alloc (.cells #[.string vt] 89)) (.slice pe env.length ec) env) := BnG.next HE1.out hal3
        have K3 : Hid (Below N w (w1.alloc (.cells #[.string vt] 89))) := K1.out.trans (hal3.mono (Nat.le_trans hN K1.out.size))
        have bP3 : Hid (Blk (w1.alloc (.cells #[.string vt] 89)) w.heap.size #[.int .i64 1, .int .i64 pn, .string vt, .string pm, .slice pp pl pc, .slice qp ql qc] 33) := bP1.alloc
        have bX3 : Hid (Blk (w1.alloc (.cells #[.string vt] 89)) w1.heap.size #[.string vt] 89) := Blk.new
        clear hal3
        have z0 := bP3.out.cell 0 _ rfl
        have z1 := bP3.out.cell 1 _ rfl
        have z2 := bP3.out.cell 2 _ rfl
        have z3 := bP3.out.cell 3 _ rfl
        have z4 := bP3.out.cell 4 _ rfl
        have z5 := bP3.out.cell 5 _ rfl
        go_wp2_with fail
        try (go_quiet (fail); go_wp2_with fail)
        refine bodyPost_ret (v := .tuple #[.slice pe env.length ec, .bool true]) (by first | (simp [results, Tryz.results35, go_sem]; done) | (simp [results, Tryz.results35, go_sem, c2]; done) | (simp [results, Tryz.results35, go_sem, Ne.symm c2]; done) | (simp [results, Tryz.results35, go_sem, c1]; done)) rfl ⟨?_, by first | exact K3.out | exact below_drewN K3.out _ | exact K3.out.drew⟩
        rw [HS.out]
        exact ⟨_, rfl, by first | exact HE3.out | exact BnG.next HE3.out (below_drewN (Below.refl _ _) _) | exact BnG.next HE3.out (Below.refl _ _).drew⟩
      · have hq1 := str_ne (fun e => c2 e.symm)
        have hq2 := str_neB (fun e => c2 e.symm)
        have HS : Hid (matchM (d + 1) (k + 1) (Ex.mk 1 pn pt pm pks pcl) (Va.mk 1 vn vt vks) env = none) := by show _ = _; rw [HM.out]; simp [c2]
        have q_numberValue := as_atomValue_numberValue
        have q_atomValue := as_atomValue_atomValue
        have q_tupleValue := as_atomValue_tupleValue
        have q_nilValue := as_atomValue_nilValue
        have q_consValue := as_atomValue_consValue
        go_enter Tryz.func35, Tryz.ntmps35
        go_wp2_with fail
        refine (vof1 vn vt vp vl vc _).mono ?_
        rintro e w1 ⟨rfl, hb⟩
        have bP1 := bP.out.next hb
        have HE1 : Hid (BnB N w0 (d + 1) w1 (.slice pe env.length ec) env) := BnG.next HEA.out hb
        have K1 : Hid (Below N w w1) := HA.out.trans (hb.mono (Nat.le_trans hN HA.out.size))
        clear hb
        have hal3 : Below w1.heap.size w1 (w1.alloc (.cells #[.string vt] 89)) := (Below.refl _ _).alloc (Nat.le_refl _) _
        have HE3 : Hid (BnB N w0 (d + 1) (w1.alloc (.cells #[.string vt] 89)) (.slice pe env.length ec) env) := BnG.next HE1.out hal3
        have K3 : Hid (Below N w (w1.alloc (.cells #[.string vt] 89))) := K1.out.trans (hal3.mono (Nat.le_trans hN K1.out.size))
        have bP3 : Hid (Blk (w1.alloc (.cells #[.string vt] 89)) w.heap.size #[.int .i64 1, .int .i64 pn, .string pt, .string pm, .slice pp pl pc, .slice qp ql qc] 33) := bP1.alloc
        have bX3 : Hid (Blk (w1.alloc (.cells #[.string vt] 89)) w1.heap.size #[.string vt] 89) := Blk.new
        clear hal3
        have z0 := bP3.out.cell 0 _ rfl
        have z1 := bP3.out.cell 1 _ rfl
        have z2 := bP3.out.cell 2 _ rfl
        have z3 := bP3.out.cell 3 _ rfl
        have z4 := bP3.out.cell 4 _ rfl
        have z5 := bP3.out.cell 5 _ rfl
        go_wp2_with fail
        try (go_quiet (fail); go_wp2_with fail)
        refine bodyPost_ret (v := .tuple #[.slice pe env.length ec, .bool false]) (by first | (simp [results, Tryz.results35, go_sem]; done) | (simp [results, Tryz.results35, go_sem, c2]; done) | (simp [results, Tryz.results35, go_sem, Ne.symm c2]; done) | (simp [results, Tryz.results35, go_sem, c1]; done)) rfl ⟨?_, by first | exact K3.out | exact below_drewN K3.out _ | exact K3.out.drew⟩
        rw [HS.out]
        exact ⟨_, rfl⟩
    · skip
      have HS : Hid (matchM (d + 1) (k + 1) (Ex.mk pk pn pt pm pks pcl) (Va.mk 1 vn vt vks) env = none) := by show _ = _; rw [HM.out]; simp [c1, e2, e3]
      have q_numberValue := as_atomValue_numberValue
      have q_atomValue := as_atomValue_atomValue
      have q_tupleValue := as_atomValue_tupleValue
      have q_nilValue := as_atomValue_nilValue
      have q_consValue := as_atomValue_consValue
      go_enter Tryz.func35, Tryz.ntmps35
      go_wp2_with fail
      refine (vof1 vn vt vp vl vc _).mono ?_
      rintro e w1 ⟨rfl, hb⟩
      have bP1 := bP.out.next hb
      have HE1 : Hid (BnB N w0 (d + 1) w1 (.slice pe env.length ec) env) := BnG.next HEA.out hb
      have K1 : Hid (Below N w w1) := HA.out.trans (hb.mono (Nat.le_trans hN HA.out.size))
      clear hb
      have hal3 : Below w1.heap.size w1 (w1.alloc (.cells #[.string vt] 89)) := (Below.refl _ _).alloc (Nat.le_refl _) _
      have HE3 : Hid (BnB N w0 (d + 1) (w1.alloc (.cells #[.string vt] 89)) (.slice pe env.length ec) env) := BnG.next HE1.out hal3
      have K3 : Hid (Below N w (w1.alloc (.cells #[.string vt] 89))) := K1.out.trans (hal3.mono (Nat.le_trans hN K1.out.size))
      have bP3 : Hid (Blk (w1.alloc (.cells #[.string vt] 89)) w.heap.size #[.int .i64 pk, .int .i64 pn, .string pt, .string pm, .slice pp pl pc, .slice qp ql qc] 33) := bP1.alloc
      have bX3 : Hid (Blk (w1.alloc (.cells #[.string vt] 89)) w1.heap.size #[.string vt] 89) := Blk.new
      clear hal3
      have z0 := bP3.out.cell 0 _ rfl
      have z1 := bP3.out.cell 1 _ rfl
      have z2 := bP3.out.cell 2 _ rfl
      have z3 := bP3.out.cell 3 _ rfl
      have z4 := bP3.out.cell 4 _ rfl
      have z5 := bP3.out.cell 5 _ rfl
      go_wp2_with fail
      try (go_quiet (fail); go_wp2_with fail)
      refine bodyPost_ret (v := .tuple #[.slice pe env.length ec, .bool false]) (by first | (simp [results, Tryz.results35, go_sem]; done) | (simp [results, Tryz.results35, go_sem, c2]; done) | (simp [results, Tryz.results35, go_sem, Ne.symm c2]; done) | (simp [results, Tryz.results35, go_sem, c1]; done)) rfl ⟨?_, by first | exact K3.out | exact below_drewN K3.out _ | exact K3.out.drew⟩
      rw [HS.out]
      exact ⟨_, rfl⟩
  by_cases v2 : vk = 2
  · subst v2
    by_cases c1 : pk = 4
    · subst c1
      have HS : Hid (matchM (d + 1) (k + 1) (Ex.mk 4 pn pt pm pks pcl) (Va.mk 2 vn vt vks) env = kidsL (matchM (d + 1) k) pks vks env) := by show _ = _; rw [HM.out]; simp [kidsL]
      have HL1 : Hid (env.length + (pks.map (ndE k)).sum ≤ 1048576) := by have := HL.out; show _ ≤ _; omega
      have q_numberValue := as_tupleValue_numberValue
      have q_atomValue := as_tupleValue_atomValue
      have q_tupleValue := as_tupleValue_tupleValue
      have q_nilValue := as_tupleValue_nilValue
      have q_consValue := as_tupleValue_consValue
      go_enter Tryz.func35, Tryz.ntmps35
      go_wp2_with fail
      refine (vof2 vn vt vp vl vc _).mono ?_
      rintro e w1 ⟨rfl, hb⟩
      have bP1 := bP.out.next hb
      have HE1 : Hid (BnB N w0 (d + 1) w1 (.slice pe env.length ec) env) := BnG.next HEA.out hb
      have K1 : Hid (Below N w w1) := HA.out.trans (hb.mono (Nat.le_trans hN HA.out.size))
      clear hb
      have hal3 : Below w1.heap.size w1 (w1.alloc (.cells #[.slice vp vl vc] 91)) := (Below.refl _ _).alloc (Nat.le_refl _) _
      have HE3 : Hid (BnB N w0 (d + 1) (w1.alloc (.cells #[.slice vp vl vc] 91)) (.slice pe env.length ec) env) := BnG.next HE1.out hal3
      have K3 : Hid (Below N w (w1.alloc (.cells #[.slice vp vl vc] 91))) := K1.out.trans (hal3.mono (Nat.le_trans hN K1.out.size))
      have bP3 : Hid (Blk (w1.alloc (.cells #[.slice vp vl vc] 91)) w.heap.size #[.int .i64 4, .int .i64 pn, .string pt, .string pm, .slice pp pl pc, .slice qp ql qc] 33) := bP1.alloc
      have bX3 : Hid (Blk (w1.alloc (.cells #[.slice vp vl vc] 91)) w1.heap.size #[.slice vp vl vc] 91) := Blk.new
      clear hal3
      have z0 := bP3.out.cell 0 _ rfl
      have z1 := bP3.out.cell 1 _ rfl
      have z2 := bP3.out.cell 2 _ rfl
      have z3 := bP3.out.cell 3 _ rfl
      have z4 := bP3.out.cell 4 _ rfl
      have z5 := bP3.out.cell 5 _ rfl
      have x0 := bX3.out.cell 0 _ rfl
      go_wp2_with fail
      cases hmx : kidsL (matchM (d + 1) k) pks vks env with
      | none =>
        have HMX : Hid (kidsL (matchM (d + 1) k) pks vks env = none) := hmx
        have HS2 : Hid (matchM (d + 1) (k + 1) (Ex.mk 4 pn pt pm pks pcl) (Va.mk 2 vn vt vks) env = none) := by show _ = _; rw [HS.out, hmx]
        clear hmx
        go_region_law
          (first
            | (go_simp; go_at_call 60; refine (partsT_any _ _ _ _).mono ?_; rintro e w5 ⟨rfl, hb5⟩; have L5 : Hid (Below (w1.alloc (.cells #[.slice vp vl vc] 91)).heap.size (w1.alloc (.cells #[.slice vp vl vc] 91)) w5) := ⟨hb5.os, hb5.tape, hb5.output, hb5.size, hb5.block⟩; have HE5 : Hid (BnB N w0 (d + 1) w5 (.slice pe env.length ec) env) := BnG.next HE3.out L5.out; have K5 : Hid (Below N w w5) := K3.out.trans (L5.out.mono (Nat.le_trans hN K3.out.size)); have z4' := (bP3.out.next L5.out).cell 4 _ rfl; clear hb5; dsimp only)
            | (go_simp; go_at_call 59; refine (hK _ _ pks _ vks _ env (HB0.out.trans K5.out) KR.out LR.out H22.out.2 HE5.out HL1.out).mono ?_; rintro e w6 ⟨ht, hb6⟩; rw [HMX.out] at ht; obtain ⟨ev', rfl⟩ := ht; have K6 : Hid (Below N w w6) := K5.out.trans hb6; clear hb6; dsimp only))
        all_goals
          go_wp2_with fail
          refine bodyPost_ret (v := .tuple #[ev', .bool false]) (by first | (simp [results, Tryz.results35, go_sem]; done) | (simp [results, Tryz.results35, go_sem, c2]; done) | (simp [results, Tryz.results35, go_sem, Ne.symm c2]; done) | (simp [results, Tryz.results35, go_sem, c1]; done)) rfl ⟨?_, K6.out⟩
          rw [HS2.out]
          exact ⟨_, rfl⟩
      | some out =>
        have HMX : Hid (kidsL (matchM (d + 1) k) pks vks env = some out) := hmx
        have HS2 : Hid (matchM (d + 1) (k + 1) (Ex.mk 4 pn pt pm pks pcl) (Va.mk 2 vn vt vks) env = some out) := by show _ = _; rw [HS.out, hmx]
        clear hmx
        go_region_law
          (first
            | (go_simp; go_at_call 60; refine (partsT_any _ _ _ _).mono ?_; rintro e w5 ⟨rfl, hb5⟩; have L5 : Hid (Below (w1.alloc (.cells #[.slice vp vl vc] 91)).heap.size (w1.alloc (.cells #[.slice vp vl vc] 91)) w5) := ⟨hb5.os, hb5.tape, hb5.output, hb5.size, hb5.block⟩; have HE5 : Hid (BnB N w0 (d + 1) w5 (.slice pe env.length ec) env) := BnG.next HE3.out L5.out; have K5 : Hid (Below N w w5) := K3.out.trans (L5.out.mono (Nat.le_trans hN K3.out.size)); have z4' := (bP3.out.next L5.out).cell 4 _ rfl; clear hb5; dsimp only)
            | (go_simp; go_at_call 59; refine (hK _ _ pks _ vks _ env (HB0.out.trans K5.out) KR.out LR.out H22.out.2 HE5.out HL1.out).mono ?_; rintro e w6 ⟨ht, hb6⟩; rw [HMX.out] at ht; obtain ⟨ev', rfl, hrows⟩ := ht; have HR6 : Hid (BnB N w0 (d + 1) w6 ev' out) := hrows; clear hrows; have K6 : Hid (Below N w w6) := K5.out.trans hb6; clear hb6; dsimp only))
        all_goals
          go_wp2_with fail
          refine bodyPost_ret (v := .tuple #[ev', .bool true]) (by first | (simp [results, Tryz.results35, go_sem]; done) | (simp [results, Tryz.results35, go_sem, c2]; done) | (simp [results, Tryz.results35, go_sem, Ne.symm c2]; done) | (simp [results, Tryz.results35, go_sem, c1]; done)) rfl ⟨?_, K6.out⟩
          rw [HS2.out]
          exact ⟨_, rfl, HR6.out⟩
    · skip
      have HS : Hid (matchM (d + 1) (k + 1) (Ex.mk pk pn pt pm pks pcl) (Va.mk 2 vn vt vks) env = none) := by show _ = _; rw [HM.out]; simp [c1, e2, e3]
      have q_numberValue := as_tupleValue_numberValue
      have q_atomValue := as_tupleValue_atomValue
      have q_tupleValue := as_tupleValue_tupleValue
      have q_nilValue := as_tupleValue_nilValue
      have q_consValue := as_tupleValue_consValue
      go_enter Tryz.func35, Tryz.ntmps35
      go_wp2_with fail
      refine (vof2 vn vt vp vl vc _).mono ?_
      rintro e w1 ⟨rfl, hb⟩
      have bP1 := bP.out.next hb
      have HE1 : Hid (BnB N w0 (d + 1) w1 (.slice pe env.length ec) env) := BnG.next HEA.out hb
      have K1 : Hid (Below N w w1) := HA.out.trans (hb.mono (Nat.le_trans hN HA.out.size))
      clear hb
      have hal3 : Below w1.heap.size w1 (w1.alloc (.cells #[.slice vp vl vc] 91)) := (Below.refl _ _).alloc (Nat.le_refl _) _
      have HE3 : Hid (BnB N w0 (d + 1) (w1.alloc (.cells #[.slice vp vl vc] 91)) (.slice pe env.length ec) env) := BnG.next HE1.out hal3
      have K3 : Hid (Below N w (w1.alloc (.cells #[.slice vp vl vc] 91))) := K1.out.trans (hal3.mono (Nat.le_trans hN K1.out.size))
      have bP3 : Hid (Blk (w1.alloc (.cells #[.slice vp vl vc] 91)) w.heap.size #[.int .i64 pk, .int .i64 pn, .string pt, .string pm, .slice pp pl pc, .slice qp ql qc] 33) := bP1.alloc
      have bX3 : Hid (Blk (w1.alloc (.cells #[.slice vp vl vc] 91)) w1.heap.size #[.slice vp vl vc] 91) := Blk.new
      clear hal3
      have z0 := bP3.out.cell 0 _ rfl
      have z1 := bP3.out.cell 1 _ rfl
      have z2 := bP3.out.cell 2 _ rfl
      have z3 := bP3.out.cell 3 _ rfl
      have z4 := bP3.out.cell 4 _ rfl
      have z5 := bP3.out.cell 5 _ rfl
      go_wp2_with fail
      try (go_quiet (fail); go_wp2_with fail)
      refine bodyPost_ret (v := .tuple #[.slice pe env.length ec, .bool false]) (by first | (simp [results, Tryz.results35, go_sem]; done) | (simp [results, Tryz.results35, go_sem, c2]; done) | (simp [results, Tryz.results35, go_sem, Ne.symm c2]; done) | (simp [results, Tryz.results35, go_sem, c1]; done)) rfl ⟨?_, by first | exact K3.out | exact below_drewN K3.out _ | exact K3.out.drew⟩
      rw [HS.out]
      exact ⟨_, rfl⟩
  by_cases v3 : vk = 3
  · subst v3
    by_cases c1 : pk = 5
    · subst c1
      have HS : Hid (matchM (d + 1) (k + 1) (Ex.mk 5 pn pt pm pks pcl) (Va.mk 3 vn vt vks) env = some env) := by show _ = _; rw [HM.out]; simp
      have q_numberValue := as_nilValue_numberValue
      have q_atomValue := as_nilValue_atomValue
      have q_tupleValue := as_nilValue_tupleValue
      have q_nilValue := as_nilValue_nilValue
      have q_consValue := as_nilValue_consValue
      go_enter Tryz.func35, Tryz.ntmps35
      go_wp2_with fail
      refine (vof3 vn vt vp vl vc _).mono ?_
      rintro e w1 ⟨rfl, hb⟩
      have bP1 := bP.out.next hb
      have HE1 : Hid (BnB N w0 (d + 1) w1 (.slice pe env.length ec) env) := BnG.next HEA.out hb
      have K1 : Hid (Below N w w1) := HA.out.trans (hb.mono (Nat.le_trans hN HA.out.size))
      clear hb
      have hal3 : Below w1.heap.size w1 (w1.alloc (.cells #[] 95)) := (Below.refl _ _).alloc (Nat.le_refl _) _
      have HE3 : Hid (BnB N w0 (d + 1) (w1.alloc (.cells #[] 95)) (.slice pe env.length ec) env) := BnG.next HE1.out hal3
      have K3 : Hid (Below N w (w1.alloc (.cells #[] 95))) := K1.out.trans (hal3.mono (Nat.le_trans hN K1.out.size))
      have bP3 : Hid (Blk (w1.alloc (.cells #[] 95)) w.heap.size #[.int .i64 5, .int .i64 pn, .string pt, .string pm, .slice pp pl pc, .slice qp ql qc] 33) := bP1.alloc
      have bX3 : Hid (Blk (w1.alloc (.cells #[] 95)) w1.heap.size #[] 95) := Blk.new
      clear hal3
      have z0 := bP3.out.cell 0 _ rfl
      have z1 := bP3.out.cell 1 _ rfl
      have z2 := bP3.out.cell 2 _ rfl
      have z3 := bP3.out.cell 3 _ rfl
      have z4 := bP3.out.cell 4 _ rfl
      have z5 := bP3.out.cell 5 _ rfl
      go_wp2_with fail
      try (go_quiet (fail); go_wp2_with fail)
      refine bodyPost_ret (v := .tuple #[.slice pe env.length ec, .bool true]) (by first | (simp [results, Tryz.results35, go_sem]; done) | (simp [results, Tryz.results35, go_sem, c2]; done) | (simp [results, Tryz.results35, go_sem, Ne.symm c2]; done) | (simp [results, Tryz.results35, go_sem, c1]; done)) rfl ⟨?_, by first | exact K3.out | exact below_drewN K3.out _ | exact K3.out.drew⟩
      rw [HS.out]
      exact ⟨_, rfl, by first | exact HE3.out | exact BnG.next HE3.out (below_drewN (Below.refl _ _) _) | exact BnG.next HE3.out (Below.refl _ _).drew⟩
    · skip
      have HS : Hid (matchM (d + 1) (k + 1) (Ex.mk pk pn pt pm pks pcl) (Va.mk 3 vn vt vks) env = none) := by show _ = _; rw [HM.out]; simp [c1, e2, e3]
      have q_numberValue := as_nilValue_numberValue
      have q_atomValue := as_nilValue_atomValue
      have q_tupleValue := as_nilValue_tupleValue
      have q_nilValue := as_nilValue_nilValue
      have q_consValue := as_nilValue_consValue
      go_enter Tryz.func35, Tryz.ntmps35
      go_wp2_with fail
      refine (vof3 vn vt vp vl vc _).mono ?_
      rintro e w1 ⟨rfl, hb⟩
      have bP1 := bP.out.next hb
      have HE1 : Hid (BnB N w0 (d + 1) w1 (.slice pe env.length ec) env) := BnG.next HEA.out hb
      have K1 : Hid (Below N w w1) := HA.out.trans (hb.mono (Nat.le_trans hN HA.out.size))
      clear hb
      have hal3 : Below w1.heap.size w1 (w1.alloc (.cells #[] 95)) := (Below.refl _ _).alloc (Nat.le_refl _) _
      have HE3 : Hid (BnB N w0 (d + 1) (w1.alloc (.cells #[] 95)) (.slice pe env.length ec) env) := BnG.next HE1.out hal3
      have K3 : Hid (Below N w (w1.alloc (.cells #[] 95))) := K1.out.trans (hal3.mono (Nat.le_trans hN K1.out.size))
      have bP3 : Hid (Blk (w1.alloc (.cells #[] 95)) w.heap.size #[.int .i64 pk, .int .i64 pn, .string pt, .string pm, .slice pp pl pc, .slice qp ql qc] 33) := bP1.alloc
      have bX3 : Hid (Blk (w1.alloc (.cells #[] 95)) w1.heap.size #[] 95) := Blk.new
      clear hal3
      have z0 := bP3.out.cell 0 _ rfl
      have z1 := bP3.out.cell 1 _ rfl
      have z2 := bP3.out.cell 2 _ rfl
      have z3 := bP3.out.cell 3 _ rfl
      have z4 := bP3.out.cell 4 _ rfl
      have z5 := bP3.out.cell 5 _ rfl
      go_wp2_with fail
      try (go_quiet (fail); go_wp2_with fail)
      refine bodyPost_ret (v := .tuple #[.slice pe env.length ec, .bool false]) (by first | (simp [results, Tryz.results35, go_sem]; done) | (simp [results, Tryz.results35, go_sem, c2]; done) | (simp [results, Tryz.results35, go_sem, Ne.symm c2]; done) | (simp [results, Tryz.results35, go_sem, c1]; done)) rfl ⟨?_, by first | exact K3.out | exact below_drewN K3.out _ | exact K3.out.drew⟩
      rw [HS.out]
      exact ⟨_, rfl⟩
  by_cases v4 : vk = 4
  · subst v4
    by_cases c1 : pk = 6
    · subst c1
      have HS : Hid (matchM (d + 1) (k + 1) (Ex.mk 6 pn pt pm pks pcl) (Va.mk 4 vn vt vks) env = kidsL (matchM (d + 1) k) pks vks env) := by show _ = _; rw [HM.out]; simp [kidsL]
      have HL1 : Hid (env.length + (pks.map (ndE k)).sum ≤ 1048576) := by have := HL.out; show _ ≤ _; omega
      have htwo : vl = 2 := H22.out.1 rfl
      subst htwo
      have q_numberValue := as_consValue_numberValue
      have q_atomValue := as_consValue_atomValue
      have q_tupleValue := as_consValue_tupleValue
      have q_nilValue := as_consValue_nilValue
      have q_consValue := as_consValue_consValue
      go_enter Tryz.func35, Tryz.ntmps35
      go_wp2_with fail
      refine (vof4 vn vt vp 2 vc _).mono ?_
      rintro e w1 ⟨rfl, hb⟩
      have bP1 := bP.out.next hb
      have HE1 : Hid (BnB N w0 (d + 1) w1 (.slice pe env.length ec) env) := BnG.next HEA.out hb
      have K1 : Hid (Below N w w1) := HA.out.trans (hb.mono (Nat.le_trans hN HA.out.size))
      clear hb
      have hal3 : Below w1.heap.size w1 (w1.alloc (.cells #[.slice vp 2 vc] 96)) := (Below.refl _ _).alloc (Nat.le_refl _) _
      have HE3 : Hid (BnB N w0 (d + 1) (w1.alloc (.cells #[.slice vp 2 vc] 96)) (.slice pe env.length ec) env) := BnG.next HE1.out hal3
      have K3 : Hid (Below N w (w1.alloc (.cells #[.slice vp 2 vc] 96))) := K1.out.trans (hal3.mono (Nat.le_trans hN K1.out.size))
      have bP3 : Hid (Blk (w1.alloc (.cells #[.slice vp 2 vc] 96)) w.heap.size #[.int .i64 6, .int .i64 pn, .string pt, .string pm, .slice pp pl pc, .slice qp ql qc] 33) := bP1.alloc
      have bX3 : Hid (Blk (w1.alloc (.cells #[.slice vp 2 vc] 96)) w1.heap.size #[.slice vp 2 vc] 96) := Blk.new
      clear hal3
      have z0 := bP3.out.cell 0 _ rfl
      have z1 := bP3.out.cell 1 _ rfl
      have z2 := bP3.out.cell 2 _ rfl
      have z3 := bP3.out.cell 3 _ rfl
      have z4 := bP3.out.cell 4 _ rfl
      have z5 := bP3.out.cell 5 _ rfl
      have x0 := bX3.out.cell 0 _ rfl
      go_wp2_with fail
      refine (two_any vp 2 vc _ (by omega)).mono ?_
      rintro e w4 ⟨rfl, hb⟩
      have HE4 : Hid (BnB N w0 (d + 1) w4 (.slice pe env.length ec) env) := BnG.next HE3.out hb
      have K4 : Hid (Below N w w4) := K3.out.trans (hb.mono (Nat.le_trans hN K3.out.size))
      have bP4 : Hid (Blk w4 w.heap.size #[.int .i64 6, .int .i64 pn, .string pt, .string pm, .slice pp pl pc, .slice qp ql qc] 33) := bP3.out.next hb
      have bX4 : Hid (Blk w4 w1.heap.size #[.slice vp 2 vc] 96) := bX3.out.next hb
      clear hb x0 z0 z1 z2 z3 z4 z5
      have x0 := bX4.out.cell 0 _ rfl
      have z4 := bP4.out.cell 4 _ rfl
      go_wp2_with fail
      cases hmx : kidsL (matchM (d + 1) k) pks vks env with
      | none =>
        have HMX : Hid (kidsL (matchM (d + 1) k) pks vks env = none) := hmx
        have HS2 : Hid (matchM (d + 1) (k + 1) (Ex.mk 6 pn pt pm pks pcl) (Va.mk 4 vn vt vks) env = none) := by show _ = _; rw [HS.out, hmx]
        clear hmx
        go_region_law
          (first
            | (go_simp; go_at_call 62; refine (partsC_any _ _ _ _).mono ?_; rintro e w5 ⟨rfl, hb5⟩; have L5 : Hid (Below w4.heap.size w4 w5) := ⟨hb5.os, hb5.tape, hb5.output, hb5.size, hb5.block⟩; have HE5 : Hid (BnB N w0 (d + 1) w5 (.slice pe env.length ec) env) := BnG.next HE4.out L5.out; have K5 : Hid (Below N w w5) := K4.out.trans (L5.out.mono (Nat.le_trans hN K4.out.size)); have z4' := (bP4.out.next L5.out).cell 4 _ rfl; clear hb5; dsimp only)
            | (go_simp; go_at_call 59; refine (hK _ _ pks _ vks _ env (HB0.out.trans K5.out) KR.out LR.out H22.out.2 HE5.out HL1.out).mono ?_; rintro e w6 ⟨ht, hb6⟩; rw [HMX.out] at ht; obtain ⟨ev', rfl⟩ := ht; have K6 : Hid (Below N w w6) := K5.out.trans hb6; clear hb6; dsimp only))
        all_goals
          go_wp2_with fail
          refine bodyPost_ret (v := .tuple #[ev', .bool false]) (by first | (simp [results, Tryz.results35, go_sem]; done) | (simp [results, Tryz.results35, go_sem, c2]; done) | (simp [results, Tryz.results35, go_sem, Ne.symm c2]; done) | (simp [results, Tryz.results35, go_sem, c1]; done)) rfl ⟨?_, K6.out⟩
          rw [HS2.out]
          exact ⟨_, rfl⟩
      | some out =>
        have HMX : Hid (kidsL (matchM (d + 1) k) pks vks env = some out) := hmx
        have HS2 : Hid (matchM (d + 1) (k + 1) (Ex.mk 6 pn pt pm pks pcl) (Va.mk 4 vn vt vks) env = some out) := by show _ = _; rw [HS.out, hmx]
        clear hmx
        go_region_law
          (first
            | (go_simp; go_at_call 62; refine (partsC_any _ _ _ _).mono ?_; rintro e w5 ⟨rfl, hb5⟩; have L5 : Hid (Below w4.heap.size w4 w5) := ⟨hb5.os, hb5.tape, hb5.output, hb5.size, hb5.block⟩; have HE5 : Hid (BnB N w0 (d + 1) w5 (.slice pe env.length ec) env) := BnG.next HE4.out L5.out; have K5 : Hid (Below N w w5) := K4.out.trans (L5.out.mono (Nat.le_trans hN K4.out.size)); have z4' := (bP4.out.next L5.out).cell 4 _ rfl; clear hb5; dsimp only)
            | (go_simp; go_at_call 59; refine (hK _ _ pks _ vks _ env (HB0.out.trans K5.out) KR.out LR.out H22.out.2 HE5.out HL1.out).mono ?_; rintro e w6 ⟨ht, hb6⟩; rw [HMX.out] at ht; obtain ⟨ev', rfl, hrows⟩ := ht; have HR6 : Hid (BnB N w0 (d + 1) w6 ev' out) := hrows; clear hrows; have K6 : Hid (Below N w w6) := K5.out.trans hb6; clear hb6; dsimp only))
        all_goals
          go_wp2_with fail
          refine bodyPost_ret (v := .tuple #[ev', .bool true]) (by first | (simp [results, Tryz.results35, go_sem]; done) | (simp [results, Tryz.results35, go_sem, c2]; done) | (simp [results, Tryz.results35, go_sem, Ne.symm c2]; done) | (simp [results, Tryz.results35, go_sem, c1]; done)) rfl ⟨?_, K6.out⟩
          rw [HS2.out]
          exact ⟨_, rfl, HR6.out⟩
    · skip
      have HS : Hid (matchM (d + 1) (k + 1) (Ex.mk pk pn pt pm pks pcl) (Va.mk 4 vn vt vks) env = none) := by show _ = _; rw [HM.out]; simp [c1, e2, e3]
      have q_numberValue := as_consValue_numberValue
      have q_atomValue := as_consValue_atomValue
      have q_tupleValue := as_consValue_tupleValue
      have q_nilValue := as_consValue_nilValue
      have q_consValue := as_consValue_consValue
      go_enter Tryz.func35, Tryz.ntmps35
      go_wp2_with fail
      refine (vof4 vn vt vp vl vc _).mono ?_
      rintro e w1 ⟨rfl, hb⟩
      have bP1 := bP.out.next hb
      have HE1 : Hid (BnB N w0 (d + 1) w1 (.slice pe env.length ec) env) := BnG.next HEA.out hb
      have K1 : Hid (Below N w w1) := HA.out.trans (hb.mono (Nat.le_trans hN HA.out.size))
      clear hb
      have hal3 : Below w1.heap.size w1 (w1.alloc (.cells #[.slice vp vl vc] 96)) := (Below.refl _ _).alloc (Nat.le_refl _) _
      have HE3 : Hid (BnB N w0 (d + 1) (w1.alloc (.cells #[.slice vp vl vc] 96)) (.slice pe env.length ec) env) := BnG.next HE1.out hal3
      have K3 : Hid (Below N w (w1.alloc (.cells #[.slice vp vl vc] 96))) := K1.out.trans (hal3.mono (Nat.le_trans hN K1.out.size))
      have bP3 : Hid (Blk (w1.alloc (.cells #[.slice vp vl vc] 96)) w.heap.size #[.int .i64 pk, .int .i64 pn, .string pt, .string pm, .slice pp pl pc, .slice qp ql qc] 33) := bP1.alloc
      have bX3 : Hid (Blk (w1.alloc (.cells #[.slice vp vl vc] 96)) w1.heap.size #[.slice vp vl vc] 96) := Blk.new
      clear hal3
      have z0 := bP3.out.cell 0 _ rfl
      have z1 := bP3.out.cell 1 _ rfl
      have z2 := bP3.out.cell 2 _ rfl
      have z3 := bP3.out.cell 3 _ rfl
      have z4 := bP3.out.cell 4 _ rfl
      have z5 := bP3.out.cell 5 _ rfl
      go_wp2_with fail
      try (go_quiet (fail); go_wp2_with fail)
      refine bodyPost_ret (v := .tuple #[.slice pe env.length ec, .bool false]) (by first | (simp [results, Tryz.results35, go_sem]; done) | (simp [results, Tryz.results35, go_sem, c2]; done) | (simp [results, Tryz.results35, go_sem, Ne.symm c2]; done) | (simp [results, Tryz.results35, go_sem, c1]; done)) rfl ⟨?_, by first | exact K3.out | exact below_drewN K3.out _ | exact K3.out.drew⟩
      rw [HS.out]
      exact ⟨_, rfl⟩
  have HS : Hid (matchM (d + 1) (k + 1) (Ex.mk pk pn pt pm pks pcl) (Va.mk vk vn vt vks) env = none) := by show _ = _; rw [HM.out]; simp [v0, v1, v2, v3, v4, e2, e3]
  have q_numberValue := as_strangeValue_numberValue
  have q_atomValue := as_strangeValue_atomValue
  have q_tupleValue := as_strangeValue_tupleValue
  have q_nilValue := as_strangeValue_nilValue
  have q_consValue := as_strangeValue_consValue
  go_enter Tryz.func35, Tryz.ntmps35
  go_wp2_with fail
  refine (vofS vk vn vt vp vl vc _ v0 v1 v2 v3 v4).mono ?_
  rintro e w1 ⟨rfl, hb⟩
  have bP1 := bP.out.next hb
  have HE1 : Hid (BnB N w0 (d + 1) w1 (.slice pe env.length ec) env) := BnG.next HEA.out hb
  have K1 : Hid (Below N w w1) := HA.out.trans (hb.mono (Nat.le_trans hN HA.out.size))
  clear hb
  have HE3 : Hid (BnB N w0 (d + 1) w1 (.slice pe env.length ec) env) := HE1
  have K3 : Hid (Below N w w1) := K1
  have z0 := bP1.cell 0 _ rfl
  have z1 := bP1.cell 1 _ rfl
  have z2 := bP1.cell 2 _ rfl
  have z3 := bP1.cell 3 _ rfl
  have z4 := bP1.cell 4 _ rfl
  have z5 := bP1.cell 5 _ rfl
  go_wp2_with fail
  try (go_quiet (fail); go_wp2_with fail)
  refine bodyPost_ret (v := .tuple #[.slice pe env.length ec, .bool false]) (by first | (simp [results, Tryz.results35, go_sem]; done) | (simp [results, Tryz.results35, go_sem, c2]; done) | (simp [results, Tryz.results35, go_sem, Ne.symm c2]; done) | (simp [results, Tryz.results35, go_sem, c1]; done)) rfl ⟨?_, by first | exact K3.out | exact below_drewN K3.out _ | exact K3.out.drew⟩
  rw [HS.out]
  exact ⟨_, rfl⟩

/-- THE PROGRAM's fit. -/
theorem fit_all (N : Nat) (w0 : World) (d : Nat) : ∀ k, FitC N w0 d k
  | 0 => fun w pcs p vcs v ev env _ h => h.elim
  | k + 1 => fit_of (fitAll_of (fit_all N w0 d k))
end Go.Proofs.YtmnghlkkfkpjhaaGreatDoor
/-
  The specification's Match, by contract.
-/
namespace Go.Proofs.YtmnghlkkfkpjhaaGreatDoor
open Go.ChangeShapes Go.WideShapes Go.ChangeAt Go.RowKit
set_option linter.unusedVariables false
set_option maxRecDepth 100000

/-- What Match answers: what is bound then, or nothing. -/
def ToldE (r : Option (List Bd)) (d : Nat) (e : Ending) (w' : World) : Prop :=
  ∃ ev', e = .returned (.tuple #[ev', .bool r.isSome]) ∧ Rows w' All 5 (HBd w' All d) ev' (r.getD [])


set_option maxHeartbeats 8000000 in
theorem specMatch_any (d k : Nat) (w : World) (pcs : List Value) (p : Ex) (vcs : List Value) (v : Va) (ev : Value) (env : List Bd) (hp : HEx w All k pcs p) (hv : HVa w All d vcs v) (he : Rows w All 5 (HBd w All d) ev env)
    (hl : env.length + ndE k p ≤ 100000) (hw : ∀ out, matchM d k p v env = some out → ∀ b ∈ out, wtVa d b.val ≤ 1048576) :
    Calls Tryz.prog 9 #[.agg pcs.toArray, .agg vcs.toArray, ev] w fun e w' => ToldE (matchM d k p v env) d e w' ∧ Below w.heap.size w w' := by
  have HPP : Hid (∀ w', Below w.heap.size w w' → HEx w' All k pcs p) := fun w' hw => hp.mono (SameOn.of_below hw) (fun _ h => h)
  have HVV : Hid (∀ w', Below w.heap.size w w' → HVa w' All d vcs v) := fun w' hw => hv.mono (SameOn.of_below hw) (fun _ h => h)
  have RR : Hid (∀ w', Below w.heap.size w w' → Rows w' All 5 (HBd w' All d) ev env) := fun w' hw => he.mono (SameOn.of_below hw) (fun _ h => h) (fun _ _ _ h => h.mono (SameOn.of_below hw) (fun _ h => h))
  have HL : Hid (env.length + ndE k p ≤ 100000) := hl
  have HW : Hid (∀ out, matchM d k p v env = some out → ∀ b ∈ out, wtVa d b.val ≤ 1048576) := hw
  have hlen : pcs.length = 6 := by
    cases k with
    | zero => exact hp.elim
    | succ k => obtain ⟨kv, cv, rfl, _⟩ := hp; rfl
  obtain ⟨c0, c1, c2, c3, c4, c5, rfl⟩ := len6 hlen
  obtain ⟨sk, sn, st, p1, n1, q1, rfl⟩ := hv.shape
  obtain ⟨pe, ec, rfl, -⟩ := he
  have HA : Hid (Below w.heap.size w ((w.alloc (.cells #[c0, c1, c2, c3, c4, c5] 33)).alloc (.cells #[.int .i64 sk, .int .i64 sn, .string st, .slice p1 n1 q1] 26))) := ((Below.refl _ _).alloc (Nat.le_refl _) _).alloc (by simp) _
  clear hp hv hl hw
  go_enter Tryz.func9, Tryz.ntmps9
  go_wp2_with fail
  refine (l03Match_all d k _ _ p _ v _ env (HPP.out _ HA.out) (HVV.out _ HA.out) (RR.out _ HA.out) (by have := HL.out; omega)).mono ?_
  rintro e w1 ⟨ht, hb⟩
  have K1 : Hid (Below w.heap.size w w1) := HA.out.trans (hb.mono HA.out.size)
  clear hb
  cases hmx : matchM d k p v env with
  | none =>
    have HMX : Hid (matchM d k p v env = none) := hmx
    rw [hmx] at ht
    obtain ⟨ev', rfl⟩ := ht
    go_wp2_with fail
    refine bodyPost_ret (v := .tuple #[.slice (some ⟨w1.heap.size, 0, none⟩) 0 0, .bool false]) (by simp [results, Tryz.results9, go_sem]) rfl ⟨?_, K1.out.alloc K1.out.size _⟩
    rw [HMX.out]
    exact ⟨_, rfl, _, _, rfl, Nat.zero_le _, Nat.zero_le _, fun h => absurd rfl h⟩
  | some out =>
    have HMX : Hid (matchM d k p v env = some out) := hmx
    rw [hmx] at ht
    obtain ⟨ev', rfl, hrows⟩ := ht
    have HR1 : Hid (Rows w1 All 5 (HBd w1 All d) ev' out) := hrows
    have HLO : Hid (out.length ≤ 100000) := by have h1 := matchM_len d k p v env out hmx; have h2 := HL.out; show _ ≤ _; omega
    have HWO : Hid (∀ b ∈ out, wtVa d b.val ≤ 1048576) := HW.out out hmx
    clear hrows hmx
    go_wp2_with fail
    refine (l03CopyEnv_any d _ _ out HR1.out HLO.out HWO.out).mono ?_
    rintro e w2 ⟨u, rfl, hr2, hb⟩
    have HR2 : Hid (Rows w2 All 5 (HBd w2 All d) u out) := hr2
    have K2 : Hid (Below w.heap.size w w2) := K1.out.trans (hb.mono K1.out.size)
    clear hr2 hb
    go_wp2_with fail
    refine bodyPost_ret (v := .tuple #[u, .bool true]) (by simp [results, Tryz.results9, go_sem]) rfl ⟨?_, K2.out⟩
    rw [HMX.out]
    exact ⟨_, rfl, HR2.out⟩
end Go.Proofs.YtmnghlkkfkpjhaaGreatDoor
