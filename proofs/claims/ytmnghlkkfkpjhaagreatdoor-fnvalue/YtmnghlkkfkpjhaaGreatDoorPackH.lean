/-
  Texts of the proof, packed: MatchSpecC, LookSpec, GrowO.
-/
import Derived.Test.YtmnghlkkfkpjhaaGreatDoorPackG
import Derived.Deep.QuietTactic
import Derived.BigQuiet
import Derived.Deep.RegionWith
import Derived.Test.YtmnghlkkfkpjhaaGreatDoorPackC
import Derived.Test.YtmnghlkkfkpjhaaGreatDoorPackD
import Derived.Deep.RegionLaw
import Derived.Test.YtmnghlkkfkpjhaaGreatDoorPackB
import Derived.Deep.AppendLies
import Derived.OwnWalk
import Derived.Maps.AppendAt
/-
  The specification's l03Match, by contract.
-/
namespace Go.Proofs.YtmnghlkkfkpjhaaGreatDoor
open Go.ChangeShapes Go.WideShapes Go.ChangeAt Go.RowKit
set_option linter.unusedVariables false
set_option maxRecDepth 100000

set_option maxHeartbeats 16000000 in
theorem l03Match_of {d k : Nat} (hK : KidsC d k) : MatchC d (k + 1) := by
  intro w pcs p vcs v ev env hp hv he hl
  have HPP : Hid (∀ w', Below w.heap.size w w' → HEx w' All (k + 1) pcs p) := fun w' hw => hp.mono (SameOn.of_below hw) (fun _ h => h)
  have HVV : Hid (∀ w', Below w.heap.size w w' → HVa w' All d vcs v) := fun w' hw => hv.mono (SameOn.of_below hw) (fun _ h => h)
  have RR : Hid (∀ w', Below w.heap.size w w' → Rows w' All 5 (HBd w' All d) ev env) := fun w' hw => he.mono (SameOn.of_below hw) (fun _ h => h) (fun _ _ _ h => h.mono (SameOn.of_below hw) (fun _ h => h))
  obtain ⟨pe, ec, rfl, -⟩ := he
  obtain ⟨kv, cv, rfl, hk1, hk2, hk3, hk4, hks, hcs⟩ := hp
  obtain ⟨pk, pn, pt, pm, pks, pcl⟩ := p
  cases d with
  | zero => exact hv.elim
  | succ d =>
  obtain ⟨vv, rfl, hv1, hv2, hv3, hvs⟩ := hv
  obtain ⟨vk, vn, vt, vks⟩ := v
  simp only [Ex.kind, Ex.n, Ex.text, Ex.mod, Ex.kids, Ex.clauses, Va.kind, Va.n, Va.text, Va.kids] at *
  have KR : Hid (∀ w', Below w.heap.size w w' → Rows w' All 6 (HEx w' All k) kv pks) := fun w' hw => hks.mono (SameOn.of_below hw) (fun _ h => h) (fun _ _ _ h => h.mono (SameOn.of_below hw) (fun _ h => h))
  have LR : Hid (∀ w', Below w.heap.size w w' → Rows w' All 4 (HVa w' All (d + 1)) vv vks) := fun w' hw => hvs.mono (SameOn.of_below hw) (fun _ h => h) (fun _ _ _ h => (h.mono (SameOn.of_below hw) (fun _ h => h)).deeper (Nat.le_succ d))
  have HL : Hid (env.length + (1 + (pks.map (ndE k)).sum) ≤ 1048576) := hl
  obtain ⟨pp, pc, rfl, hpb, hpm, -⟩ := hks
  obtain ⟨qp, qc, rfl, -⟩ := hcs
  obtain ⟨vp, vc, rfl, hvb, hvm, -⟩ := hvs
  have hnb1 : pks.length ≤ 9223372036854775807 := by unfold maxLen at hpm; omega
  have hnb2 : vks.length ≤ 9223372036854775807 := by unfold maxLen at hvm; omega
  have HPL : Hid (∃ pl, pks.length = pl) := ⟨_, rfl⟩
  obtain ⟨pl, hpl⟩ := HPL.out
  have HVL : Hid (∃ vl, vks.length = vl) := ⟨_, rfl⟩
  obtain ⟨vl, hvl⟩ := HVL.out
  have HQL : Hid (∃ ql, pcl.length = ql) := ⟨_, rfl⟩
  obtain ⟨ql, hql⟩ := HQL.out
  rw [hpl] at KR HPP hnb1
  rw [hvl] at LR HVV hnb2
  rw [hql] at HPP
  rw [hpl, hvl, hql]
  have HM : Hid (matchM (d + 1) (k + 1) (Ex.mk pk pn pt pm pks pcl) (Va.mk vk vn vt vks) env = if pk = 0 then (if vk = 0 ∧ vn = pn then some env else none) else if pk = 1 then (if vk = 1 ∧ vt = pt then some env else none) else if pk = 2 then varM (d + 1) pt (Va.mk vk vn vt vks) env else if pk = 3 then some env
    else if pk = 4 then (if vk = 2 ∧ pks.length = vks.length then kidsM (matchM (d + 1) k) pks vks env else none) else if pk = 5 then (if vk = 3 then some env else none) else if pk = 6 then (if vk = 4 ∧ pks.length = vks.length then kidsM (matchM (d + 1) k) pks vks env else none) else none) := rfl
  have HA : Hid (Below w.heap.size w ((w.alloc (.cells #[.int .i64 pk, .int .i64 pn, .string pt, .string pm, .slice pp pl pc, .slice qp ql qc] 33)).alloc (.cells #[.int .i64 vk, .int .i64 vn, .string vt, .slice vp vl vc] 26))) := ((Below.refl _ _).alloc (Nat.le_refl _) _).alloc (by simp) _
  have HPT : Hid (okS pt) := hk3
  clear hk1 hk2 hk3 hk4 hv1 hv2 hv3 hpb hpm hvb hvm hl HPL HVL HQL hpl hvl hql
  by_cases e0 : pk = 0
  · subst e0
    by_cases c1 : vk = 0
    · subst c1
      by_cases c2 : vn = pn
      · subst c2
        have HS : Hid (matchM (d + 1) (k + 1) (Ex.mk 0 vn pt pm pks pcl) (Va.mk 0 vn vt vks) env = some env) := by show _ = _; rw [HM.out]; simp
        go_enter Tryz.func38, Tryz.ntmps38
        go_wp2_with fail
        try (go_quiet (fail); go_wp2_with fail)
        refine bodyPost_ret (v := .tuple #[.slice pe env.length ec, .bool true]) (by first | (simp [results, Tryz.results38, go_sem]; done) | (simp [results, Tryz.results38, go_sem, c2]; done) | (simp [results, Tryz.results38, go_sem, c1]; done)) rfl ⟨?_, by first | exact ((Below.refl _ _).alloc (Nat.le_refl _) _).alloc (by simp) _ | exact below_drewN (((Below.refl _ _).alloc (Nat.le_refl _) _).alloc (by simp) _) _ | exact (((Below.refl _ _).alloc (Nat.le_refl _) _).alloc (by simp) _).drew⟩
        rw [HS.out]
        exact ⟨_, rfl, RR.out _ (by first | exact ((Below.refl _ _).alloc (Nat.le_refl _) _).alloc (by simp) _ | exact below_drewN (((Below.refl _ _).alloc (Nat.le_refl _) _).alloc (by simp) _) _ | exact (((Below.refl _ _).alloc (Nat.le_refl _) _).alloc (by simp) _).drew)⟩
      · skip
        have HS : Hid (matchM (d + 1) (k + 1) (Ex.mk 0 pn pt pm pks pcl) (Va.mk 0 vn vt vks) env = none) := by show _ = _; rw [HM.out]; simp [c2]
        go_enter Tryz.func38, Tryz.ntmps38
        go_wp2_with fail
        try (go_quiet (fail); go_wp2_with fail)
        refine bodyPost_ret (v := .tuple #[.slice pe env.length ec, .bool false]) (by first | (simp [results, Tryz.results38, go_sem]; done) | (simp [results, Tryz.results38, go_sem, c2]; done) | (simp [results, Tryz.results38, go_sem, c1]; done)) rfl ⟨?_, by first | exact ((Below.refl _ _).alloc (Nat.le_refl _) _).alloc (by simp) _ | exact below_drewN (((Below.refl _ _).alloc (Nat.le_refl _) _).alloc (by simp) _) _ | exact (((Below.refl _ _).alloc (Nat.le_refl _) _).alloc (by simp) _).drew⟩
        rw [HS.out]
        exact ⟨_, rfl⟩
    · skip
      have HS : Hid (matchM (d + 1) (k + 1) (Ex.mk 0 pn pt pm pks pcl) (Va.mk vk vn vt vks) env = none) := by show _ = _; rw [HM.out]; simp [c1]
      go_enter Tryz.func38, Tryz.ntmps38
      go_wp2_with fail
      try (go_quiet (fail); go_wp2_with fail)
      refine bodyPost_ret (v := .tuple #[.slice pe env.length ec, .bool false]) (by first | (simp [results, Tryz.results38, go_sem]; done) | (simp [results, Tryz.results38, go_sem, c2]; done) | (simp [results, Tryz.results38, go_sem, c1]; done)) rfl ⟨?_, by first | exact ((Below.refl _ _).alloc (Nat.le_refl _) _).alloc (by simp) _ | exact below_drewN (((Below.refl _ _).alloc (Nat.le_refl _) _).alloc (by simp) _) _ | exact (((Below.refl _ _).alloc (Nat.le_refl _) _).alloc (by simp) _).drew⟩
      rw [HS.out]
      exact ⟨_, rfl⟩
  by_cases e1 : pk = 1
  · subst e1
    by_cases c1 : vk = 1
    · subst c1
      by_cases c2 : vt = pt
      · subst c2
        have HS : Hid (matchM (d + 1) (k + 1) (Ex.mk 1 pn vt pm pks pcl) (Va.mk 1 vn vt vks) env = some env) := by show _ = _; rw [HM.out]; simp
        go_enter Tryz.func38, Tryz.ntmps38
        go_wp2_with fail
        try (go_quiet (fail); go_wp2_with fail)
        refine bodyPost_ret (v := .tuple #[.slice pe env.length ec, .bool true]) (by first | (simp [results, Tryz.results38, go_sem]; done) | (simp [results, Tryz.results38, go_sem, c2]; done) | (simp [results, Tryz.results38, go_sem, c1]; done)) rfl ⟨?_, by first | exact ((Below.refl _ _).alloc (Nat.le_refl _) _).alloc (by simp) _ | exact below_drewN (((Below.refl _ _).alloc (Nat.le_refl _) _).alloc (by simp) _) _ | exact (((Below.refl _ _).alloc (Nat.le_refl _) _).alloc (by simp) _).drew⟩
        rw [HS.out]
        exact ⟨_, rfl, RR.out _ (by first | exact ((Below.refl _ _).alloc (Nat.le_refl _) _).alloc (by simp) _ | exact below_drewN (((Below.refl _ _).alloc (Nat.le_refl _) _).alloc (by simp) _) _ | exact (((Below.refl _ _).alloc (Nat.le_refl _) _).alloc (by simp) _).drew)⟩
      · have hq1 := str_ne c2
        have hq2 := str_neB c2
        have HS : Hid (matchM (d + 1) (k + 1) (Ex.mk 1 pn pt pm pks pcl) (Va.mk 1 vn vt vks) env = none) := by show _ = _; rw [HM.out]; simp [c2]
        go_enter Tryz.func38, Tryz.ntmps38
        go_wp2_with fail
        try (go_quiet (fail); go_wp2_with fail)
        refine bodyPost_ret (v := .tuple #[.slice pe env.length ec, .bool false]) (by first | (simp [results, Tryz.results38, go_sem]; done) | (simp [results, Tryz.results38, go_sem, c2]; done) | (simp [results, Tryz.results38, go_sem, c1]; done)) rfl ⟨?_, by first | exact ((Below.refl _ _).alloc (Nat.le_refl _) _).alloc (by simp) _ | exact below_drewN (((Below.refl _ _).alloc (Nat.le_refl _) _).alloc (by simp) _) _ | exact (((Below.refl _ _).alloc (Nat.le_refl _) _).alloc (by simp) _).drew⟩
        rw [HS.out]
        exact ⟨_, rfl⟩
    · skip
      have HS : Hid (matchM (d + 1) (k + 1) (Ex.mk 1 pn pt pm pks pcl) (Va.mk vk vn vt vks) env = none) := by show _ = _; rw [HM.out]; simp [c1]
      go_enter Tryz.func38, Tryz.ntmps38
      go_wp2_with fail
      try (go_quiet (fail); go_wp2_with fail)
      refine bodyPost_ret (v := .tuple #[.slice pe env.length ec, .bool false]) (by first | (simp [results, Tryz.results38, go_sem]; done) | (simp [results, Tryz.results38, go_sem, c2]; done) | (simp [results, Tryz.results38, go_sem, c1]; done)) rfl ⟨?_, by first | exact ((Below.refl _ _).alloc (Nat.le_refl _) _).alloc (by simp) _ | exact below_drewN (((Below.refl _ _).alloc (Nat.le_refl _) _).alloc (by simp) _) _ | exact (((Below.refl _ _).alloc (Nat.le_refl _) _).alloc (by simp) _).drew⟩
      rw [HS.out]
      exact ⟨_, rfl⟩
  by_cases e2 : pk = 2
  · subst e2
    have HS : Hid (matchM (d + 1) (k + 1) (Ex.mk 2 pn pt pm pks pcl) (Va.mk vk vn vt vks) env = varM (d + 1) pt (Va.mk vk vn vt vks) env) := by show _ = _; rw [HM.out]; simp
    have HL1 : Hid (env.length + 1 ≤ 1048576) := by have := HL.out; show _ ≤ _; omega
    go_enter Tryz.func38, Tryz.ntmps38
    go_wp2_with fail
    refine (l03Var_any (d + 1) _ pt HPT.out _ (Va.mk vk vn vt vks) _ env (HVV.out _ HA.out) (RR.out _ HA.out) HL1.out).mono ?_
    rintro e w1 ⟨ht, hb⟩
    have K1 : Hid (Below w.heap.size w w1) := HA.out.trans (hb.mono HA.out.size)
    clear hb
    cases hmx : varM (d + 1) pt (Va.mk vk vn vt vks) env with
    | none =>
      rw [hmx] at ht
      obtain ⟨ev', rfl⟩ := ht
      have HS2 : Hid (matchM (d + 1) (k + 1) (Ex.mk 2 pn pt pm pks pcl) (Va.mk vk vn vt vks) env = none) := by show _ = _; rw [HS.out, hmx]
      go_wp2_with fail
      refine bodyPost_ret (v := .tuple #[ev', .bool false]) (by first | (simp [results, Tryz.results38, go_sem]; done) | (simp [results, Tryz.results38, go_sem, c2]; done) | (simp [results, Tryz.results38, go_sem, c1]; done)) rfl ⟨?_, K1.out⟩
      rw [HS2.out]
      exact ⟨_, rfl⟩
    | some out =>
      rw [hmx] at ht
      obtain ⟨ev', rfl, hrows⟩ := ht
      have HS2 : Hid (matchM (d + 1) (k + 1) (Ex.mk 2 pn pt pm pks pcl) (Va.mk vk vn vt vks) env = some out) := by show _ = _; rw [HS.out, hmx]
      have HR1 : Hid (Rows w1 All 5 (HBd w1 All (d + 1)) ev' out) := hrows
      clear hrows
      go_wp2_with fail
      refine bodyPost_ret (v := .tuple #[ev', .bool true]) (by first | (simp [results, Tryz.results38, go_sem]; done) | (simp [results, Tryz.results38, go_sem, c2]; done) | (simp [results, Tryz.results38, go_sem, c1]; done)) rfl ⟨?_, K1.out⟩
      rw [HS2.out]
      exact ⟨_, rfl, HR1.out⟩
  by_cases e3 : pk = 3
  · subst e3
    have HS : Hid (matchM (d + 1) (k + 1) (Ex.mk 3 pn pt pm pks pcl) (Va.mk vk vn vt vks) env = some env) := by show _ = _; rw [HM.out]; simp
    go_enter Tryz.func38, Tryz.ntmps38
    go_wp2_with fail
    try (go_quiet (fail); go_wp2_with fail)
    refine bodyPost_ret (v := .tuple #[.slice pe env.length ec, .bool true]) (by first | (simp [results, Tryz.results38, go_sem]; done) | (simp [results, Tryz.results38, go_sem, c2]; done) | (simp [results, Tryz.results38, go_sem, c1]; done)) rfl ⟨?_, by first | exact ((Below.refl _ _).alloc (Nat.le_refl _) _).alloc (by simp) _ | exact below_drewN (((Below.refl _ _).alloc (Nat.le_refl _) _).alloc (by simp) _) _ | exact (((Below.refl _ _).alloc (Nat.le_refl _) _).alloc (by simp) _).drew⟩
    rw [HS.out]
    exact ⟨_, rfl, RR.out _ (by first | exact ((Below.refl _ _).alloc (Nat.le_refl _) _).alloc (by simp) _ | exact below_drewN (((Below.refl _ _).alloc (Nat.le_refl _) _).alloc (by simp) _) _ | exact (((Below.refl _ _).alloc (Nat.le_refl _) _).alloc (by simp) _).drew)⟩
  by_cases e4 : pk = 4
  · subst e4
    by_cases c1 : vk = 2
    · subst c1
      have HS : Hid (matchM (d + 1) (k + 1) (Ex.mk 4 pn pt pm pks pcl) (Va.mk 2 vn vt vks) env = kidsL (matchM (d + 1) k) pks vks env) := by show _ = _; rw [HM.out]; simp [kidsL]
      have HL1 : Hid (env.length + (pks.map (ndE k)).sum ≤ 1048576) := by have := HL.out; show _ ≤ _; omega
      go_enter Tryz.func38, Tryz.ntmps38
      go_wp2_with fail
      refine (hK _ _ pks _ vks _ env (KR.out _ HA.out) (LR.out _ HA.out) (RR.out _ HA.out) HL1.out).mono ?_
      rintro e w1 ⟨ht, hb⟩
      have K1 : Hid (Below w.heap.size w w1) := HA.out.trans (hb.mono HA.out.size)
      clear hb
      cases hmx : kidsL (matchM (d + 1) k) pks vks env with
      | none =>
        rw [hmx] at ht
        obtain ⟨ev', rfl⟩ := ht
        have HS2 : Hid (matchM (d + 1) (k + 1) (Ex.mk 4 pn pt pm pks pcl) (Va.mk 2 vn vt vks) env = none) := by show _ = _; rw [HS.out, hmx]
        go_wp2_with fail
        refine bodyPost_ret (v := .tuple #[ev', .bool false]) (by first | (simp [results, Tryz.results38, go_sem]; done) | (simp [results, Tryz.results38, go_sem, c2]; done) | (simp [results, Tryz.results38, go_sem, c1]; done)) rfl ⟨?_, K1.out⟩
        rw [HS2.out]
        exact ⟨_, rfl⟩
      | some out =>
        rw [hmx] at ht
        obtain ⟨ev', rfl, hrows⟩ := ht
        have HS2 : Hid (matchM (d + 1) (k + 1) (Ex.mk 4 pn pt pm pks pcl) (Va.mk 2 vn vt vks) env = some out) := by show _ = _; rw [HS.out, hmx]
        have HR1 : Hid (Rows w1 All 5 (HBd w1 All (d + 1)) ev' out) := hrows
        clear hrows
        go_wp2_with fail
        refine bodyPost_ret (v := .tuple #[ev', .bool true]) (by first | (simp [results, Tryz.results38, go_sem]; done) | (simp [results, Tryz.results38, go_sem, c2]; done) | (simp [results, Tryz.results38, go_sem, c1]; done)) rfl ⟨?_, K1.out⟩
        rw [HS2.out]
        exact ⟨_, rfl, HR1.out⟩
    · skip
      have HS : Hid (matchM (d + 1) (k + 1) (Ex.mk 4 pn pt pm pks pcl) (Va.mk vk vn vt vks) env = none) := by show _ = _; rw [HM.out]; simp [c1]
      go_enter Tryz.func38, Tryz.ntmps38
      go_wp2_with fail
      try (go_quiet (fail); go_wp2_with fail)
      refine bodyPost_ret (v := .tuple #[.slice pe env.length ec, .bool false]) (by first | (simp [results, Tryz.results38, go_sem]; done) | (simp [results, Tryz.results38, go_sem, c2]; done) | (simp [results, Tryz.results38, go_sem, c1]; done)) rfl ⟨?_, by first | exact ((Below.refl _ _).alloc (Nat.le_refl _) _).alloc (by simp) _ | exact below_drewN (((Below.refl _ _).alloc (Nat.le_refl _) _).alloc (by simp) _) _ | exact (((Below.refl _ _).alloc (Nat.le_refl _) _).alloc (by simp) _).drew⟩
      rw [HS.out]
      exact ⟨_, rfl⟩
  by_cases e5 : pk = 5
  · subst e5
    by_cases c1 : vk = 3
    · subst c1
      have HS : Hid (matchM (d + 1) (k + 1) (Ex.mk 5 pn pt pm pks pcl) (Va.mk 3 vn vt vks) env = some env) := by show _ = _; rw [HM.out]; simp
      go_enter Tryz.func38, Tryz.ntmps38
      go_wp2_with fail
      try (go_quiet (fail); go_wp2_with fail)
      refine bodyPost_ret (v := .tuple #[.slice pe env.length ec, .bool true]) (by first | (simp [results, Tryz.results38, go_sem]; done) | (simp [results, Tryz.results38, go_sem, c2]; done) | (simp [results, Tryz.results38, go_sem, c1]; done)) rfl ⟨?_, by first | exact ((Below.refl _ _).alloc (Nat.le_refl _) _).alloc (by simp) _ | exact below_drewN (((Below.refl _ _).alloc (Nat.le_refl _) _).alloc (by simp) _) _ | exact (((Below.refl _ _).alloc (Nat.le_refl _) _).alloc (by simp) _).drew⟩
      rw [HS.out]
      exact ⟨_, rfl, RR.out _ (by first | exact ((Below.refl _ _).alloc (Nat.le_refl _) _).alloc (by simp) _ | exact below_drewN (((Below.refl _ _).alloc (Nat.le_refl _) _).alloc (by simp) _) _ | exact (((Below.refl _ _).alloc (Nat.le_refl _) _).alloc (by simp) _).drew)⟩
    · skip
      have HS : Hid (matchM (d + 1) (k + 1) (Ex.mk 5 pn pt pm pks pcl) (Va.mk vk vn vt vks) env = none) := by show _ = _; rw [HM.out]; simp [c1]
      go_enter Tryz.func38, Tryz.ntmps38
      go_wp2_with fail
      try (go_quiet (fail); go_wp2_with fail)
      refine bodyPost_ret (v := .tuple #[.slice pe env.length ec, .bool false]) (by first | (simp [results, Tryz.results38, go_sem]; done) | (simp [results, Tryz.results38, go_sem, c2]; done) | (simp [results, Tryz.results38, go_sem, c1]; done)) rfl ⟨?_, by first | exact ((Below.refl _ _).alloc (Nat.le_refl _) _).alloc (by simp) _ | exact below_drewN (((Below.refl _ _).alloc (Nat.le_refl _) _).alloc (by simp) _) _ | exact (((Below.refl _ _).alloc (Nat.le_refl _) _).alloc (by simp) _).drew⟩
      rw [HS.out]
      exact ⟨_, rfl⟩
  by_cases e6 : pk = 6
  · subst e6
    by_cases c1 : vk = 4
    · subst c1
      have HS : Hid (matchM (d + 1) (k + 1) (Ex.mk 6 pn pt pm pks pcl) (Va.mk 4 vn vt vks) env = kidsL (matchM (d + 1) k) pks vks env) := by show _ = _; rw [HM.out]; simp [kidsL]
      have HL1 : Hid (env.length + (pks.map (ndE k)).sum ≤ 1048576) := by have := HL.out; show _ ≤ _; omega
      go_enter Tryz.func38, Tryz.ntmps38
      go_wp2_with fail
      refine (hK _ _ pks _ vks _ env (KR.out _ HA.out) (LR.out _ HA.out) (RR.out _ HA.out) HL1.out).mono ?_
      rintro e w1 ⟨ht, hb⟩
      have K1 : Hid (Below w.heap.size w w1) := HA.out.trans (hb.mono HA.out.size)
      clear hb
      cases hmx : kidsL (matchM (d + 1) k) pks vks env with
      | none =>
        rw [hmx] at ht
        obtain ⟨ev', rfl⟩ := ht
        have HS2 : Hid (matchM (d + 1) (k + 1) (Ex.mk 6 pn pt pm pks pcl) (Va.mk 4 vn vt vks) env = none) := by show _ = _; rw [HS.out, hmx]
        go_wp2_with fail
        refine bodyPost_ret (v := .tuple #[ev', .bool false]) (by first | (simp [results, Tryz.results38, go_sem]; done) | (simp [results, Tryz.results38, go_sem, c2]; done) | (simp [results, Tryz.results38, go_sem, c1]; done)) rfl ⟨?_, K1.out⟩
        rw [HS2.out]
        exact ⟨_, rfl⟩
      | some out =>
        rw [hmx] at ht
        obtain ⟨ev', rfl, hrows⟩ := ht
        have HS2 : Hid (matchM (d + 1) (k + 1) (Ex.mk 6 pn pt pm pks pcl) (Va.mk 4 vn vt vks) env = some out) := by show _ = _; rw [HS.out, hmx]
        have HR1 : Hid (Rows w1 All 5 (HBd w1 All (d + 1)) ev' out) := hrows
        clear hrows
        go_wp2_with fail
        refine bodyPost_ret (v := .tuple #[ev', .bool true]) (by first | (simp [results, Tryz.results38, go_sem]; done) | (simp [results, Tryz.results38, go_sem, c2]; done) | (simp [results, Tryz.results38, go_sem, c1]; done)) rfl ⟨?_, K1.out⟩
        rw [HS2.out]
        exact ⟨_, rfl, HR1.out⟩
    · skip
      have HS : Hid (matchM (d + 1) (k + 1) (Ex.mk 6 pn pt pm pks pcl) (Va.mk vk vn vt vks) env = none) := by show _ = _; rw [HM.out]; simp [c1]
      go_enter Tryz.func38, Tryz.ntmps38
      go_wp2_with fail
      try (go_quiet (fail); go_wp2_with fail)
      refine bodyPost_ret (v := .tuple #[.slice pe env.length ec, .bool false]) (by first | (simp [results, Tryz.results38, go_sem]; done) | (simp [results, Tryz.results38, go_sem, c2]; done) | (simp [results, Tryz.results38, go_sem, c1]; done)) rfl ⟨?_, by first | exact ((Below.refl _ _).alloc (Nat.le_refl _) _).alloc (by simp) _ | exact below_drewN (((Below.refl _ _).alloc (Nat.le_refl _) _).alloc (by simp) _) _ | exact (((Below.refl _ _).alloc (Nat.le_refl _) _).alloc (by simp) _).drew⟩
      rw [HS.out]
      exact ⟨_, rfl⟩
  have HS : Hid (matchM (d + 1) (k + 1) (Ex.mk pk pn pt pm pks pcl) (Va.mk vk vn vt vks) env = none) := by show _ = _; rw [HM.out]; simp [e0, e1, e2, e3, e4, e5, e6]
  go_enter Tryz.func38, Tryz.ntmps38
  go_wp2_with fail
  try (go_quiet (fail); go_wp2_with fail)
  refine bodyPost_ret (v := .tuple #[.slice pe env.length ec, .bool false]) (by first | (simp [results, Tryz.results38, go_sem]; done) | (simp [results, Tryz.results38, go_sem, c2]; done) | (simp [results, Tryz.results38, go_sem, c1]; done)) rfl ⟨?_, by first | exact ((Below.refl _ _).alloc (Nat.le_refl _) _).alloc (by simp) _ | exact below_drewN (((Below.refl _ _).alloc (Nat.le_refl _) _).alloc (by simp) _) _ | exact (((Below.refl _ _).alloc (Nat.le_refl _) _).alloc (by simp) _).drew⟩
  rw [HS.out]
  exact ⟨_, rfl⟩

/-- THE SPECIFICATION's l03Match. -/
theorem l03Match_all (d : Nat) : ∀ k, MatchC d k
  | 0 => fun w pcs p vcs v ev env h => h.elim
  | k + 1 => l03Match_of (l03Kids_of (l03Match_all d k))
end Go.Proofs.YtmnghlkkfkpjhaaGreatDoor
/-
  The specification's Lookup and what it calls, by contract.
-/
namespace Go.Proofs.YtmnghlkkfkpjhaaGreatDoor
open Go.ChangeShapes Go.WideShapes Go.ChangeAt Go.RowKit
set_option linter.unusedVariables false

theorem infoVal : (Tryz.prog.info? 26).map (fun i => (i.zero, i.size, i.bytes)) = some (some (.agg #[.int .i64 0, .int .i64 0, .string ⟨#[]⟩, .slice none 0 0]), 4, 56) := by kernel_rfl
theorem ownsB_below {w w' : World} {B : Nat} {e : TypeId} {c n : Nat} {v : Value} {cells : List Value} (h : w.ownsRow B e c v n cells) (hb : Below w.heap.size w w') : w'.ownsRow B e c v n cells :=
  h.kept (grownBy_belowR (r := none) hb) (by cases v.ownBlock <;> simp)
theorem HVa.low {w : World} {S : Nat → Prop} : ∀ {d : Nat} {cs : List Value} {e : Va}, HVa w S d cs e → HVa w (fun a => S a ∧ a < w.heap.size) d cs e
  | 0, _, _, h => h.elim
  | d + 1, cs, e, h => by
    obtain ⟨kv, rfl, h1, h2, h3, p, cap, hv, g1, g2, hx⟩ := h
    refine ⟨kv, rfl, h1, h2, h3, p, cap, hv, g1, g2, fun hne => ?_⟩
    obtain ⟨g, off, hp, hS, hl, hat⟩ := hx hne
    refine ⟨g, off, hp, ⟨hS, hl⟩, hl, fun i x hi => ?_⟩
    obtain ⟨cs, q1, q2, q3⟩ := hat i x hi
    exact ⟨cs, q1, q2, q3.low⟩
theorem frozen_next {w w' : World} {a : Addr} {v : Value} (hb : Below w.heap.size w w') (h : w.cell? a = some v) (hf : w.frozen? a = false) : w'.frozen? a = false := by
  have hl : a.block < w.heap.size := by
    unfold World.cell? at h
    split at h
    · rename_i heq; exact (Array.getElem?_eq_some_iff.1 heq).1
    · cases h
  exact (World.frozen?_of_block (hb.block a.block hl)).trans hf

theorem hva_mono {d : Nat} (w w' : World) (S S' : Nat → Prop) (cs : List Value) (x : Va) (h : HVa w S d cs x) (h1 : SameOn S w w') (h2 : ∀ g, S g → S' g) : HVa w' S' d cs x := h.mono h1 h2
theorem Blk.grown {w w' : World} {b : Nat} {cs : Array Value} {t : TypeId} {row : Option Nat} (h : Blk w b cs t) (hg : w.grownBy w' row) (hne : some b ≠ row) : Blk w' b cs t := (hg.block b h.lt hne).trans h

set_option maxHeartbeats 8000000 in
set_option maxRecDepth 100000 in
theorem l03Copy_of {d : Nat} (hE : ToC 28 (fun w v e => ∃ cs, v = .agg cs.toArray ∧ HVa w All d cs e) (fun w S v e => ∃ cs, v = .agg cs.toArray ∧ HVa w S d cs e) (wtVa d)) :
    ToC 28 (fun w v e => ∃ cs, v = .agg cs.toArray ∧ HVa w All (d + 1) cs e) (fun w S v e => ∃ cs, v = .agg cs.toArray ∧ HVa w S (d + 1) cs e) (wtVa (d + 1)) := by
  intro w v x i1 hwt
  obtain ⟨cs, rfl, kv, rfl, o0, o1, o2, f0⟩ := i1
  obtain ⟨kx, nx, tx, es⟩ := x
  simp only [Va.kind, Va.n, Va.text, Va.kids] at *
  obtain ⟨p, cap, rfl, hcl, hcm, hx⟩ := f0
  have hw0 : wtS (wtVa d) es ≤ 1048576 := by have : wtVa (d + 1) (.mk kx nx tx es) = tx.size + wtS (wtVa d) es := rfl; omega
  have HWT : Hid (wtS (wtVa d) es ≤ 1048576) := hw0
  have HOK : Hid (okI kx ∧ okI nx ∧ okS tx) := ⟨o0, o1, o2⟩
  have hnb : es.length ≤ 1048576 := by unfold wtS at hw0; omega
  generalize hn : es.length = n at *
  have HN : Hid (es.length = n) := hn
  have HX : Hid (es ≠ [] → ∃ g off, p = some ⟨g, off, none⟩ ∧ All g ∧ g < w.heap.size ∧ ∀ i x, es[i]? = some x → ∃ cs, cs.length = 4 ∧ (∀ j, j < 4 → w.cell? ⟨g, off + i * 4 + j, none⟩ = cs[j]?) ∧ HVa w All d cs x) := hx
  obtain ⟨i0, hi, hz0, hz1, hz2⟩ := info_parts infoVal
  have HI : Hid (Tryz.prog.info? 26 = some i0 ∧ i0.zero = some (.agg #[.int .i64 0, .int .i64 0, .string ⟨#[]⟩, .slice none 0 0]) ∧ i0.size = 4 ∧ i0.bytes = 56) := ⟨hi, hz0, hz1, hz2⟩
  clear hx hn hwt hw0 o0 o1 o2 hi hz0 hz1 hz2
  obtain ⟨W3, hW3⟩ : ∃ W3, W3 = (((w.alloc (.cells #[.int .i64 kx, .int .i64 nx, .string tx, .slice p n cap] 26)).alloc (.cells #[.int .i64 0, .int .i64 0, .string ⟨#[]⟩, .slice none 0 0] 26)).alloc (.cells #[.int .i64 kx, .int .i64 nx, .string tx, .slice none 0 0] 26)) := ⟨_, rfl⟩
  have bA : Hid (Blk W3 w.heap.size #[.int .i64 kx, .int .i64 nx, .string tx, .slice p n cap] 26) := by show Blk _ _ _ _; rw [hW3]; exact Blk.new.alloc.alloc
  have bR : Hid (Blk W3 (w.heap.size + 1) #[.int .i64 0, .int .i64 0, .string ⟨#[]⟩, .slice none 0 0] 26) := by
    show Blk _ _ _ _
    rw [hW3]
    have := (Blk.new (w := (w.alloc (.cells #[.int .i64 kx, .int .i64 nx, .string tx, .slice p n cap] 26))) (cs := #[.int .i64 0, .int .i64 0, .string ⟨#[]⟩, .slice none 0 0]) (t := 26)).alloc (o := .cells #[.int .i64 kx, .int .i64 nx, .string tx, .slice none 0 0] 26)
    simp only [alloc_hs] at this
    exact this
  have bO : Hid (Blk W3 (w.heap.size + 1 + 1) #[.int .i64 kx, .int .i64 nx, .string tx, .slice none 0 0] 26) := by
    show Blk _ _ _ _
    rw [hW3]
    have := Blk.new (w := ((w.alloc (.cells #[.int .i64 kx, .int .i64 nx, .string tx, .slice p n cap] 26)).alloc (.cells #[.int .i64 0, .int .i64 0, .string ⟨#[]⟩, .slice none 0 0] 26))) (cs := #[.int .i64 kx, .int .i64 nx, .string tx, .slice none 0 0]) (t := 26)
    simp only [alloc_hs] at this
    exact this
  have B3 : Hid (Below w.heap.size w W3) := by show Below _ _ _; rw [hW3]; exact (((Below.refl _ _).alloc (Nat.le_refl _) _).alloc (by simp only [alloc_hs]; omega) _).alloc (by simp only [alloc_hs]; omega) _
  have HZ3 : Hid (W3.heap.size = w.heap.size + 3) := by show _ = _; rw [hW3]; simp only [alloc_hs]
  have HW3 : Hid (W3 = (((w.alloc (.cells #[.int .i64 kx, .int .i64 nx, .string tx, .slice p n cap] 26)).alloc (.cells #[.int .i64 0, .int .i64 0, .string ⟨#[]⟩, .slice none 0 0] 26)).alloc (.cells #[.int .i64 kx, .int .i64 nx, .string tx, .slice none 0 0] 26))) := hW3
  clear hW3
  go_enter Tryz.func28, Tryz.ntmps28
  go_wp2
  rw [← HW3.out]
  go_loopw [4] (fun iv wr => ∃ (k : Nat) (u : Value) (xs : List Value), k ≤ n ∧ iv = .int .i64 k ∧ Hid (Grow wr (w.heap.size + 3) 26 4 (fun w S => HVa w S d) es k u xs) ∧
      Hid (Blk wr w.heap.size #[.int .i64 kx, .int .i64 nx, .string tx, .slice p n cap] 26) ∧ Hid (Blk wr (w.heap.size + 1) #[.int .i64 0, .int .i64 0, .string ⟨#[]⟩, .slice none 0 0] 26) ∧ Hid (Blk wr (w.heap.size + 1 + 1) #[.int .i64 kx, .int .i64 nx, .string tx, u] 26) ∧ Hid (Below w.heap.size w wr)) (fun iv _ => n - (intOf iv).toNat)
  case atStart => exact ⟨0, .slice none 0 0, [], Nat.zero_le _, rfl, Grow.start (by rw [HZ3.out]; exact Nat.le_refl _), bA, bR, bO, B3⟩
  case round =>
    obtain ⟨k, u, xs, hk, rfl, HGR, cA, cR, cO, HB⟩ := hrel
    have xa3 := cA.out.cell 3 _ rfl
    have hlA := cA.out.lt
    have hlO := cO.out.lt
    by_cases hlt : k < n
    · obtain ⟨x, hxk⟩ : ∃ x, es[k]? = some x := ⟨es[k]'(by rw [HN.out]; exact hlt), List.getElem?_eq_getElem _⟩
      obtain ⟨g, off, rfl, -, hgl, hat⟩ := HX.out (by intro h; rw [h] at hxk; simp at hxk)
      obtain ⟨cs, hcs4, hcs, hex⟩ := hat k x hxk
      have E1 : ∀ w', SameOn All wr w' → HVa w' All d cs x := fun w' hw => hex.mono (SameOn.trans (SameOn.of_below HB.out) hw) (fun _ h => h)
      obtain ⟨ak, an, at_, pa, na, qa, rfl⟩ := hex.shape
      have a0 := hcs 0 (by omega)
      have a1 := hcs 1 (by omega)
      have a2 := hcs 2 (by omega)
      have a3 := hcs 3 (by omega)
      rw [← HB.out.cell (p := ⟨g, _, none⟩) hgl] at a0 a1 a2 a3
      simp at a0 a1 a2 a3
      have xo3 := cO.out.cell 3 _ rfl
      have zo3 := cO.out.frozen 3
      have hgw : g < wr.heap.size := Nat.lt_of_lt_of_le hgl HB.out.size
      have hki : (k : Int) < (n : Int) := by omega
      have hk0 : (0 : Int) ≤ (k : Int) := by omega
      have hwx : wtVa d x ≤ 1048576 := by
        have h1 := HWT.out
        have h2 := sum_take_succ (wtVa d) es k x hxk
        have h3 := sum_take_le (wtVa d) es (k + 1)
        unfold wtS at h1
        omega
      have nA : some w.heap.size ≠ u.ownBlock := fun e => by have := (owns_own_lt HGR.out.own e.symm).1; omega
      have nO : some (w.heap.size + 1 + 1) ≠ u.ownBlock := fun e => by have := (owns_own_lt HGR.out.own e.symm).1; omega
      have nR : some (w.heap.size + 1) ≠ u.ownBlock := fun e => by have := (owns_own_lt HGR.out.own e.symm).1; omega
      have nG : some g ≠ u.ownBlock := fun e => by have := (owns_own_lt HGR.out.own e.symm).1; omega
      have NN : Hid (some w.heap.size ≠ u.ownBlock ∧ some (w.heap.size + 1 + 1) ≠ u.ownBlock ∧ some g ≠ u.ownBlock ∧ some (w.heap.size + 1) ≠ u.ownBlock) := ⟨nA, nO, nG, nR⟩
      have hlow := HGR.out.low
      clear hat hcs hcs4 hex nA nO nG nR
      go_wp2_with fail
      go_region_law
        (first
          | (refine step_append_lies _ (by rfl) _ _ _ (by rfl) (w.heap.size + 3) 26 i0 _ 4 56 Tryz.underlying24 HI.out.1 HI.out.2.1 HI.out.2.2.1 HI.out.2.2.2 rfl (by omega) u k xs (by rfl) ((ownsB_below HGR.out.own K1.out).alloc _) ⟨w1.heap.size, 0, none⟩ 1 1 [.int .i64 sk, .int .i64 sn, .string st, .slice p1 n1 q1] (by rfl) (by rfl) (World.news_of_block (cs := #[.int .i64 sk, .int .i64 sn, .string st, .slice p1 n1 q1]) (t := 26) (fr := (0, 0)) (heap_alloc_new w1 _)) (by simp [Value.oneCell']) (by omega) (by unfold maxLen; omega) (by omega) (by simp; omega) (w1.heap.size + 1) (by simp) ?_; intro gg cap2 w2 hown hgrow hat2 hlt2; have y3 := (hgrow.cell_far ⟨w.heap.size + 1 + 1, 3, none⟩ (by simp; omega) NN.out.2.1).trans y2; have t3 := (hgrow.frozen_far ⟨w.heap.size + 1 + 1, 3, none⟩ (by simp; omega) NN.out.2.1).trans t2)
          | (go_simp; go_at_call 28; refine (hE _ _ x ⟨_, rfl, E1 _ (by exact ⟨Nat.le_refl _, fun _ _ _ => rfl⟩)⟩ hwx).mono ?_; rintro e w1 ⟨v', rfl, ⟨cs', rfl, hx1⟩, hb⟩; obtain ⟨sk, sn, st, p1, n1, q1, hsh⟩ := hx1.shape; subst hsh; have HX1 : Hid (HVa w1 (fun a => wr.heap.size ≤ a) d [.int .i64 sk, .int .i64 sn, .string st, .slice p1 n1 q1] x) := hx1; have K1 : Hid (Below wr.heap.size wr w1) := ⟨hb.os, hb.tape, hb.output, hb.size, hb.block⟩; have hs1 := hb.size; have hs1' : wr.heap.size ≤ w1.heap.size := hs1; have y1 := cell_next K1.out xo3; have t1 := frozen_next K1.out xo3 zo3; have y2 : (w1.alloc (.cells #[.int .i64 sk, .int .i64 sn, .string st, .slice p1 n1 q1] 26)).cell? ⟨w.heap.size + 1 + 1, 3, none⟩ = some u := cell_next ((Below.refl _ _).alloc (Nat.le_refl _) _) y1; have t2 : (w1.alloc (.cells #[.int .i64 sk, .int .i64 sn, .string st, .slice p1 n1 q1] 26)).frozen? ⟨w.heap.size + 1 + 1, 3, none⟩ = false := frozen_next ((Below.refl _ _).alloc (Nat.le_refl _) _) y1 t1; clear hx1 hs1; dsimp only))
      all_goals
        have hs2 := hgrow.size
        have hgro : Hid (Grow (w2.setCell ⟨w.heap.size + 1 + 1, 3, none⟩ (.slice (some ⟨gg, 0, none⟩) (k + 1) cap2)) (w.heap.size + 3) 26 4 (fun w S => HVa w S d) es (k + 1) (.slice (some ⟨gg, 0, none⟩) (k + 1) cap2) (xs ++ [.int .i64 sk, .int .i64 sn, .string st, .slice p1 n1 q1])) := Grow.step (R := fun w S => HVa w S d) (c := 4) (o := w.heap.size + 1 + 1) hva_mono HGR.out hxk K1.out HX1.out.low rfl ((Below.refl _ _).alloc (Nat.le_refl _) _) (H := w1.heap.size + 1) (by omega) (by simp) hown hgrow hat2 (by omega) 3 _
        have dA : Hid (Blk (w2.setCell ⟨w.heap.size + 1 + 1, 3, none⟩ (.slice (some ⟨gg, 0, none⟩) (k + 1) cap2)) w.heap.size #[.int .i64 kx, .int .i64 nx, .string tx, .slice (some ⟨g, off, none⟩) n cap] 26) := (((cA.out.next K1.out).alloc).grown hgrow NN.out.1).other (by show w.heap.size ≠ w.heap.size + 1 + 1; omega)
        have dR : Hid (Blk (w2.setCell ⟨w.heap.size + 1 + 1, 3, none⟩ (.slice (some ⟨gg, 0, none⟩) (k + 1) cap2)) (w.heap.size + 1) #[.int .i64 0, .int .i64 0, .string ⟨#[]⟩, .slice none 0 0] 26) := (((cR.out.next K1.out).alloc).grown hgrow NN.out.2.2.2).other (by show w.heap.size + 1 ≠ w.heap.size + 1 + 1; omega)
        have dO : Hid (Blk (w2.setCell ⟨w.heap.size + 1 + 1, 3, none⟩ (.slice (some ⟨gg, 0, none⟩) (k + 1) cap2)) (w.heap.size + 1 + 1) #[.int .i64 kx, .int .i64 nx, .string tx, (.slice (some ⟨gg, 0, none⟩) (k + 1) cap2)] 26) := (((cO.out.next K1.out).alloc).grown hgrow NN.out.2.1).same rfl
        have HB2 : Hid (Below w.heap.size w (w2.setCell ⟨w.heap.size + 1 + 1, 3, none⟩ (.slice (some ⟨gg, 0, none⟩) (k + 1) cap2))) := Below.setCell (((HB.out.trans (K1.out.mono HB.out.size)).trans (((Below.refl _ _).alloc (Nat.le_refl _) _).mono (by have := HB.out.size; omega))).grown hgrow (by simp; have := HB.out.size; omega) (fun j hj => by have := (owns_own_lt HGR.out.own hj).1; omega)) (by show _ ≤ w.heap.size + 1 + 1; omega) _
        clear hown hgrow hat2 hlt2 y1 y2 y3 t1 t2 t3 hb xo3 zo3 a0 a1 a2 a3 xa3 E1 HX1
        go_wp2_with fail
        exact ⟨⟨k + 1, _, _, by omega, by go_num, hgro, dA, dR, dO, HB2⟩, by simp [intOf]; omega⟩
    · obtain rfl : k = n := by omega
      obtain ⟨pu, cu, hu, -⟩ := id (Grow.done (R := fun w S => HVa w S d) hva_mono HGR.out HN.out)
      have HRW : Hid (Rows wr (fun a => w.heap.size + 3 ≤ a) 4 (HVa wr (fun a => w.heap.size + 3 ≤ a) d) u es) := Grow.done (R := fun w S => HVa w S d) hva_mono HGR.out HN.out
      rw [HN.out] at hu
      subst hu
      have xo0 := cO.out.cell 0 _ rfl
      have xo1 := cO.out.cell 1 _ rfl
      have xo2 := cO.out.cell 2 _ rfl
      have xo3 := cO.out.cell 3 _ rfl
      have r0 := cR.out.cell 0 _ rfl
      have r1 := cR.out.cell 1 _ rfl
      have r2 := cR.out.cell 2 _ rfl
      have r3 := cR.out.cell 3 _ rfl
      have z0 := cR.out.frozen 0
      have z1 := cR.out.frozen 1
      have z2 := cR.out.frozen 2
      have z3 := cR.out.frozen 3
      have bF : Blk ((((wr.setCell ⟨w.heap.size + 1, 0, none⟩ (.int .i64 kx)).setCell ⟨w.heap.size + 1, 1, none⟩ (.int .i64 nx)).setCell ⟨w.heap.size + 1, 2, none⟩ (.string tx)).setCell ⟨w.heap.size + 1, 3, none⟩ (.slice pu k cu)) (w.heap.size + 1) #[.int .i64 kx, .int .i64 nx, .string tx, .slice pu k cu] 26 := (((cR.out.same (j := 0) (v := .int .i64 kx) rfl).same (j := 1) (v := .int .i64 nx) rfl).same (j := 2) (v := .string tx) rfl).same (j := 3) (v := .slice pu k cu) rfl
      have c0 := bF.cell 0 _ rfl
      have c1 := bF.cell 1 _ rfl
      have c2 := bF.cell 2 _ rfl
      have c3 := bF.cell 3 _ rfl
      have HBF : Hid (Below w.heap.size w ((((wr.setCell ⟨w.heap.size + 1, 0, none⟩ (.int .i64 kx)).setCell ⟨w.heap.size + 1, 1, none⟩ (.int .i64 nx)).setCell ⟨w.heap.size + 1, 2, none⟩ (.string tx)).setCell ⟨w.heap.size + 1, 3, none⟩ (.slice pu k cu))) := Below.setCell (Below.setCell (Below.setCell (Below.setCell HB.out (by show _ ≤ w.heap.size + 1; omega) _) (by show _ ≤ w.heap.size + 1; omega) _) (by show _ ≤ w.heap.size + 1; omega) _) (by show _ ≤ w.heap.size + 1; omega) _
      have SF : Hid (SameOn (fun g => w.heap.size + 3 ≤ g) wr ((((wr.setCell ⟨w.heap.size + 1, 0, none⟩ (.int .i64 kx)).setCell ⟨w.heap.size + 1, 1, none⟩ (.int .i64 nx)).setCell ⟨w.heap.size + 1, 2, none⟩ (.string tx)).setCell ⟨w.heap.size + 1, 3, none⟩ (.slice pu k cu))) := SameOn.setCell (SameOn.setCell (SameOn.setCell (SameOn.setCell (SameOn.of_below (Below.refl _ _)) (by show ¬ (_ ≤ w.heap.size + 1); omega) _) (by show ¬ (_ ≤ w.heap.size + 1); omega) _) (by show ¬ (_ ≤ w.heap.size + 1); omega) _) (by show ¬ (_ ≤ w.heap.size + 1); omega) _
      clear bF
      go_wp2_with fail
      exact bodyPost_ret (v := .agg #[.int .i64 kx, .int .i64 nx, .string tx, .slice pu k cu]) (by simp [results, Tryz.results28, go_sem, c0, c1, c2, c3]) rfl
        ⟨_, rfl, ⟨[.int .i64 kx, .int .i64 nx, .string tx, .slice pu k cu], rfl, _, rfl, HOK.out.1, HOK.out.2.1, HOK.out.2.2, HRW.out.mono SF.out (fun a ha => by show _ ≤ _; have : w.heap.size + 3 ≤ a := ha; omega) (fun _ _ _ h => h.mono SF.out (fun a ha => by show _ ≤ _; have : w.heap.size + 3 ≤ a := ha; omega))⟩, HBF.out⟩

theorem l03Copy_all : ∀ d, ToC 28 (fun w v e => ∃ cs, v = .agg cs.toArray ∧ HVa w All d cs e) (fun w S v e => ∃ cs, v = .agg cs.toArray ∧ HVa w S d cs e) (wtVa d)
  | 0 => fun w v x ⟨_, _, h⟩ _ => h.elim
  | d + 1 => l03Copy_of (l03Copy_all d)

set_option maxHeartbeats 4000000 in
set_option maxRecDepth 100000 in
theorem specLookup_any (d : Nat) (w : World) (v : Value) (es : List Bd) (s : ByteArray) (h : Rows w All 5 (HBd w All d) v es) (hwt : wtS (wtBd d) es ≤ 1048576) :
    Calls Tryz.prog 12 #[v, .string s] w fun e w' => ∃ cs, e = .returned (.tuple #[.agg cs.toArray, .bool (lookR s es).2]) ∧ HVa w' All (d + 1) cs (lookR s es).1 ∧ Below w.heap.size w w' := by
  obtain ⟨p, cap, rfl, hcl, hcm, hx⟩ := h
  have hnb : es.length ≤ 9223372036854775807 := by unfold maxLen at hcm; omega
  generalize hn : es.length = n at *
  have HN : Hid (es.length = n) := hn
  have HWT : Hid (wtS (wtBd d) es ≤ 1048576) := hwt
  have HX : Hid (es ≠ [] → ∃ g off, p = some ⟨g, off, none⟩ ∧ All g ∧ g < w.heap.size ∧ ∀ i x, es[i]? = some x → ∃ cs, cs.length = 5 ∧ (∀ j, j < 5 → w.cell? ⟨g, off + i * 5 + j, none⟩ = cs[j]?) ∧ HBd w All d cs x) := hx
  clear hx hn hwt
  obtain ⟨W1, hW1⟩ : ∃ W1, W1 = w.alloc (.cells #[.int .i64 0, .int .i64 0, .string ⟨#[]⟩, .slice none 0 0] 26) := ⟨_, rfl⟩
  have bR : Hid (Blk W1 w.heap.size #[.int .i64 0, .int .i64 0, .string ⟨#[]⟩, .slice none 0 0] 26) := by show Blk _ _ _ _; rw [hW1]; exact Blk.new
  have B1 : Hid (Below w.heap.size w W1) := by show Below _ _ _; rw [hW1]; exact (Below.refl _ _).alloc (Nat.le_refl _) _
  have HW1 : Hid (W1 = w.alloc (.cells #[.int .i64 0, .int .i64 0, .string ⟨#[]⟩, .slice none 0 0] 26)) := hW1
  clear hW1
  go_enter Tryz.func12, Tryz.ntmps12
  go_wp2
  rw [← HW1.out]
  go_loopw [6] (fun iv wr => ∃ k : Nat, k ≤ n ∧ iv = .int .i64 k ∧ Hid (lookV s es = lookV s (es.drop k)) ∧ Hid (SameOn All W1 wr) ∧ Below w.heap.size w wr) (fun iv _ => n - (intOf iv).toNat)
  case atStart => exact ⟨0, Nat.zero_le _, rfl, rfl, ⟨Nat.le_refl _, fun _ _ _ => rfl⟩, B1.out⟩
  case round =>
    obtain ⟨k, hk, rfl, hsame, hso, hb⟩ := hrel
    have HB : Hid (Below w.heap.size w wr) := hb
    have b1 : Hid (Blk wr w.heap.size #[.int .i64 0, .int .i64 0, .string ⟨#[]⟩, .slice none 0 0] 26) := bR.out.same_on hso.out
    by_cases hlt : k < n
    · obtain ⟨x, hxk⟩ : ∃ x, es[k]? = some x := ⟨es[k]'(by rw [HN.out]; exact hlt), List.getElem?_eq_getElem _⟩
      obtain ⟨g, off, rfl, -, hgl, hat⟩ := HX.out (by intro h; rw [h] at hxk; simp at hxk)
      obtain ⟨cs, hcs5, hcs, hex⟩ := hat k x hxk
      obtain ⟨vs, rfl, -, hv⟩ := hex
      obtain ⟨sk, sn, st, p1, n1, q1, rfl⟩ := hv.shape
      have E1 : ∀ w', Below w.heap.size w w' → HVa w' All d [.int .i64 sk, .int .i64 sn, .string st, .slice p1 n1 q1] x.val := fun w' hw => hv.mono (SameOn.of_below hw) (fun _ h => h)
      have a0 := hcs 0 (by omega)
      have a1 := hcs 1 (by omega)
      have a2 := hcs 2 (by omega)
      have a3 := hcs 3 (by omega)
      have a4 := hcs 4 (by omega)
      rw [← hb.cell (p := ⟨g, _, none⟩) hgl] at a0 a1 a2 a3 a4
      simp at a0 a1 a2 a3 a4
      have hki : (k : Int) < (n : Int) := by omega
      have hk0 : (0 : Int) ≤ (k : Int) := by omega
      have hwx : wtVa d x.val ≤ 1048576 := by
        have h1 := HWT.out
        have h2 := sum_take_succ (wtBd d) es k x hxk
        have h3 := sum_take_le (wtBd d) es (k + 1)
        have h4 : wtBd d x = x.name.size + wtVa d x.val := rfl
        unfold wtS at h1
        omega
      obtain ⟨nm, vl⟩ := x
      simp only at *
      clear hb hat hcs hcs5 hv
      by_cases hs : nm = s
      · have HL : Hid (lookR s es = (vl, true)) := by show _ = _; exact lookR_some (by rw [hsame.out]; exact lookV_hit hxk hs)
        subst hs
        go_wp2_with fail
        refine (l03Copy_all d _ _ vl ⟨_, rfl, E1 _ HB.out⟩ hwx).mono ?_
        rintro e w1 ⟨u, rfl, ⟨cs, rfl, ho⟩, hb⟩
        obtain ⟨tk, tn, tt, p2, n2, q2, rfl⟩ := ho.shape
        have b4 := b1.out.next hb
        have r0 := b4.cell 0 _ rfl
        have r1 := b4.cell 1 _ rfl
        have r2 := b4.cell 2 _ rfl
        have r3 := b4.cell 3 _ rfl
        have z0 := b4.frozen 0
        have z1 := b4.frozen 1
        have z2 := b4.frozen 2
        have z3 := b4.frozen 3
        have hrl := b1.out.lt
        have bF : Blk ((((w1.setCell ⟨w.heap.size, 0, none⟩ (.int .i64 tk)).setCell ⟨w.heap.size, 1, none⟩ (.int .i64 tn)).setCell ⟨w.heap.size, 2, none⟩ (.string tt)).setCell ⟨w.heap.size, 3, none⟩ (.slice p2 n2 q2)) w.heap.size #[.int .i64 tk, .int .i64 tn, .string tt, .slice p2 n2 q2] 26 := (((b4.same (j := 0) (v := .int .i64 tk) rfl).same (j := 1) (v := .int .i64 tn) rfl).same (j := 2) (v := .string tt) rfl).same (j := 3) (v := .slice p2 n2 q2) rfl
        have c0 := bF.cell 0 _ rfl
        have c1 := bF.cell 1 _ rfl
        have c2 := bF.cell 2 _ rfl
        have c3 := bF.cell 3 _ rfl
        have HBF : Hid (Below w.heap.size w ((((w1.setCell ⟨w.heap.size, 0, none⟩ (.int .i64 tk)).setCell ⟨w.heap.size, 1, none⟩ (.int .i64 tn)).setCell ⟨w.heap.size, 2, none⟩ (.string tt)).setCell ⟨w.heap.size, 3, none⟩ (.slice p2 n2 q2))) := Below.setCell (Below.setCell (Below.setCell (Below.setCell (HB.out.trans (hb.mono HB.out.size)) (by show _ ≤ w.heap.size; omega) _) (by show _ ≤ w.heap.size; omega) _) (by show _ ≤ w.heap.size; omega) _) (by show _ ≤ w.heap.size; omega) _
        have SF : SameOn (fun a => wr.heap.size ≤ a) w1 ((((w1.setCell ⟨w.heap.size, 0, none⟩ (.int .i64 tk)).setCell ⟨w.heap.size, 1, none⟩ (.int .i64 tn)).setCell ⟨w.heap.size, 2, none⟩ (.string tt)).setCell ⟨w.heap.size, 3, none⟩ (.slice p2 n2 q2)) := SameOn.setCell (SameOn.setCell (SameOn.setCell (SameOn.setCell (SameOn.of_below (Below.refl _ _)) (by show ¬ (_ ≤ w.heap.size); omega) _) (by show ¬ (_ ≤ w.heap.size); omega) _) (by show ¬ (_ ≤ w.heap.size); omega) _) (by show ¬ (_ ≤ w.heap.size); omega) _
        have HO : Hid (HVa ((((w1.setCell ⟨w.heap.size, 0, none⟩ (.int .i64 tk)).setCell ⟨w.heap.size, 1, none⟩ (.int .i64 tn)).setCell ⟨w.heap.size, 2, none⟩ (.string tt)).setCell ⟨w.heap.size, 3, none⟩ (.slice p2 n2 q2)) All (d + 1) [.int .i64 tk, .int .i64 tn, .string tt, .slice p2 n2 q2] vl) := (ho.mono SF (fun _ _ => trivial)).deeper (by omega)
        clear ho hb b4 bF SF E1
        go_wp2_with fail
        exact bodyPost_ret (v := .tuple #[.agg #[.int .i64 tk, .int .i64 tn, .string tt, .slice p2 n2 q2], .bool true]) (by simp [results, Tryz.results12, go_sem, c0, c1, c2, c3]) rfl
          ⟨[.int .i64 tk, .int .i64 tn, .string tt, .slice p2 n2 q2], by rw [HL.out], by rw [HL.out]; exact HO.out, HBF.out⟩
      · have HL : Hid (lookV s es = lookV s (es.drop (k + 1))) := by show _ = _; rw [hsame.out]; exact lookV_miss hxk hs
        have hq1 := str_ne hs
        have hq2 := str_neB hs
        go_wp2
        exact ⟨⟨k + 1, by omega, by go_num, HL, hso, HB.out⟩, by simp [intOf]; omega⟩
    · have HL : Hid (lookR s es = (zeroVa, false)) := by
        show _ = _
        exact lookR_none (by rw [hsame.out, List.drop_of_length_le (by rw [HN.out]; omega)]; rfl)
      have r0 := b1.out.cell 0 _ rfl
      have r1 := b1.out.cell 1 _ rfl
      have r2 := b1.out.cell 2 _ rfl
      have r3 := b1.out.cell 3 _ rfl
      have z0 := b1.out.frozen 0
      have z1 := b1.out.frozen 1
      have z2 := b1.out.frozen 2
      have z3 := b1.out.frozen 3
      have HBF : Hid (Below w.heap.size w ((((wr.setCell ⟨w.heap.size, 0, none⟩ (.int .i64 0)).setCell ⟨w.heap.size, 1, none⟩ (.int .i64 0)).setCell ⟨w.heap.size, 2, none⟩ (.string ⟨#[]⟩)).setCell ⟨w.heap.size, 3, none⟩ (.slice none 0 0))) := Below.setCell (Below.setCell (Below.setCell (Below.setCell HB.out (by show _ ≤ w.heap.size; omega) _) (by show _ ≤ w.heap.size; omega) _) (by show _ ≤ w.heap.size; omega) _) (by show _ ≤ w.heap.size; omega) _
      clear hb
      go_wp2
      exact bodyPost_ret (v := .tuple #[.agg #[.int .i64 0, .int .i64 0, .string ⟨#[]⟩, .slice none 0 0], .bool false]) (by simp [results, Tryz.results12, go_sem, r0, r1, r2, r3]) rfl ⟨[.int .i64 0, .int .i64 0, .string ⟨#[]⟩, .slice none 0 0], by rw [HL.out], by rw [HL.out]; exact zero_HVa, HBF.out⟩
end Go.Proofs.YtmnghlkkfkpjhaaGreatDoor
/-
  A row that is grown by append, each element a tree that owns its memory; all of it in new memory.
-/
namespace Go.Proofs.YtmnghlkkfkpjhaaGreatDoor
open Go.ChangeShapes Go.WideShapes Go.ChangeAt Go.RowKit
set_option linter.unusedVariables false

/-- The row v holds just xs; its block and its elements' blocks lie from B up to C; no block is named twice. -/
def GrowO {α : Type} (e : TypeId) (c : Nat) (O : World → List Value → α → List Nat → Prop) (w : World) (B C : Nat) (v : Value) (xs : List α) : Prop :=
  ∃ (cells : List Value) (fps : List (List Nat)), w.ownsRow B e c v xs.length cells ∧ fps.length = xs.length ∧ fps.flatten.Nodup ∧
    (∀ (i : Nat) x f, xs[i]? = some x → fps[i]? = some f → ∃ cs : List Value, cs.length = c ∧ (∀ j, j < c → cells[i * c + j]? = cs[j]?) ∧ O w cs x f) ∧
    (∀ a ∈ fps.flatten, B ≤ a ∧ a < C ∧ v.ownBlock ≠ some a) ∧ (∀ a, v.ownBlock = some a → B ≤ a ∧ a < C) ∧ B ≤ C ∧ C ≤ w.heap.size

def KeepsC {α : Type} (O : World → List Value → α → List Nat → Prop) : Prop := ∀ (w w' : World) (cs : List Value) (x : α) (fp : List Nat), O w cs x fp → KeepOn fp w w' → O w' cs x fp
section
variable {α : Type} {e : TypeId} {c : Nat} {O : World → List Value → α → List Nat → Prop} {w w' : World} {B C : Nat} {v : Value} {xs : List α}
theorem ownsRow_blk {n : Nat} {cells : List Value} (h : w.ownsRow B e c v n cells) (hk : ∀ a, v.ownBlock = some a → w'.heap[a]? = w.heap[a]?) : w'.ownsRow B e c v n cells := by
  refine ⟨h.1, ?_⟩
  rcases h.2 with hn | ⟨g, cap, cur, hv, hB, hg, hr⟩
  · exact .inl hn
  · exact .inr ⟨g, cap, cur, hv, hB, (hk g (by rw [hv]; rfl)).trans hg, hr⟩
/-- Where its blocks stay it stays. -/
theorem GrowO.keep (hO : KeepsC O) (h : GrowO e c O w B C v xs) (hs : w.heap.size ≤ w'.heap.size) (hk : ∀ a, B ≤ a → a < C → w'.heap[a]? = w.heap[a]?) : GrowO e c O w' B C v xs := by
  obtain ⟨cells, fps, h1, h2, h3, h4, h5, h6, h7, h8⟩ := h
  refine ⟨cells, fps, ownsRow_blk h1 (fun a ha => hk a (h6 a ha).1 (h6 a ha).2), h2, h3, fun i x f hi hf => ?_, h5, h6, h7, Nat.le_trans h8 hs⟩
  obtain ⟨cs, g1, g2, g3⟩ := h4 i x f hi hf
  exact ⟨cs, g1, g2, hO _ _ _ _ _ g3 (fun a ha => by
    have := h5 a (List.mem_flatten.2 ⟨f, List.mem_of_getElem? hf, ha⟩)
    exact hk a this.1 this.2.1)⟩
theorem GrowO.next (hO : KeepsC O) (h : GrowO e c O w B C v xs) (hb : Below w.heap.size w w') : GrowO e c O w' B C v xs := by
  have h8 : C ≤ w.heap.size := by obtain ⟨_, _, _, _, _, _, _, _, _, h8⟩ := h; exact h8
  exact h.keep hO hb.size (fun a _ ha => hb.block a (by omega))
theorem GrowO.off (hO : KeepsC O) {pb : Nat} (h : GrowO e c O w B C v xs) (ho : Off [pb] w w') (hp : pb < B) : GrowO e c O w' B C v xs := by
  have h8 : C ≤ w.heap.size := by obtain ⟨_, _, _, _, _, _, _, _, _, h8⟩ := h; exact h8
  exact h.keep hO ho.size (fun a h1 h2 => ho.block a (by omega) (by simp; omega))
theorem GrowO.more {B' C' : Nat} (h : GrowO e c O w B C v xs) (hB : B' ≤ B) (hC : C ≤ C') (hs : C' ≤ w.heap.size) : GrowO e c O w B' C' v xs := by
  obtain ⟨cells, fps, h1, h2, h3, h4, h5, h6, h7, h8⟩ := h
  refine ⟨cells, fps, ⟨h1.1, ?_⟩, h2, h3, h4, fun a ha => ⟨by have := h5 a ha; omega, by have := h5 a ha; omega, (h5 a ha).2.2⟩, fun a ha => ⟨by have := h6 a ha; omega, by have := h6 a ha; omega⟩, by omega, hs⟩
  rcases h1.2 with hn | ⟨g, cap, cur, hv, hb, hr⟩
  · exact .inl hn
  · exact .inr ⟨g, cap, cur, hv, Nat.le_trans hB hb, hr⟩
theorem GrowO.nil (h : B ≤ w.heap.size) : GrowO e c O w B B (.slice none 0 0) [] :=
  ⟨[], [], ⟨by simp, .inl ⟨rfl, rfl⟩⟩, rfl, by simp, fun i x f hi => by simp at hi, fun a ha => by simp at ha, fun a ha => by simp [Value.ownBlock] at ha, Nat.le_refl _, h⟩
/-- The empty row that '[]T{}' makes. -/
theorem GrowO.fresh : GrowO e c O (w.alloc (.cells #[] e)) w.heap.size (w.heap.size + 1) (.slice (some ⟨w.heap.size, 0, none⟩) 0 0) [] := by
  refine ⟨[], [], ⟨by simp, .inr ⟨w.heap.size, 0, #[], rfl, Nat.le_refl _, Blk.new (w := w) (cs := #[]) (t := e), Nat.le_refl _, Nat.zero_le _, ?_, by simp⟩⟩, rfl, by simp, fun i x f hi => by simp at hi, fun a ha => by simp at ha, fun a ha => ?_, by omega, by simp⟩
  · simp
  · simp [Value.ownBlock] at ha; subst ha; exact ⟨Nat.le_refl _, by omega⟩
theorem GrowO.shape (h : GrowO e c O w B C v xs) : ∃ p cap, v = .slice p xs.length cap ∧ xs.length ≤ cap ∧ cap ≤ maxLen := by
  obtain ⟨cells, fps, h1, h2, -⟩ := h
  rcases h1.2 with ⟨hv, hn⟩ | ⟨g, cap, cur, hv, hb, hg, hc, hm, hr⟩
  · exact ⟨none, 0, by rw [hv, hn], by omega, Nat.zero_le _⟩
  · exact ⟨_, cap, hv, hc, hm⟩
/-- What append lays. -/
theorem GrowO.push (hO : KeepsC O) {wb : World} {cells : List Value} {fps : List (List Nat)} {x : α} {cs : List Value} {f : List Nat} {v' : Value} {D : Nat}
    (h1 : w.ownsRow B e c v xs.length cells) (h2 : fps.length = xs.length) (h3 : fps.flatten.Nodup)
    (h4 : ∀ (i : Nat) x f, xs[i]? = some x → fps[i]? = some f → ∃ cs : List Value, cs.length = c ∧ (∀ j, j < c → cells[i * c + j]? = cs[j]?) ∧ O w cs x f)
    (h5 : ∀ a ∈ fps.flatten, B ≤ a ∧ a < C ∧ v.ownBlock ≠ some a) (h6 : ∀ a, v.ownBlock = some a → B ≤ a ∧ a < C) (h7 : B ≤ C)
    (hf : O w cs x f) (hfn : f.Nodup) (hfr : ∀ a ∈ f, C ≤ a ∧ a < w.heap.size) (hcl : cs.length = c) (hwb : Below w.heap.size w wb) (hC : C ≤ w.heap.size)
    (hown : w'.ownsRow B e c v' (xs.length + 1) (cells ++ cs)) (hgr : wb.grownBy w' v.ownBlock) (hat : v'.ownBlock = v.ownBlock ∨ ∀ a, v'.ownBlock = some a → wb.heap.size ≤ a) (hD : w'.heap.size = D) :
    GrowO e c O w' B D v' (xs ++ [x]) := by
  have s1 := hwb.size
  have s2 := hgr.size
  have blk : ∀ a, a < w.heap.size → v.ownBlock ≠ some a → w'.heap[a]? = w.heap[a]? := fun a ha hn => (hgr.block a (by omega) (fun e => hn e.symm)).trans (hwb.block a ha)
  have hxl : cells.length = xs.length * c := h1.1
  have hfv : ∀ a ∈ f, v.ownBlock ≠ some a := fun a ha e => by have := h6 a e; have := hfr a ha; omega
  have hlt : ∀ a, v'.ownBlock = some a → B ≤ a ∧ a < w'.heap.size := fun a ha => by
    rcases hown.2 with ⟨hv, _⟩ | ⟨g, cap, cur, hv, hb, hg, _⟩
    · rw [hv] at ha; cases ha
    · rw [hv] at ha; simp [Value.ownBlock] at ha; subst ha; exact ⟨hb, (Array.getElem?_eq_some_iff.1 hg).1⟩
  have hne : ∀ a, a < w.heap.size → v.ownBlock ≠ some a → v'.ownBlock ≠ some a := fun a ha hn e => by
    rcases hat with h | h
    · rw [h] at e; exact hn e
    · have := h a e; omega
  refine ⟨cells ++ cs, fps ++ [f], by rw [List.length_append]; exact hown, by rw [List.length_append, List.length_append, h2]; rfl, ?_, fun i y f' hi hf' => ?_, fun a ha => ?_, fun a ha => by rw [← hD]; exact hlt a ha, by omega, by omega⟩
  · rw [List.flatten_append, List.nodup_append]
    refine ⟨h3, by simpa using hfn, fun a ha b hb => ?_⟩
    have := (h5 a ha).2.1
    have := (hfr b (by simpa using hb)).1
    omega
  · by_cases hik : i < xs.length
    · rw [List.getElem?_append_left hik] at hi
      rw [List.getElem?_append_left (by rw [h2]; exact hik)] at hf'
      obtain ⟨cs', g1, g2, g3⟩ := h4 i y f' hi hf'
      have hil : i * c + c ≤ xs.length * c := by rw [← Nat.succ_mul]; exact Nat.mul_le_mul_right c hik
      refine ⟨cs', g1, fun j hj => ?_, hO _ _ _ _ _ g3 (fun a ha => ?_)⟩
      · rw [List.getElem?_append_left (by omega)]; exact g2 j hj
      · have := h5 a (List.mem_flatten.2 ⟨f', List.mem_of_getElem? hf', ha⟩)
        exact blk a (by omega) this.2.2
    · have hil : i < xs.length + 1 := by
        have := (List.getElem?_eq_some_iff.1 hi).1
        rw [List.length_append] at this; simpa using this
      obtain rfl : i = xs.length := by omega
      rw [List.getElem?_append_right (Nat.le_refl _), Nat.sub_self] at hi
      rw [List.getElem?_append_right (by rw [h2]; exact Nat.le_refl _), h2, Nat.sub_self] at hf'
      simp at hi hf'
      subst hi; subst hf'
      refine ⟨cs, hcl, fun j hj => ?_, hO _ _ _ _ _ hf (fun a ha => blk a (hfr a ha).2 (hfv a ha))⟩
      rw [List.getElem?_append_right (by omega), hxl]; congr 1; omega
  · rw [List.flatten_append, List.mem_append] at ha
    rcases ha with ha | ha
    · have := h5 a ha
      exact ⟨this.1, by omega, hne a (by omega) this.2.2⟩
    · have ha' : a ∈ f := by simpa using ha
      have := hfr a ha'
      exact ⟨by omega, by omega, hne a this.2 (hfv a ha')⟩
/-- As a tree's row. -/
theorem GrowO.done (h : GrowO e c O w B C v xs) : ∃ fp, ORows w e c (O w) v xs fp ∧ fp.Nodup ∧ (∀ a ∈ fp, B ≤ a ∧ a < C) ∧ B ≤ C ∧ C ≤ w.heap.size := by
  obtain ⟨cells, fps, h1, h2, h3, h4, h5, h6, h7, h8⟩ := h
  by_cases hne : xs = []
  · subst hne
    refine ⟨[], .inl ⟨rfl, rfl, ?_⟩, by simp, fun a ha => by simp at ha, h7, h8⟩
    rcases h1.2 with ⟨hv, hn⟩ | ⟨g, cap, cur, hv, hb, hg, hc, hm, hr⟩
    · exact ⟨none, 0, hv, Nat.zero_le _⟩
    · exact ⟨_, cap, hv, hm⟩
  · rcases h1.2 with ⟨hv, hn⟩ | ⟨g, cap, cur, hv, hb, hg, hr⟩
    · exact absurd (List.length_eq_zero_iff.1 hn) hne
    · have hgo : v.ownBlock = some g := by rw [hv]; rfl
      refine ⟨g :: fps.flatten, .inr ⟨hne, cells, g, cap, fps, ⟨h1.1, .inr ⟨g, cap, cur, hv, Nat.zero_le _, hg, hr⟩⟩, hv, h2, rfl, h4⟩, ?_, fun a ha => ?_, h7, h8⟩
      · rw [List.nodup_cons]
        exact ⟨fun hm => (h5 g hm).2.2 hgo, h3⟩
      · rcases List.mem_cons.1 ha with rfl | ha
        · exact h6 _ hgo
        · exact ⟨(h5 a ha).1, (h5 a ha).2.1⟩
end
/-- An append of one element to a row that is grown. -/
theorem wpList_push {α : Type} {O : World → List Value → α → List Nat → Prop} (hO : KeepsC O) {ops : Array Oper} {rest : List Oper} {o : Oper} {a : Act} {Q : Exit → Act → World → Prop} {w : World} (t e : TypeId) (size bytes : Nat) (z : Value) (hgd : o.guard = none) (s x : Operand)
    (ho : o.op = .call { callee := .builtin .append, args := #[s, x], argTypes := #[t, t] }) (ht : Tryz.prog.underlying t = some (.slice e)) (hinfo : (Tryz.prog.info? e).map (fun i => (i.zero, i.size, i.bytes)) = some (some z, size, bytes))
    (hzs : z.cells.size = size) (hsz : 0 < size) (hby : bytes ≤ 1000) (B C : Nat) (v : Value) (xs : List α) (hs : a.eval s = v) (cs : List Value) (hx : a.eval x = .slice (some ⟨w.heap.size, 0, none⟩) 1 1) (y : α) (f : List Nat)
    (hG : GrowO e size O w B C v xs) (hf : O w cs y f) (hfn : f.Nodup) (hfr : ∀ a ∈ f, C ≤ a ∧ a < w.heap.size) (hcl : cs.length = size) (h1 : ∀ u ∈ cs, u.oneCell' = true) (hl : xs.length ≤ 100000000)
    (h : ∀ v' w', GrowO e size O w' B w'.heap.size v' (xs ++ [y]) → Below B (w.alloc (.cells cs.toArray e)) w' → wpList Tryz.prog ops Q rest (a.put o.dst v') w') :
    wpList Tryz.prog ops Q (o :: rest) a (w.alloc (.cells cs.toArray e)) := by
  cases hi : Tryz.prog.info? e with
  | none => rw [hi] at hinfo; cases hinfo
  | some i =>
    rw [hi] at hinfo
    simp only [Option.map_some, Option.some.injEq, Prod.mk.injEq] at hinfo
    obtain ⟨hz, hsize, hbytes⟩ := hinfo
    obtain ⟨cells, fps, g1, g2, g3, g4, g5, g6, g7, g8⟩ := hG
    have hb : Below w.heap.size w (w.alloc (.cells cs.toArray e)) := (Below.refl _ _).alloc (Nat.le_refl _) _
    have hown := ownsRow_blk (w' := w.alloc (.cells cs.toArray e)) g1 (fun a ha => hb.block a (by have := g6 a ha; omega))
    have hnews : ∀ j u, cs[j]? = some u → (w.alloc (.cells cs.toArray e)).cell? ((⟨w.heap.size, 0, none⟩ : Addr).add j) = some u := fun j u hj => by
      have := (Blk.new (w := w) (cs := cs.toArray) (t := e)).cell j u (by simpa using hj)
      rw [← this]
      unfold Addr.add
      by_cases h0 : j = 0
      · simp [h0]
      · simp [h0]
    have hb2 : (xs.length + 1) * bytes ≤ 140737488355328 := Nat.le_trans (Nat.mul_le_mul (show xs.length + 1 ≤ 100000001 by omega) hby) (by decide)
    refine wpList_append_own_at _ hgd s x t ho B e i z size bytes ht hi hz hsize hbytes hzs hsz v xs.length cells hs hown ⟨w.heap.size, 0, none⟩ 1 1 cs hx (by omega) hnews h1 (by unfold maxLen; omega) hb2 (by simp; omega) ?_
    intro v' w' hown' hgr _ hat
    refine h v' w' (GrowO.push hO g1 g2 g3 g4 g5 g6 g7 hf hfn hfr hcl hb g8 hown' hgr ?_ rfl) ⟨hgr.os, hgr.tape, hgr.output, hgr.size, fun j hj => hgr.block j (by simp; omega) (fun e => by have := (g6 j e.symm).1; omega)⟩
    rcases hat with h | h
    · exact .inl h
    · refine .inr (fun a ha => ?_)
      rw [h] at ha
      exact Nat.le_of_eq (Option.some.inj ha)
end Go.Proofs.YtmnghlkkfkpjhaaGreatDoor
