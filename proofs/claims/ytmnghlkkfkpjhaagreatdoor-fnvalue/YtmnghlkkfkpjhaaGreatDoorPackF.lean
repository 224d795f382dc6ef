/-
  Texts of the proof, packed: MatchSpecA, MatchImplA, MatchImplB.
-/
import Derived.Test.YtmnghlkkfkpjhaaGreatDoorPackC
import Derived.Test.YtmnghlkkfkpjhaaGreatDoorPackE
import Derived.Deep.RegionLaw
/-
  The specification's l03Var, by contract: a name against what is bound.
-/
namespace Go.Proofs.YtmnghlkkfkpjhaaGreatDoor
open Go.ChangeShapes Go.WideShapes Go.ChangeAt Go.RowKit
set_option linter.unusedVariables false
set_option maxRecDepth 100000

theorem info_bd : (Tryz.prog.info? 66).map (fun i => (i.zero, i.size, i.bytes)) = some (some (.agg #[.string ⟨#[]⟩, .int .i64 0, .int .i64 0, .string ⟨#[]⟩, .slice none 0 0]), 5, 72) := by kernel_rfl
theorem bd_oneCell {w : World} {S : Nat → Prop} {d : Nat} (cs : List Value) (b : Bd) (h : HBd w S d cs b) : ∀ u ∈ cs, u.oneCell' = true := by
  obtain ⟨se, sk, sn, st, p1, n1, q1, rfl⟩ := h.shape
  intro u hu
  simp only [List.mem_cons, List.not_mem_nil, or_false] at hu
  rcases hu with rfl | rfl | rfl | rfl | rfl <;> rfl

theorem grown_below {w w' : World} {N g : Nat} (h : w.grownBy w' (some g)) (hN : N ≤ g) (hs : N ≤ w.heap.size) : Below N w w' :=
  ⟨h.os, h.tape, h.output, h.size, fun j hj => h.block j (by omega) (fun e => by have := Option.some.inj e; omega)⟩
theorem grown_blk {w w' : World} {g b : Nat} {cs : Array Value} {t : TypeId} (h : w.grownBy w' (some g)) (hb : Blk w b cs t) (hne : b ≠ g) : Blk w' b cs t := (h.block b hb.lt (fun e => hne (Option.some.inj e))).trans hb
/-- append(s, xs...) where s is a new row without elements, as an arm of a region that draws its order. -/
theorem step_append_fresh {P : Program} {α : Type} {w : World} {c : Nat} {R : List Value → α → Prop} {S : Nat → Prop} {ops : Array Oper} {o : Oper} {a : Act} {K : Act → World → Prop} {Q : Exit → Act → World → Prop} {E : Prop} (hgd : o.guard = none) (s x : Operand) (t : TypeId)
    (ho : o.op = .call { callee := .builtin .append, args := #[s, x], argTypes := #[t, t] })
    (e : TypeId) (z : Value) (bytes : Nat) (ht : P.underlying t = some (.slice e)) (hi : (P.info? e).map (fun i => (i.zero, i.size, i.bytes)) = some (some z, c, bytes)) (hzs : z.cells.size = c) (hsz : 0 < c)
    (B g : Nat) (hg : Blk w g #[] e) (hB : B ≤ g) (hs : a.eval s = .slice (some ⟨g, 0, none⟩) 0 0) (u : Value) (m : List α) (hx : a.eval x = u) (hr : Rows w S c R u m) (hone : ∀ cs y, R cs y → ∀ q ∈ cs, q.oneCell' = true)
    (hl : m.length ≤ 1048576) (hb : bytes ≤ 1000)
    (k : ∀ v' w', OwnG e c R w' B v' m → w.grownBy w' (some g) → K (a.put o.dst v') w') : if Region.wanted o (yielded ops a.tmps) = true then Oper.wp P o a w K Q else E := by
  obtain ⟨i, hi', hz0, hz1, hz2⟩ := info_parts hi
  have hgl := hg.lt
  refine step_append_rows hgd s x t ho B e i z c bytes ht hi' hz0 hz1 hz2 hzs hsz (.slice (some ⟨g, 0, none⟩) 0 0) 0 [] hs ⟨by simp, .inr ⟨g, 0, #[], rfl, hB, hg, Nat.le_refl _, Nat.zero_le _, by simp, by simp⟩⟩ u m hx hr hone (by unfold maxLen; omega) (by
    have : (0 + m.length) * bytes ≤ 1048576 * 1000 := Nat.mul_le_mul (by omega) hb
    omega) (by omega) ?_
  intro v' w' news hc k1 k2
  refine k v' w' ⟨⟨news, by simpa using k1, hc⟩, ?_⟩ k2
  have := k2.size
  omega

/-- What a function that matches answers. -/
def Told (r : Option (List Bd)) (d : Nat) (e : Ending) (w' : World) : Prop := match r with
  | some out => ∃ ev', e = .returned (.tuple #[ev', .bool true]) ∧ Rows w' All 5 (HBd w' All d) ev' out
  | none => ∃ ev', e = .returned (.tuple #[ev', .bool false])

set_option maxHeartbeats 8000000 in
theorem l03Var_any (d : Nat) (w : World) (s : ByteArray) (hs : okS s) (vs : List Value) (x : Va) (ev : Value) (env : List Bd) (hx : HVa w All d vs x) (h : Rows w All 5 (HBd w All d) ev env) (hl : env.length + 1 ≤ 1048576) :
    Calls Tryz.prog 63 #[.string s, .agg vs.toArray, ev] w fun e w' => Told (varM d s x env) d e w' ∧ Below w.heap.size w w' := by
  obtain ⟨sk, sn, st, p1, n1, q1, rfl⟩ := hx.shape
  have HRW : Hid (Rows w All 5 (HBd w All d) ev env) := h
  have HXX : Hid (∀ w', SameOn All w w' → HVa w' All d [.int .i64 sk, .int .i64 sn, .string st, .slice p1 n1 q1] x) := fun w' hw => hx.mono hw (fun _ h => h)
  obtain ⟨p, cap, rfl, hcl, hcm, hr⟩ := h
  have hnb : env.length ≤ 9223372036854775807 := by omega
  have HL : Hid (env.length + 1 ≤ 1048576) := hl
  generalize hn : env.length = n at *
  have HN : Hid (env.length = n) := hn
  have HR : Hid (env ≠ [] → ∃ g off, p = some ⟨g, off, none⟩ ∧ All g ∧ g < w.heap.size ∧ ∀ i x, env[i]? = some x → ∃ cs, cs.length = 5 ∧ (∀ j, j < 5 → w.cell? ⟨g, off + i * 5 + j, none⟩ = cs[j]?) ∧ HBd w All d cs x) := hr
  obtain ⟨W1, hW1⟩ : ∃ W1, W1 = w.alloc (.cells #[.int .i64 sk, .int .i64 sn, .string st, .slice p1 n1 q1] 26) := ⟨_, rfl⟩
  have B1 : Hid (Below w.heap.size w W1) := by show Below _ _ _; rw [hW1]; exact (Below.refl _ _).alloc (Nat.le_refl _) _
  have b1 : Hid (Blk W1 w.heap.size #[.int .i64 sk, .int .i64 sn, .string st, .slice p1 n1 q1] 26) := by show Blk _ _ _ _; rw [hW1]; exact Blk.new
  have HW1 : Hid (W1 = w.alloc (.cells #[.int .i64 sk, .int .i64 sn, .string st, .slice p1 n1 q1] 26)) := hW1
  clear hr hn hx hl hW1
  go_enter Tryz.func63, Tryz.ntmps63
  go_wp2_with fail
  rw [← HW1.out]
  go_loopw [8] (fun iv wr => ∃ k : Nat, k ≤ n ∧ iv = .int .i64 k ∧ Hid (lookV s env = lookV s (env.drop k)) ∧ Hid (Blk wr w.heap.size #[.int .i64 sk, .int .i64 sn, .string st, .slice p1 n1 q1] 26) ∧ Hid (Below w.heap.size w wr)) (fun iv _ => n - (intOf iv).toNat)
  case atStart => exact ⟨0, Nat.zero_le _, rfl, by show _ = _; simp, b1, B1⟩
  case round =>
    obtain ⟨k, hk, rfl, hlook, bb, hb⟩ := hrel
    have y0 := bb.out.cell 0 _ rfl
    have y1 := bb.out.cell 1 _ rfl
    have y2 := bb.out.cell 2 _ rfl
    have y3 := bb.out.cell 3 _ rfl
    by_cases hlt : k < n
    · obtain ⟨y, hyk⟩ : ∃ y, env[k]? = some y := ⟨env[k]'(by rw [HN.out]; exact hlt), List.getElem?_eq_getElem _⟩
      obtain ⟨g, off, rfl, _, hgl, hat⟩ := HR.out (by intro h; rw [h] at hyk; simp at hyk)
      obtain ⟨cs, hcl6, hcs, us, rfl, hys, r1⟩ := hat k y hyk
      obtain ⟨uk, un, ut, p2, n2, q2, rfl⟩ := r1.shape
      have E1 : Hid (∀ w', SameOn All wr w' → HVa w' All d [.int .i64 uk, .int .i64 un, .string ut, .slice p2 n2 q2] y.val) := fun w' hw => r1.mono (SameOn.trans (SameOn.of_below hb.out) hw) (fun _ h => h)
      have a0 := hcs 0 (by omega)
      have a1 := hcs 1 (by omega)
      have a2 := hcs 2 (by omega)
      have a3 := hcs 3 (by omega)
      have a4 := hcs 4 (by omega)
      rw [← hb.out.cell (p := ⟨g, _, none⟩) hgl] at a0 a1 a2 a3 a4
      simp at a0 a1 a2 a3 a4
      have hki : (k : Int) < (n : Int) := by omega
      have hk0 : (0 : Int) ≤ (k : Int) := by omega
      by_cases hnn : y.name = s
      · have HV : Hid (varM d s x env = if cmpVa d y.val x = 0 then some env else none) := by show _ = _; unfold varM; rw [hlook.out, lookV_hit hyk hnn]
        subst hnn
        clear hcs hat hcl6 r1
        have hgw : g < wr.heap.size := Nat.lt_of_lt_of_le hgl hb.out.size
        have hzA := bb.out.lt
        have HCX : Hid (∀ w', SameOn All wr w' → HVa w' All d [.int .i64 sk, .int .i64 sn, .string st, .slice p1 n1 q1] x) := fun w' hw => HXX.out w' (SameOn.trans (SameOn.of_below hb.out) hw)
        generalize hcv : cmpVa d y.val x = cv at *
        have HCE : Hid (cmpVa d y.val x = cv) := hcv
        clear hcv
        have qq1 : ∀ m' : Wd (fun w' => SameOn All wr w' ∧ Below w.heap.size w w'), m'.val.cell? ⟨g, off + k * 5 + 1, none⟩ = some (.int .i64 uk) := fun m' => (World.cell?_of_block (m'.ok.1.2 g trivial hgw)).trans a1
        have qq2 : ∀ m' : Wd (fun w' => SameOn All wr w' ∧ Below w.heap.size w w'), m'.val.cell? ⟨g, off + k * 5 + 2, none⟩ = some (.int .i64 un) := fun m' => (World.cell?_of_block (m'.ok.1.2 g trivial hgw)).trans a2
        have qq3 : ∀ m' : Wd (fun w' => SameOn All wr w' ∧ Below w.heap.size w w'), m'.val.cell? ⟨g, off + k * 5 + 3, none⟩ = some (.string ut) := fun m' => (World.cell?_of_block (m'.ok.1.2 g trivial hgw)).trans a3
        have qq4 : ∀ m' : Wd (fun w' => SameOn All wr w' ∧ Below w.heap.size w w'), m'.val.cell? ⟨g, off + k * 5 + 4, none⟩ = some (.slice p2 n2 q2) := fun m' => (World.cell?_of_block (m'.ok.1.2 g trivial hgw)).trans a4
        have r0 : ∀ m' : Wd (fun w' => SameOn All wr w' ∧ Below w.heap.size w w'), m'.val.cell? ⟨w.heap.size, 0, none⟩ = some (.int .i64 sk) := fun m' => (World.cell?_of_block (m'.ok.1.2 w.heap.size trivial hzA)).trans y0
        have r1 : ∀ m' : Wd (fun w' => SameOn All wr w' ∧ Below w.heap.size w w'), m'.val.cell? ⟨w.heap.size, 1, none⟩ = some (.int .i64 sn) := fun m' => (World.cell?_of_block (m'.ok.1.2 w.heap.size trivial hzA)).trans y1
        have r2 : ∀ m' : Wd (fun w' => SameOn All wr w' ∧ Below w.heap.size w w'), m'.val.cell? ⟨w.heap.size, 2, none⟩ = some (.string st) := fun m' => (World.cell?_of_block (m'.ok.1.2 w.heap.size trivial hzA)).trans y2
        have r3 : ∀ m' : Wd (fun w' => SameOn All wr w' ∧ Below w.heap.size w w'), m'.val.cell? ⟨w.heap.size, 3, none⟩ = some (.slice p1 n1 q1) := fun m' => (World.cell?_of_block (m'.ok.1.2 w.heap.size trivial hzA)).trans y3
        go_wp2
        have hCne : Nonempty (Wd (fun w' => SameOn All wr w' ∧ Below w.heap.size w w')) := ⟨⟨wr.drew, ⟨⟨Nat.le_refl _, fun _ _ _ => rfl⟩, hb.out.drew⟩⟩⟩
        refine wp_region_class (fun w' => SameOn All wr w' ∧ Below w.heap.size w w') (by kernel_rfl) (by kernel_rfl) ⟨⟨Nat.le_refl _, fun _ _ _ => rfl⟩, hb.out.drew⟩ ?_
        repeat (go_big_quiet_step (first | (rename_i m'; go_at_call 18; refine (specCmp_all d _ _ _ y.val x ⟨_, rfl, E1.out _ m'.ok.1⟩ ⟨_, rfl, HCX.out _ m'.ok.1⟩).mono ?_; rintro e w1 ⟨rfl, hb1⟩; exact ⟨by rw [HCE.out], ⟨⟨w1, ⟨(SameOn.trans m'.ok.1 (SameOn.of_below hb1)), m'.ok.2.trans (hb1.mono m'.ok.2.size)⟩⟩, rfl⟩⟩)))
        refine wpQuiet_nil ?_
        rintro _ ⟨mq, rfl⟩
        have hbe := mq.ok.2
        generalize mq.val = wq at hbe ⊢
        have HBE : Hid (Below w.heap.size w wq) := hbe
        clear hbe
        by_cases hz : cv = 0
        · have HV2 : Hid (varM d y.name x env = some env) := by show _ = _; rw [HV.out, if_pos hz]
          subst hz
          go_wp2_with fail
          refine bodyPost_ret (v := .tuple #[.slice (some ⟨g, off, none⟩) n cap, .bool true]) (by simp [results, Tryz.results63, go_sem]) rfl ⟨?_, HBE.out⟩
          rw [HV2.out]
          exact ⟨_, rfl, HRW.out.mono (SameOn.of_below HBE.out) (fun _ h => h) (fun _ _ _ h => h.mono (SameOn.of_below HBE.out) (fun _ h => h))⟩
        · have HV2 : Hid (varM d y.name x env = none) := by show _ = _; rw [HV.out, if_neg hz]
          have hzb : (cv == 0) = false := by simpa using hz
          rw [hzb]
          go_wp2_with fail
          refine bodyPost_ret (v := .tuple #[.slice (some ⟨g, off, none⟩) n cap, .bool false]) (by simp [results, Tryz.results63, go_sem]) rfl ⟨?_, HBE.out⟩
          rw [HV2.out]
          exact ⟨_, rfl⟩
      · have HLK : Hid (lookV s env = lookV s (env.drop (k + 1))) := by show _ = _; rw [hlook.out]; exact lookV_miss hyk hnn
        have hq1 := str_ne hnn
        have hq2 := str_neB hnn
        clear hcs hat hcl6 r1
        go_wp2_with fail
        exact ⟨⟨k + 1, by omega, by go_num, HLK, bb, hb⟩, by simp [intOf]; omega⟩
    · have HV : Hid (varM d s x env = some (env ++ [⟨s, x⟩])) := by
        show _ = _
        unfold varM
        rw [hlook.out, List.drop_of_length_le (by rw [HN.out]; omega)]
        rfl
      have HRS : Hid (∀ w', Below w.heap.size w w' → Rows w' All 5 (HBd w All d) (.slice p n cap) env) := fun w' hw => HRW.out.mono (SameOn.of_below hw) (fun _ h => h) (fun _ _ _ h => h)
      have HQ : Hid (HBd w All d [.string s, .int .i64 sk, .int .i64 sn, .string st, .slice p1 n1 q1] ⟨s, x⟩) := ⟨_, rfl, hs, HXX.out w ⟨Nat.le_refl _, fun _ _ _ => rfl⟩⟩
      have HL1 : Hid (env.length + 1 ≤ 1048576) := by show _ ≤ _; rw [HN.out]; exact HL.out
      have HL2 : Hid (env.length ≤ 1048576) := by have := HL1.out; show _ ≤ _; omega
      have hD := hb.out.size
      have bA : Hid (Blk (wr.alloc (.cells #[] 66)).drew wr.heap.size #[] 66) := Blk.new (w := wr)
      have lA : Hid (Below wr.heap.size wr (wr.alloc (.cells #[] 66)).drew) := ((Below.refl _ _).alloc (Nat.le_refl _) _).drew
      have kA : Hid (Below w.heap.size w (wr.alloc (.cells #[] 66)).drew) := hb.out.trans (lA.out.mono hD)
      have lBA : Hid (Below wr.heap.size wr ((wr.alloc (.cells #[.string s, .int .i64 sk, .int .i64 sn, .string st, .slice p1 n1 q1] 66)).alloc (.cells #[] 66)).drew) := (((Below.refl _ _).alloc (Nat.le_refl _) _).alloc (by simp only [alloc_hs]; exact Nat.le_succ _) _).drew
      have lAB : Hid (Below wr.heap.size wr ((wr.alloc (.cells #[] 66)).alloc (.cells #[.string s, .int .i64 sk, .int .i64 sn, .string st, .slice p1 n1 q1] 66)).drew) := (((Below.refl _ _).alloc (Nat.le_refl _) _).alloc (by simp only [alloc_hs]; exact Nat.le_succ _) _).drew
      have bBA : Hid (Blk ((wr.alloc (.cells #[.string s, .int .i64 sk, .int .i64 sn, .string st, .slice p1 n1 q1] 66)).alloc (.cells #[] 66)).drew (wr.heap.size + 1) #[] 66) := by
        have := Blk.new (w := wr.alloc (.cells #[.string s, .int .i64 sk, .int .i64 sn, .string st, .slice p1 n1 q1] 66)) (cs := #[]) (t := 66)
        simp only [alloc_hs] at this
        exact this
      have kBA : Hid (Below w.heap.size w ((wr.alloc (.cells #[.string s, .int .i64 sk, .int .i64 sn, .string st, .slice p1 n1 q1] 66)).alloc (.cells #[] 66)).drew) := hb.out.trans (lBA.out.mono hD)
      have cBA : Hid (Blk ((wr.alloc (.cells #[.string s, .int .i64 sk, .int .i64 sn, .string st, .slice p1 n1 q1] 66)).alloc (.cells #[] 66)).drew wr.heap.size #[.string s, .int .i64 sk, .int .i64 sn, .string st, .slice p1 n1 q1] 66) := (Blk.new (w := wr)).alloc
      have bAB : Hid (Blk ((wr.alloc (.cells #[] 66)).alloc (.cells #[.string s, .int .i64 sk, .int .i64 sn, .string st, .slice p1 n1 q1] 66)).drew wr.heap.size #[] 66) := (Blk.new (w := wr)).alloc
      have kAB : Hid (Below w.heap.size w ((wr.alloc (.cells #[] 66)).alloc (.cells #[.string s, .int .i64 sk, .int .i64 sn, .string st, .slice p1 n1 q1] 66)).drew) := hb.out.trans (lAB.out.mono hD)
      have cAB : Hid (Blk ((wr.alloc (.cells #[] 66)).alloc (.cells #[.string s, .int .i64 sk, .int .i64 sn, .string st, .slice p1 n1 q1] 66)).drew (wr.heap.size + 1) #[.string s, .int .i64 sk, .int .i64 sn, .string st, .slice p1 n1 q1] 66) := by
        have := Blk.new (w := wr.alloc (.cells #[] 66)) (cs := #[.string s, .int .i64 sk, .int .i64 sn, .string st, .slice p1 n1 q1]) (t := 66)
        simp only [alloc_hs] at this
        exact this
      have ya0 := (bb.out.next lA.out).cell 0 _ rfl
      have ya1 := (bb.out.next lA.out).cell 1 _ rfl
      have ya2 := (bb.out.next lA.out).cell 2 _ rfl
      have ya3 := (bb.out.next lA.out).cell 3 _ rfl
      go_wp2_with fail
      go_region_law
        (first
          | (refine step_append_fresh (R := HBd w All d) (S := All) (by rfl) _ _ _ (by rfl) 66 _ 72 Tryz.underlying34 info_bd rfl (by decide) w.heap.size wr.heap.size bA.out hD (by rfl) _ env (by rfl) (HRS.out _ kA.out) bd_oneCell HL2.out (by decide) ?_; intro v9 w9 ho9 hg9; have HO9 : Hid (OwnG 66 5 (HBd w All d) w9 w.heap.size v9 env) := ho9; have K9 : Hid (Below w.heap.size w w9) := kA.out.trans (grown_below hg9 hD kA.out.size); have OA : Hid (OwnG 66 5 (HBd w All d) (w9.alloc (.cells #[.string s, .int .i64 sk, .int .i64 sn, .string st, .slice p1 n1 q1] 66)) w.heap.size v9 env) := HO9.out.next ((Below.refl _ _).alloc (Nat.le_refl _) _); have GA : Hid (Blk (w9.alloc (.cells #[.string s, .int .i64 sk, .int .i64 sn, .string st, .slice p1 n1 q1] 66)) w9.heap.size #[.string s, .int .i64 sk, .int .i64 sn, .string st, .slice p1 n1 q1] 66) := Blk.new; have KK : Hid (Below w.heap.size w (w9.alloc (.cells #[.string s, .int .i64 sk, .int .i64 sn, .string st, .slice p1 n1 q1] 66))) := K9.out.alloc K9.out.size _; have zz := (Blk.below (bb.out.next lA.out) (grown_below (N := wr.heap.size) hg9 (Nat.le_refl _) lA.out.size) bb.out.lt); have z0 := zz.cell 0 _ rfl; have z1 := zz.cell 1 _ rfl; have z2 := zz.cell 2 _ rfl; have z3 := zz.cell 3 _ rfl; clear zz ho9)
          | (refine step_append_fresh (R := HBd w All d) (S := All) (by rfl) _ _ _ (by rfl) 66 _ 72 Tryz.underlying34 info_bd rfl (by decide) w.heap.size (wr.heap.size + 1) bBA.out (Nat.le_succ_of_le hD) (by rfl) _ env (by rfl) (HRS.out _ kBA.out) bd_oneCell HL2.out (by decide) ?_; intro v9 w9 ho9 hg9; have HO9 : Hid (OwnG 66 5 (HBd w All d) w9 w.heap.size v9 env) := ho9; have K9 : Hid (Below w.heap.size w w9) := kBA.out.trans (grown_below hg9 (Nat.le_succ_of_le hD) kBA.out.size); have OA : Hid (OwnG 66 5 (HBd w All d) w9 w.heap.size v9 env) := HO9.out; have GA : Hid (Blk w9 wr.heap.size #[.string s, .int .i64 sk, .int .i64 sn, .string st, .slice p1 n1 q1] 66) := grown_blk hg9 cBA.out (by omega); have KK : Hid (Below w.heap.size w w9) := K9.out; have zz := (Blk.below (bb.out.next lBA.out) (grown_below (N := wr.heap.size) hg9 (by omega) lBA.out.size) bb.out.lt); have z0 := zz.cell 0 _ rfl; have z1 := zz.cell 1 _ rfl; have z2 := zz.cell 2 _ rfl; have z3 := zz.cell 3 _ rfl; clear zz ho9)
          | (refine step_append_fresh (R := HBd w All d) (S := All) (by rfl) _ _ _ (by rfl) 66 _ 72 Tryz.underlying34 info_bd rfl (by decide) w.heap.size wr.heap.size bAB.out hD (by rfl) _ env (by rfl) (HRS.out _ kAB.out) bd_oneCell HL2.out (by decide) ?_; intro v9 w9 ho9 hg9; have HO9 : Hid (OwnG 66 5 (HBd w All d) w9 w.heap.size v9 env) := ho9; have K9 : Hid (Below w.heap.size w w9) := kAB.out.trans (grown_below hg9 hD kAB.out.size); have OA : Hid (OwnG 66 5 (HBd w All d) w9 w.heap.size v9 env) := HO9.out; have GA : Hid (Blk w9 (wr.heap.size + 1) #[.string s, .int .i64 sk, .int .i64 sn, .string st, .slice p1 n1 q1] 66) := grown_blk hg9 cAB.out (by omega); have KK : Hid (Below w.heap.size w w9) := K9.out; have zz := (Blk.below (bb.out.next lAB.out) (grown_below (N := wr.heap.size) hg9 (by omega) lAB.out.size) bb.out.lt); have z0 := zz.cell 0 _ rfl; have z1 := zz.cell 1 _ rfl; have z2 := zz.cell 2 _ rfl; have z3 := zz.cell 3 _ rfl; clear zz ho9)
          | (refine step_append_blk (by rfl) _ _ _ (by rfl) _ 72 Tryz.underlying34 info_bd rfl (by decide) OA.out _ #[.string s, .int .i64 sk, .int .i64 sn, .string st, .slice p1 n1 q1] GA.out ⟨s, x⟩ HQ.out rfl (bd_oneCell _ _ HQ.out) (by rfl) (by rfl) HL1.out (by decide) ?_; intro v10 w10 ho10 hb10 hap10; have HO10 : Hid (OwnG 66 5 (HBd w All d) w10 w.heap.size v10 (env ++ [⟨s, x⟩])) := ho10; have K10 : Hid (Below w.heap.size w w10) := KK.out.trans hb10; clear ho10 hb10 hap10))
      all_goals
        go_wp2_with fail
        refine bodyPost_ret (v := .tuple #[v10, .bool true]) (by simp [results, Tryz.results63, go_sem]) rfl ⟨?_, K10.out⟩
        rw [HV.out]
        exact ⟨_, rfl, HO10.out.rows.mono ⟨Nat.le_refl _, fun _ _ _ => rfl⟩ (fun _ h => h) (fun _ _ _ h => h.mono (SameOn.of_below K10.out) (fun _ h => h))⟩
end Go.Proofs.YtmnghlkkfkpjhaaGreatDoor
/-
  The program's fitVar, by contract.
-/
namespace Go.Proofs.YtmnghlkkfkpjhaaGreatDoor
open Go.ChangeShapes Go.WideShapes Go.ChangeAt Go.RowKit
set_option linter.unusedVariables false
set_option maxRecDepth 100000

/-- A value that lies below N, and stays as it is. -/
def StV (N : Nat) (w0 : World) (d : Nat) (vs : List Value) (x : Va) : Prop := ∀ w', Below N w0 w' → HVa w' (fun g => g < N) d vs x
/-- A name bound to such a value. -/
def RBd (N : Nat) (w0 : World) (d : Nat) (cs : List Value) (b : Bd) : Prop := ∃ vs, cs = .string b.name :: vs ∧ okS b.name ∧ StV N w0 d vs b.val
theorem StV.all {N : Nat} {w0 w : World} {d : Nat} {vs : List Value} {x : Va} (h : StV N w0 d vs x) (hb : Below N w0 w) : HVa w All d vs x := (h w hb).mono ⟨Nat.le_refl _, fun _ _ _ => rfl⟩ (fun _ _ => trivial)
theorem StV.shape {N : Nat} {w0 : World} {d : Nat} {vs : List Value} {x : Va} (h : StV N w0 d vs x) : ∃ sk sn st p1 n1 q1, vs = [.int .i64 sk, .int .i64 sn, .string st, .slice p1 n1 q1] := (h w0 (Below.refl _ _)).shape
theorem RBd.oneCell {N : Nat} {w0 : World} {d : Nat} (cs : List Value) (b : Bd) (h : RBd N w0 d cs b) : ∀ u ∈ cs, u.oneCell' = true := by
  obtain ⟨vs, rfl, h1, h2⟩ := h
  exact bd_oneCell (w := w0) (S := fun g => g < N) (d := d) _ b ⟨vs, rfl, h1, h2 w0 (Below.refl _ _)⟩
abbrev BnB (N : Nat) (w0 : World) (d : Nat) (w : World) (ev : Value) (env : List Bd) : Prop := BnG 66 5 (RBd N w0 d) w N ev env
theorem BnB.binds {N : Nat} {w0 w : World} {d : Nat} {ev : Value} {env : List Bd} (h : BnB N w0 d w ev env) (hb : Below N w0 w) : Rows w All 5 (HBd w All d) ev env :=
  (BnG.rows h).mono ⟨Nat.le_refl _, fun _ _ _ => rfl⟩ (fun _ h => h) (fun cs b _ ⟨vs, h1, h2, h3⟩ => ⟨vs, h1, h2, h3.all hb⟩)
def ToldB (N : Nat) (w0 : World) (d : Nat) (r : Option (List Bd)) (e : Ending) (w' : World) : Prop := match r with
  | some out => ∃ ev', e = .returned (.tuple #[ev', .bool true]) ∧ BnB N w0 d w' ev' out
  | none => ∃ ev', e = .returned (.tuple #[ev', .bool false])

set_option maxHeartbeats 8000000 in
theorem fitVar_any (N : Nat) (w0 : World) (d : Nat) (w : World) (hb0 : Below N w0 w) (s : ByteArray) (hs : okS s) (vs : List Value) (x : Va) (ev : Value) (env : List Bd) (hx : StV N w0 d vs x) (h : BnB N w0 d w ev env) (hl : env.length + 1 ≤ 1048576) :
    Calls Tryz.prog 58 #[.string s, .agg vs.toArray, ev] w fun e w' => ToldB N w0 d (varM d s x env) e w' ∧ Below N w w' := by
  obtain ⟨sk, sn, st, p1, n1, q1, rfl⟩ := hx.shape
  have HX : Hid (StV N w0 d [.int .i64 sk, .int .i64 sn, .string st, .slice p1 n1 q1] x) := hx
  have HB0 : Hid (Below N w0 w) := hb0
  have HL : Hid (env.length + 1 ≤ 1048576) := hl
  have HH : Hid (BnB N w0 d w ev env) := h
  have hN := h.low
  obtain ⟨p, cap, rfl, hm⟩ := h.slice
  obtain ⟨W1, hW1⟩ : ∃ W1, W1 = w.alloc (.cells #[.int .i64 sk, .int .i64 sn, .string st, .slice p1 n1 q1] 26) := ⟨_, rfl⟩
  have hal : Below w.heap.size w W1 := by rw [hW1]; exact (Below.refl _ _).alloc (Nat.le_refl _) _
  have L1 : Hid (Below w.heap.size w W1) := hal
  have b1 : Hid (Blk W1 w.heap.size #[.int .i64 sk, .int .i64 sn, .string st, .slice p1 n1 q1] 26) := by show Blk _ _ _ _; rw [hW1]; exact Blk.new
  have H1 : Hid (BnB N w0 d W1 (.slice p env.length cap) env) := BnG.next HH.out hal
  have HW1 : Hid (W1 = w.alloc (.cells #[.int .i64 sk, .int .i64 sn, .string st, .slice p1 n1 q1] 26)) := hW1
  have HV : Hid (varM d s x env = match lookV s env with | some u => if cmpVa d u x = 0 then some env else none | none => some (env ++ [⟨s, x⟩])) := rfl
  have K01 : Hid (Below N w0 W1) := HB0.out.trans (hal.mono hN)
  clear h hx hb0 hl hm hal hW1
  go_enter Tryz.func58, Tryz.ntmps58
  go_wp2_with fail
  try rw [← HW1.out]
  refine (find_any d _ _ env s (BnB.binds H1.out K01.out)).mono ?_
  rintro e w2 ⟨hf, hb2⟩
  have L2 : Hid (Below W1.heap.size W1 w2) := hb2
  have b2 : Hid (Blk w2 w.heap.size #[.int .i64 sk, .int .i64 sn, .string st, .slice p1 n1 q1] 26) := b1.out.next hb2
  have H2 : Hid (BnB N w0 d w2 (.slice p env.length cap) env) := BnG.next H1.out hb2
  have KW2 : Hid (Below N w w2) := (L1.out.mono hN).trans (hb2.mono (Nat.le_trans hN L1.out.size))
  have K02 : Hid (Below N w0 w2) := HB0.out.trans KW2.out
  clear hb2
  rcases hf with ⟨u, cs, hlk, rfl, hu⟩ | ⟨hlk, rfl⟩
  · have HV2 : Hid (varM d s x env = if cmpVa d u x = 0 then some env else none) := by show _ = _; rw [HV.out, hlk]
    obtain ⟨uk, un, ut, p2, n2, q2, rfl⟩ := hu.shape
    have hal2 : Below w2.heap.size w2 (w2.alloc (.cells #[.int .i64 uk, .int .i64 un, .string ut, .slice p2 n2 q2] 26)) := (Below.refl _ _).alloc (Nat.le_refl _) _
    have HU : Hid (HVa (w2.alloc (.cells #[.int .i64 uk, .int .i64 un, .string ut, .slice p2 n2 q2] 26)) All d [.int .i64 uk, .int .i64 un, .string ut, .slice p2 n2 q2] u) := hu.mono (SameOn.of_below hal2) (fun _ h => h)
    have K3 : Hid (Below N w (w2.alloc (.cells #[.int .i64 uk, .int .i64 un, .string ut, .slice p2 n2 q2] 26))) := KW2.out.trans (hal2.mono (Nat.le_trans hN KW2.out.size))
    have H3 : Hid (BnB N w0 d (w2.alloc (.cells #[.int .i64 uk, .int .i64 un, .string ut, .slice p2 n2 q2] 26)) (.slice p env.length cap) env) := BnG.next H2.out hal2
    have y0 := (b2.out.alloc (o := .cells #[.int .i64 uk, .int .i64 un, .string ut, .slice p2 n2 q2] 26)).cell 0 _ rfl
    have y1 := (b2.out.alloc (o := .cells #[.int .i64 uk, .int .i64 un, .string ut, .slice p2 n2 q2] 26)).cell 1 _ rfl
    have y2 := (b2.out.alloc (o := .cells #[.int .i64 uk, .int .i64 un, .string ut, .slice p2 n2 q2] 26)).cell 2 _ rfl
    have y3 := (b2.out.alloc (o := .cells #[.int .i64 uk, .int .i64 un, .string ut, .slice p2 n2 q2] 26)).cell 3 _ rfl
    clear hu hlk hal2
    generalize hcv : cmpVa d u x = cv at *
    have HCE : Hid (cmpVa d u x = cv) := hcv
    clear hcv
    go_wp2_with fail
    refine (implCmp_all d _ _ _ u x ⟨_, rfl, HU.out⟩ ⟨_, rfl, HX.out.all (HB0.out.trans K3.out)⟩).mono ?_
    rintro e w4 ⟨rfl, hb4⟩
    rw [HCE.out]
    have K4 : Hid (Below N w w4) := K3.out.trans (hb4.mono (Nat.le_trans hN K3.out.size))
    have H4 : Hid (BnB N w0 d w4 (.slice p env.length cap) env) := BnG.next H3.out hb4
    clear hb4 y0 y1 y2 y3
    by_cases hz : cv = 0
    · have HS : Hid (varM d s x env = some env) := by show _ = _; rw [HV2.out, if_pos hz]
      subst hz
      go_wp2_with fail
      refine bodyPost_ret (v := .tuple #[.slice p env.length cap, .bool true]) (by simp [results, Tryz.results58, go_sem]) rfl ⟨?_, K4.out⟩
      rw [HS.out]
      exact ⟨_, rfl, H4.out⟩
    · have HS : Hid (varM d s x env = none) := by show _ = _; rw [HV2.out, if_neg hz]
      go_wp2_with fail
      refine bodyPost_ret (v := .tuple #[.slice p env.length cap, .bool false]) (by first | (simp [results, Tryz.results58, go_sem]; done) | (simp [results, Tryz.results58, go_sem, hz]; done)) rfl ⟨?_, K4.out⟩
      rw [HS.out]
      exact ⟨_, rfl⟩
  · have HV2 : Hid (varM d s x env = some (env ++ [⟨s, x⟩])) := by show _ = _; rw [HV.out, hlk]
    have hal2 : Below w2.heap.size w2 (w2.alloc (.cells #[.int .i64 0, .int .i64 0, .string ⟨#[]⟩, .slice none 0 0] 26)) := (Below.refl _ _).alloc (Nat.le_refl _) _
    have K3 : Hid (Below N w (w2.alloc (.cells #[.int .i64 0, .int .i64 0, .string ⟨#[]⟩, .slice none 0 0] 26))) := KW2.out.trans (hal2.mono (Nat.le_trans hN KW2.out.size))
    have H3 : Hid (BnB N w0 d (w2.alloc (.cells #[.int .i64 0, .int .i64 0, .string ⟨#[]⟩, .slice none 0 0] 26)) (.slice p env.length cap) env) := BnG.next H2.out hal2
    have HQ : Hid (RBd N w0 d [.string s, .int .i64 sk, .int .i64 sn, .string st, .slice p1 n1 q1] ⟨s, x⟩) := ⟨_, rfl, hs, HX.out⟩
    have y0 := (b2.out.alloc (o := .cells #[.int .i64 0, .int .i64 0, .string ⟨#[]⟩, .slice none 0 0] 26)).cell 0 _ rfl
    have y1 := (b2.out.alloc (o := .cells #[.int .i64 0, .int .i64 0, .string ⟨#[]⟩, .slice none 0 0] 26)).cell 1 _ rfl
    have y2 := (b2.out.alloc (o := .cells #[.int .i64 0, .int .i64 0, .string ⟨#[]⟩, .slice none 0 0] 26)).cell 2 _ rfl
    have y3 := (b2.out.alloc (o := .cells #[.int .i64 0, .int .i64 0, .string ⟨#[]⟩, .slice none 0 0] 26)).cell 3 _ rfl
    clear hlk hal2
    obtain ⟨W4, hW4⟩ : ∃ W4, W4 = (w2.alloc (.cells #[.int .i64 0, .int .i64 0, .string ⟨#[]⟩, .slice none 0 0] 26)).alloc (.cells #[.string s, .int .i64 sk, .int .i64 sn, .string st, .slice p1 n1 q1] 66) := ⟨_, rfl⟩
    have hal4 : Below (w2.alloc (.cells #[.int .i64 0, .int .i64 0, .string ⟨#[]⟩, .slice none 0 0] 26)).heap.size (w2.alloc (.cells #[.int .i64 0, .int .i64 0, .string ⟨#[]⟩, .slice none 0 0] 26)) W4 := by rw [hW4]; exact (Below.refl _ _).alloc (Nat.le_refl _) _
    have H4 : Hid (BnB N w0 d ((w2.alloc (.cells #[.int .i64 0, .int .i64 0, .string ⟨#[]⟩, .slice none 0 0] 26)).alloc (.cells #[.string s, .int .i64 sk, .int .i64 sn, .string st, .slice p1 n1 q1] 66)) (.slice p env.length cap) env) := by show BnG _ _ _ _ _ _ _; rw [← hW4]; exact BnG.next H3.out hal4
    have G4 : Hid (Blk ((w2.alloc (.cells #[.int .i64 0, .int .i64 0, .string ⟨#[]⟩, .slice none 0 0] 26)).alloc (.cells #[.string s, .int .i64 sk, .int .i64 sn, .string st, .slice p1 n1 q1] 66)) (w2.heap.size + 1) #[.string s, .int .i64 sk, .int .i64 sn, .string st, .slice p1 n1 q1] 66) := by
      have := Blk.new (w := w2.alloc (.cells #[.int .i64 0, .int .i64 0, .string ⟨#[]⟩, .slice none 0 0] 26)) (cs := #[.string s, .int .i64 sk, .int .i64 sn, .string st, .slice p1 n1 q1]) (t := 66)
      simp only [alloc_hs] at this
      exact this
    have K4 : Hid (Below N w ((w2.alloc (.cells #[.int .i64 0, .int .i64 0, .string ⟨#[]⟩, .slice none 0 0] 26)).alloc (.cells #[.string s, .int .i64 sk, .int .i64 sn, .string st, .slice p1 n1 q1] 66))) := by show Below _ _ _; rw [← hW4]; exact K3.out.trans (hal4.mono (Nat.le_trans hN K3.out.size))
    clear hal4 hW4
    go_wp2_with (at_builtin; refine wpList_append_bn rfl _ _ 34 rfl _ 72 Tryz.underlying34 info_bd rfl (by decide) H4.out (w2.heap.size + 1) #[.string s, .int .i64 sk, .int .i64 sn, .string st, .slice p1 n1 q1] G4.out ⟨s, x⟩ HQ.out rfl (RBd.oneCell _ _ HQ.out) rfl rfl HL.out (by decide) ?_; intro v5 w5 ho5 hb5; have HO5 : Hid (BnB N w0 d w5 v5 (env ++ [⟨s, x⟩])) := .inl ho5; have K5 : Hid (Below N w w5) := K4.out.trans hb5; clear ho5 hb5)
    refine bodyPost_ret (v := .tuple #[v5, .bool true]) (by simp [results, Tryz.results58, go_sem]) rfl ⟨?_, K5.out⟩
    rw [HV2.out]
    exact ⟨_, rfl, HO5.out⟩
end Go.Proofs.YtmnghlkkfkpjhaaGreatDoor
/-
  The program's fitAll, by contract, over fit.
-/
namespace Go.Proofs.YtmnghlkkfkpjhaaGreatDoor
open Go.ChangeShapes Go.WideShapes Go.ChangeAt Go.RowKit
set_option linter.unusedVariables false
set_option maxRecDepth 100000

/-- A value whose lists have a head and a tail. -/
def twoV : Nat → Va → Prop
  | 0, _ => True
  | d + 1, x => (x.kind = 4 → x.kids.length = 2) ∧ ∀ y ∈ x.kids, twoV d y
theorem StV.of {N : Nat} {w0 : World} {d : Nat} {vs : List Value} {x : Va} (h : HVa w0 (fun g => g < N) d vs x) : StV N w0 d vs x := fun w' hb => h.mono (SameOn.of_low hb) (fun _ h => h)

theorem HEx.shapeM {w : World} {S : Nat → Prop} {d : Nat} {cs : List Value} {x : Ex} (h : HEx w S d cs x) : ∃ sk sn st se p1 n1 q1 p2 n2 q2, cs = [.int .i64 sk, .int .i64 sn, .string st, .string se, .slice p1 n1 q1, .slice p2 n2 q2] := by
  cases d with
  | zero => exact h.elim
  | succ d =>
    obtain ⟨kv, cv, rfl, _, _, _, _, ⟨p1, c1, rfl, _⟩, ⟨p2, c2, rfl, _⟩⟩ := h
    exact ⟨_, _, _, _, _, _, _, _, _, _, rfl⟩

def FitC (N : Nat) (w0 : World) (d k : Nat) : Prop := ∀ (w : World) (pcs : List Value) (p : Ex) (vcs : List Value) (v : Va) (ev : Value) (env : List Bd), Below N w0 w → HEx w0 (fun g => g < N) k pcs p → HVa w0 (fun g => g < N) d vcs v → twoV d v → BnB N w0 d w ev env → env.length + ndE k p ≤ 1048576 →
    Calls Tryz.prog 35 #[.agg pcs.toArray, .agg vcs.toArray, ev] w fun e w' => ToldB N w0 d (matchM d k p v env) e w' ∧ Below N w w'
def FitsC (N : Nat) (w0 : World) (d k : Nat) : Prop := ∀ (w : World) (pv : Value) (ps : List Ex) (lv : Value) (vs : List Va) (ev : Value) (env : List Bd), Below N w0 w → Rows w0 (fun g => g < N) 6 (HEx w0 (fun g => g < N) k) pv ps → Rows w0 (fun g => g < N) 4 (HVa w0 (fun g => g < N) d) lv vs → (∀ y ∈ vs, twoV d y) → BnB N w0 d w ev env → env.length + (ps.map (ndE k)).sum ≤ 1048576 →
    Calls Tryz.prog 59 #[pv, lv, ev] w fun e w' => ToldB N w0 d (kidsL (matchM d k) ps vs env) e w' ∧ Below N w w'

set_option maxHeartbeats 8000000 in
theorem fitAll_of {N : Nat} {w0 : World} {d k : Nat} (hM : FitC N w0 d k) : FitsC N w0 d k := by
  intro w pv ps lv vs ev env hb0 hp hv h2 he hl
  have HE0 : Hid (BnB N w0 d w ev env) := he
  have HB0 : Hid (Below N w0 w) := hb0
  have hN := he.low
  obtain ⟨pp, pc, rfl, hpl, hpm, hpx⟩ := hp
  obtain ⟨pl, lc, rfl, hll, hlm, hlx⟩ := hv
  obtain ⟨pe, ec, rfl, hem⟩ := he.slice
  have HP : Hid (ps ≠ [] → ∃ g off, pp = some ⟨g, off, none⟩ ∧ g < N ∧ g < w0.heap.size ∧ ∀ i x, ps[i]? = some x → ∃ cs, cs.length = 6 ∧ (∀ j, j < 6 → w0.cell? ⟨g, off + i * 6 + j, none⟩ = cs[j]?) ∧ HEx w0 (fun g => g < N) k cs x) := hpx
  have HV : Hid (vs ≠ [] → ∃ g off, pl = some ⟨g, off, none⟩ ∧ g < N ∧ g < w0.heap.size ∧ ∀ i x, vs[i]? = some x → ∃ cs, cs.length = 4 ∧ (∀ j, j < 4 → w0.cell? ⟨g, off + i * 4 + j, none⟩ = cs[j]?) ∧ HVa w0 (fun g => g < N) d cs x) := hlx
  have hnb1 : ps.length ≤ 9223372036854775807 := by unfold maxLen at hpm; omega
  have hnb2 : vs.length ≤ 9223372036854775807 := by unfold maxLen at hlm; omega
  have HL : Hid (env.length + (ps.map (ndE k)).sum ≤ 1048576) := hl
  have H2 : Hid (∀ y ∈ vs, twoV d y) := h2
  have HK : Hid (kidsL (matchM d k) ps vs env = if ps.length = vs.length then kidsM (matchM d k) ps vs env else none) := rfl
  generalize hn : ps.length = n at *
  have HN : Hid (ps.length = n) := hn
  generalize hm : vs.length = m at *
  have HMM : Hid (vs.length = m) := hm
  clear hpx hlx hn hm hl h2 he hb0 hem
  by_cases hnm : n = m
  case neg =>
    have HS : Hid (kidsL (matchM d k) ps vs env = none) := by show _ = _; rw [HK.out, if_neg hnm]
    go_enter Tryz.func59, Tryz.ntmps59
    go_wp2_with fail
    refine bodyPost_ret (v := .tuple #[.slice pe env.length ec, .bool false]) (by simp [results, Tryz.results59, go_sem]) rfl ⟨?_, Below.refl _ _⟩
    rw [HS.out]
    exact ⟨_, rfl⟩
  subst hnm
  have HS : Hid (kidsL (matchM d k) ps vs env = kidsM (matchM d k) ps vs env) := by show _ = _; rw [HK.out, if_pos rfl]
  clear HK
  go_enter Tryz.func59, Tryz.ntmps59
  go_wp2_with fail
  go_loopw [2, 20] (fun ov iv wr => ∃ (i : Nat) (cur : List Bd), i ≤ n ∧ iv = .int .i64 i ∧ Hid (kidsM (matchM d k) ps vs env = kidsM (matchM d k) (ps.drop i) (vs.drop i) cur) ∧ Hid (BnB N w0 d wr ov cur) ∧ Hid (cur.length + ((ps.drop i).map (ndE k)).sum ≤ 1048576) ∧ Hid (Below N w wr)) (fun _ iv _ => n - (intOf iv).toNat)
  case atStart => exact ⟨0, env, Nat.zero_le _, rfl, by show _ = _; simp, HE0, by show _ ≤ _; simpa using HL.out, Below.refl _ _⟩
  case round =>
    obtain ⟨i, cur, hi, rfl, hsame, HR, hcl, hb⟩ := hrel
    by_cases hlt : i < n
    · obtain ⟨x, hxk⟩ : ∃ x, ps[i]? = some x := ⟨ps[i]'(by rw [HN.out]; exact hlt), List.getElem?_eq_getElem _⟩
      obtain ⟨g, off, rfl, hgN, hgl, hat⟩ := HP.out (by intro h; rw [h] at hxk; simp at hxk)
      obtain ⟨cs, hcl6, hcs, r1⟩ := hat i x hxk
      obtain ⟨y, hyk⟩ : ∃ y, vs[i]? = some y := ⟨vs[i]'(by rw [HMM.out]; exact hlt), List.getElem?_eq_getElem _⟩
      obtain ⟨g', off', rfl, hgN', hgl', hat'⟩ := HV.out (by intro h; rw [h] at hyk; simp at hyk)
      obtain ⟨cs', hcl6', hcs', r2⟩ := hat' i y hyk
      obtain ⟨xk, xn, xt, xm, p3, n3, q3, p4, n4, q4, rfl⟩ := HEx.shapeM r1
      obtain ⟨yk, yn, yt, p5, n5, q5, rfl⟩ := r2.shape
      have E1 : Hid (HEx w0 (fun g => g < N) k [.int .i64 xk, .int .i64 xn, .string xt, .string xm, .slice p3 n3 q3, .slice p4 n4 q4] x) := r1
      have E2 : Hid (HVa w0 (fun g => g < N) d [.int .i64 yk, .int .i64 yn, .string yt, .slice p5 n5 q5] y) := r2
      have KW : Hid (Below N w0 wr) := HB0.out.trans hb.out
      have a0 := hcs 0 (by omega)
      have a1 := hcs 1 (by omega)
      have a2 := hcs 2 (by omega)
      have a3 := hcs 3 (by omega)
      have a4 := hcs 4 (by omega)
      have a5 := hcs 5 (by omega)
      have b0 := hcs' 0 (by omega)
      have b1 := hcs' 1 (by omega)
      have b2 := hcs' 2 (by omega)
      have b3 := hcs' 3 (by omega)
      rw [← KW.out.cell (p := ⟨g, _, none⟩) hgN] at a0 a1 a2 a3 a4 a5
      rw [← KW.out.cell (p := ⟨g', _, none⟩) hgN'] at b0 b1 b2 b3
      simp at a0 a1 a2 a3 a4 a5 b0 b1 b2 b3
      have hki : (i : Int) < (n : Int) := by omega
      have hk0 : (0 : Int) ≤ (i : Int) := by omega
      have HST := kidsM_step (f := matchM d k) hxk hyk cur
      have hsum : ((ps.drop i).map (ndE k)).sum = ndE k x + ((ps.drop (i + 1)).map (ndE k)).sum := by
        obtain ⟨h1, rfl⟩ := List.getElem?_eq_some_iff.1 hxk
        rw [List.drop_eq_getElem_cons h1, List.map_cons, List.sum_cons]
      have hlx : cur.length + ndE k x ≤ 1048576 := by have := hcl.out; omega
      have HLX : Hid (cur.length + ndE k x + ((ps.drop (i + 1)).map (ndE k)).sum ≤ 1048576) := by have := hcl.out; show _ ≤ _; omega
      have HY2 : Hid (twoV d y) := H2.out y (List.mem_of_getElem? hyk)
      have hgw : g < wr.heap.size := Nat.lt_of_lt_of_le hgl KW.out.size
      have hgw' : g' < wr.heap.size := Nat.lt_of_lt_of_le hgl' KW.out.size
      have hNr := BnG.low HR.out
      have hal : Below wr.heap.size wr (wr.alloc (.cells #[.int .i64 xk, .int .i64 xn, .string xt, .string xm, .slice p3 n3 q3, .slice p4 n4 q4] 33)) := (Below.refl _ _).alloc (Nat.le_refl _) _
      have KA : Hid (Below N w (wr.alloc (.cells #[.int .i64 xk, .int .i64 xn, .string xt, .string xm, .slice p3 n3 q3, .slice p4 n4 q4] 33))) := hb.out.trans (hal.mono hNr)
      have HRA : Hid (BnB N w0 d (wr.alloc (.cells #[.int .i64 xk, .int .i64 xn, .string xt, .string xm, .slice p3 n3 q3, .slice p4 n4 q4] 33)) u2 cur) := BnG.next HR.out hal
      have bX : Hid (Blk (wr.alloc (.cells #[.int .i64 xk, .int .i64 xn, .string xt, .string xm, .slice p3 n3 q3, .slice p4 n4 q4] 33)) wr.heap.size #[.int .i64 xk, .int .i64 xn, .string xt, .string xm, .slice p3 n3 q3, .slice p4 n4 q4] 33) := Blk.new
      clear hcs hat hcl6 hcs' hat' hcl6' r1 r2 hsum hal
      cases hmx : matchM d k x y cur with
      | none =>
        have HMX : Hid (matchM d k x y cur = none) := hmx
        have HE : Hid (kidsL (matchM d k) ps vs env = none) := by show _ = _; rw [HS.out, hsame.out, HST, hmx]
        clear hmx HST
        go_wp2_with fail
        go_region_law
          (first | (go_simp; go_at_call 35; refine (hM _ _ x _ y _ cur (HB0.out.trans KA.out).drew E1.out E2.out HY2.out (BnG.next HRA.out ((Below.refl _ _).drew)) hlx).mono ?_; rintro e w1 ⟨ht, hb1⟩; rw [HMX.out] at ht; obtain ⟨ev', rfl⟩ := ht; have K1 : Hid (Below N w w1) := KA.out.drew.trans hb1; clear hb1; dsimp only))
        all_goals
          go_wp2_with fail
          refine bodyPost_ret (v := .tuple #[u2, .bool false]) (by simp [results, Tryz.results59, go_sem]) rfl ⟨?_, K1.out⟩
          rw [HE.out]
          exact ⟨_, rfl⟩
      | some out =>
        have HMX : Hid (matchM d k x y cur = some out) := hmx
        have HE : Hid (kidsM (matchM d k) ps vs env = kidsM (matchM d k) (ps.drop (i + 1)) (vs.drop (i + 1)) out) := by show _ = _; rw [hsame.out, HST, hmx]
        have HLN : Hid (out.length + ((ps.drop (i + 1)).map (ndE k)).sum ≤ 1048576) := by
          have h1 := matchM_len d k x y cur out hmx
          have h2 := HLX.out
          show _ ≤ _
          omega
        clear hmx HST
        go_wp2_with fail
        go_region_law
          (first | (go_simp; go_at_call 35; refine (hM _ _ x _ y _ cur (HB0.out.trans KA.out).drew E1.out E2.out HY2.out (BnG.next HRA.out ((Below.refl _ _).drew)) hlx).mono ?_; rintro e w1 ⟨ht, hb1⟩; rw [HMX.out] at ht; obtain ⟨ev', rfl, hrows⟩ := ht; have HR1 : Hid (BnB N w0 d w1 ev' out) := hrows; clear hrows; have K1 : Hid (Below N w w1) := KA.out.drew.trans hb1; clear hb1; dsimp only))
        all_goals
          go_wp2_with fail
          exact ⟨⟨i + 1, out, by omega, by go_num, HE, HR1, HLN, K1⟩, by simp [intOf]; omega⟩
    · have HE : Hid (kidsL (matchM d k) ps vs env = some cur) := by show _ = _; rw [HS.out, hsame.out]; exact kidsM_end (by rw [HN.out]; omega) (by rw [HMM.out]; omega) cur
      go_wp2_with fail
      refine bodyPost_ret (v := .tuple #[u2, .bool true]) (by simp [results, Tryz.results59, go_sem]) rfl ⟨?_, hb.out⟩
      rw [HE.out]
      exact ⟨_, rfl, HR.out⟩
end Go.Proofs.YtmnghlkkfkpjhaaGreatDoor
