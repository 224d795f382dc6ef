/-
  The laws' toModule and what it calls: a copy of a module's tree in new memory.
-/
import Derived.Test.YtkomkhiinfdfmaaGreatDoorSize
namespace Go.Proofs.YtkomkhiinfdfmaaGreatDoor
open Go.ChangeShapes Go.WideShapes Go.ChangeAt Go.RowKit
set_option linter.unusedVariables false


theorem HEx.shape {w : World} {S : Nat → Prop} {d : Nat} {cs : List Value} {x : Ex} (h : HEx w S d cs x) : ∃ sk sn st se p1 n1 q1 p2 n2 q2, cs = [.int .i64 sk, .int .i64 sn, .string st, .string se, .slice p1 n1 q1, .slice p2 n2 q2] := by
  cases d with
  | zero => exact h.elim
  | succ d =>
    obtain ⟨kv, cv, rfl, _, _, _, _, ⟨p1, c1, rfl, _⟩, ⟨p2, c2, rfl, _⟩⟩ := h
    exact ⟨_, _, _, _, _, _, _, _, _, _, rfl⟩

set_option maxHeartbeats 4000000 in
theorem toExpS_of {d : Nat} (hE : ToC 161 (fun w v e => ∃ cs, v = .agg cs.toArray ∧ HEx w All d cs e) (fun w S v e => ∃ cs, v = .agg cs.toArray ∧ HEx w S d cs e) (wtEx d)) :
    ToC 143 (fun w v es => Rows w All 6 (HEx w All d) v es) (fun w S v es => Rows w S 6 (HEx w S d) v es) (wtS (wtEx d)) := by
  intro w v es h hwt
  obtain ⟨p, cap, rfl, hcl, hcm, hx⟩ := h
  generalize hn : es.length = n at *
  have HN : Hid (es.length = n) := hn
  have HX : Hid _ := hx
  have hnb : n ≤ 1048576 := by unfold wtS at hwt; omega
  have HWT : Hid (wtS (wtEx d) es ≤ 1048576) := hwt
  clear hx hn hwt
  obtain ⟨M, hM, hmk⟩ := make_row (t := 59) (e := 114) (c := 6) Tryz.underlying59 (by kernel_rfl) w n hnb
  have hown : (w.alloc (.cells M 114)).ownsRow w.heap.size 114 6 (.slice (some ⟨w.heap.size, 0, none⟩) n n) n M.toList := World.ownsRow_lit w M n (Nat.le_refl _) (by unfold maxLen; omega) hM
  have HO : Hid ((w.alloc (.cells M 114)).ownsRow w.heap.size 114 6 (.slice (some ⟨w.heap.size, 0, none⟩) n n) n M.toList) := hown
  clear hown
  generalize hG : w.heap.size = G at *
  have HG : Hid (w.heap.size = G) := hG
  have HGB : Hid (Below G w (w.alloc (.cells M 114))) := (Below.refl _ _).alloc (by rw [HG.out]; exact Nat.le_refl _) _
  have hgs : G + 1 ≤ (w.alloc (.cells M 114)).heap.size := by rw [alloc_hs, HG.out]; exact Nat.le_refl _
  have HGS : Hid (G + 1 ≤ (w.alloc (.cells M 114)).heap.size) := hgs
  clear hgs
  go_enter Tryz.func143, Tryz.ntmps143
  go_wp2
  go_loopw [4] (fun iv wr => ∃ (k : Nat) (xs : List Value), k ≤ n ∧ iv = .int .i64 k ∧ wr.ownsRow G 114 6 (.slice (some ⟨G, 0, none⟩) n n) n xs ∧
      (∀ (i : Nat) (x : Ex), i < k → es[i]? = some x → ∃ cs, cs.length = 6 ∧ (∀ j, j < 6 → xs[i * 6 + j]? = cs[j]?) ∧ HEx wr (fun g => G < g) d cs x) ∧ Below G w wr ∧ G + 1 ≤ wr.heap.size) (fun iv _ => n - (intOf iv).toNat)
  case atStart => exact ⟨0, M.toList, Nat.zero_le _, rfl, HO.out, fun i x hi => by omega, HGB.out, HGS.out⟩
  case round =>
    obtain ⟨k, xs, hk, rfl, ho, hdone, hb, hgs⟩ := hrel
    have HOW : Hid (wr.ownsRow G 114 6 (.slice (some ⟨G, 0, none⟩) n n) n xs) := ho
    have HD : Hid (∀ (i : Nat) (x : Ex), i < k → es[i]? = some x → ∃ cs, cs.length = 6 ∧ (∀ j, j < 6 → xs[i * 6 + j]? = cs[j]?) ∧ HEx wr (fun g => G < g) d cs x) := hdone
    have HB : Hid (Below G w wr) := hb
    have HS : Hid (G + 1 ≤ wr.heap.size) := hgs
    clear ho hdone hgs
    by_cases hlt : k < n
    · obtain ⟨x, hxk⟩ : ∃ x, es[k]? = some x := ⟨es[k]'(by rw [HN.out]; exact hlt), List.getElem?_eq_getElem _⟩
      obtain ⟨g, off, rfl, hg, hgl, hat⟩ := HX.out (by intro h; rw [h] at hxk; simp at hxk)
      obtain ⟨cs, hcl6, hcs, hex⟩ := hat k x hxk
      have hbw : Below w.heap.size w wr := by rw [HG.out]; exact hb
      have hex' : ∀ w', SameOn All wr w' → HEx w' All d cs x := fun w' hw => hex.mono (SameOn.trans (SameOn.of_below hbw) hw) (fun _ h => h)
      obtain ⟨z0, z1, z2, z3, z4, z5, rfl⟩ := len6 hcl6
      have a0 := hcs 0 (by omega)
      have a1 := hcs 1 (by omega)
      have a2 := hcs 2 (by omega)
      have a3 := hcs 3 (by omega)
      have a4 := hcs 4 (by omega)
      have a5 := hcs 5 (by omega)
      rw [← hb.cell (p := ⟨g, _, none⟩) hgl] at a0 a1 a2 a3 a4 a5
      simp at a0 a1 a2 a3 a4 a5
      have hwx : wtEx d x ≤ 1048576 := by
        have h1 := HWT.out
        have h2 := sum_take_succ (wtEx d) es k x hxk
        have h3 := sum_take_le (wtEx d) es (k + 1)
        unfold wtS at h1
        omega
      clear hb hbw hcs hat hex hcl6
      go_wp2_with (go_at_call 161; go_must (refine (hE _ _ x ⟨_, rfl, hex' _ (by exact ⟨Nat.le_refl _, fun _ _ _ => rfl⟩)⟩ hwx).mono ?_; rintro e w1 ⟨u, rfl, ⟨cs', rfl, hx1⟩, hb1⟩; obtain ⟨sk, sn, st, se, p1, n1, q1, p2, n2, q2, hsh⟩ := hx1.shape; subst hsh; have HB1 : Hid _ := hb1; have HX1 : Hid _ := hx1; have o1 := HOW.out.kept (grownBy_belowR (r := none) hb1) (Or.inr (by simp [Value.ownBlock])); have HO1 : Hid _ := o1; have f0 := o1.frozenAt (k * 6); obtain ⟨y0, g0⟩ := own_someR o1 (k * 6) (by omega); have f1 := o1.frozenAt (k * 6 + 1); obtain ⟨y1, g1⟩ := own_someR o1 (k * 6 + 1) (by omega); have f2 := o1.frozenAt (k * 6 + 2); obtain ⟨y2, g2⟩ := own_someR o1 (k * 6 + 2) (by omega); have f3 := o1.frozenAt (k * 6 + 3); obtain ⟨y3, g3⟩ := own_someR o1 (k * 6 + 3) (by omega); have f4 := o1.frozenAt (k * 6 + 4); obtain ⟨y4, g4⟩ := own_someR o1 (k * 6 + 4) (by omega); have f5 := o1.frozenAt (k * 6 + 5); obtain ⟨y5, g5⟩ := own_someR o1 (k * 6 + 5) (by omega); clear o1 hb1 hx1))
      have sd := stored6 HO1.out (k * 6) (.int .i64 sk) (.int .i64 sn) (.string st) (.string se) (.slice p1 n1 q1) (.slice p2 n2 q2)
      have hb2 : Below G wr ((((((w1.setCell ⟨G, k * 6, none⟩ (.int .i64 sk)).setCell ⟨G, k * 6 + 1, none⟩ (.int .i64 sn)).setCell ⟨G, k * 6 + 2, none⟩ (.string st)).setCell ⟨G, k * 6 + 3, none⟩ (.string se)).setCell ⟨G, k * 6 + 4, none⟩ (.slice p1 n1 q1)).setCell ⟨G, k * 6 + 5, none⟩ (.slice p2 n2 q2)) := (HB1.out.mono (by have := HS.out; omega)).trans (below_grownR sd.2 (Nat.le_refl _) (by have := HS.out; have := HB1.out.size; omega))
      have hlen : xs.length = n * 6 := HO1.out.1
      refine ⟨⟨k + 1, _, by omega, by go_num, sd.1, fun i y hi hy => ?_, HB.out.trans hb2, by have := HS.out; have := hb2.size; omega⟩, by simp [intOf]; omega⟩
      by_cases hik : i < k
      · obtain ⟨cs, hl, hc, hr⟩ := HD.out i y hik hy
        refine ⟨cs, hl, fun j hj => ?_, ?_⟩
        · rw [set6_other (by omega)]; exact hc j hj
        · have sm : SameOn (fun g => G < g) wr ((((((w1.setCell ⟨G, k * 6, none⟩ (.int .i64 sk)).setCell ⟨G, k * 6 + 1, none⟩ (.int .i64 sn)).setCell ⟨G, k * 6 + 2, none⟩ (.string st)).setCell ⟨G, k * 6 + 3, none⟩ (.string se)).setCell ⟨G, k * 6 + 4, none⟩ (.slice p1 n1 q1)).setCell ⟨G, k * 6 + 5, none⟩ (.slice p2 n2 q2)) := (SameOn.of_below HB1.out).trans ⟨sd.2.size, fun a ha hl => sd.2.block a hl (by simp; omega)⟩
          exact hr.mono (sm) (fun _ h => h)
      · obtain rfl : k = i := by omega
        obtain rfl : x = y := by rw [hxk] at hy; exact Option.some.inj hy
        refine ⟨[.int .i64 sk, .int .i64 sn, .string st, .string se, .slice p1 n1 q1, .slice p2 n2 q2], rfl, fun j hj => ?_, ?_⟩
        · exact set6_self (by omega) j hj
        · have sm : SameOn (fun g => wr.heap.size ≤ g) w1 ((((((w1.setCell ⟨G, k * 6, none⟩ (.int .i64 sk)).setCell ⟨G, k * 6 + 1, none⟩ (.int .i64 sn)).setCell ⟨G, k * 6 + 2, none⟩ (.string st)).setCell ⟨G, k * 6 + 3, none⟩ (.string se)).setCell ⟨G, k * 6 + 4, none⟩ (.slice p1 n1 q1)).setCell ⟨G, k * 6 + 5, none⟩ (.slice p2 n2 q2)) := ⟨sd.2.size, fun a ha hl => sd.2.block a hl (by have := HS.out; simp; omega)⟩
          have hi : ∀ g, wr.heap.size ≤ g → G < g := fun g hg => by have := HS.out; omega
          have hx1 : HEx w1 (fun g => wr.heap.size ≤ g) d [.int .i64 sk, .int .i64 sn, .string st, .string se, .slice p1 n1 q1, .slice p2 n2 q2] x := HX1.out
          exact hx1.mono (sm) (hi)
    · obtain rfl : k = n := by omega
      have HO2 : Hid (Rows wr (fun g => G ≤ g) 6 (HEx wr (fun g => G ≤ g) d) (.slice (some ⟨G, 0, none⟩) k k) es) := by
        refine ⟨_, _, by rw [HN.out], by rw [HN.out]; exact Nat.le_refl _, by unfold maxLen; omega, fun hne => ⟨G, 0, rfl, Nat.le_refl _, by have := HS.out; omega, fun i x hi => ?_⟩⟩
        have hin : i < k := by rw [← HN.out]; exact (List.getElem?_eq_some_iff.1 hi).1
        obtain ⟨cs, hl, hc, hr⟩ := HD.out i x hin hi
        have sm : SameOn (fun g => G < g) wr wr := ⟨Nat.le_refl _, fun _ _ _ => rfl⟩
        exact ⟨cs, hl, fun j hj => by rw [← hc j hj, Nat.zero_add, HOW.out.cellAt _ (by omega)], hr.mono (sm) (fun _ h => Nat.le_of_lt h)⟩
      go_wp2
      go_ret
      refine ⟨_, rfl, ?_, ?_⟩
      · exact HO2.out
      · exact HB.out

theorem HCl.shape {w : World} {S : Nat → Prop} {R : List Value → Ex → Prop} {cs : List Value} {x : Cl} (h : HCl w S R cs x) : ∃ p1 n1 q1 p2 n2 q2, cs = [.slice p1 n1 q1, .slice p2 n2 q2] := by
  obtain ⟨kv, cv, rfl, ⟨p1, c1, rfl, _⟩, ⟨p2, c2, rfl, _⟩⟩ := h
  exact ⟨_, _, _, _, _, _, rfl⟩

set_option maxHeartbeats 4000000 in
theorem toClauseS_of {d : Nat} (hE : ToC 122 (fun w v e => ∃ cs, v = .agg cs.toArray ∧ HCl w All (HEx w All d) cs e) (fun w S v e => ∃ cs, v = .agg cs.toArray ∧ HCl w S (HEx w S d) cs e) (wtCl (wtEx d))) :
    ToC 101 (fun w v es => Rows w All 2 (HCl w All (HEx w All d)) v es) (fun w S v es => Rows w S 2 (HCl w S (HEx w S d)) v es) (wtS (wtCl (wtEx d))) := by
  intro w v es h hwt
  obtain ⟨p, cap, rfl, hcl, hcm, hx⟩ := h
  generalize hn : es.length = n at *
  have HN : Hid (es.length = n) := hn
  have HX : Hid _ := hx
  have hnb : n ≤ 1048576 := by unfold wtS at hwt; omega
  have HWT : Hid (wtS (wtCl (wtEx d)) es ≤ 1048576) := hwt
  clear hx hn hwt
  obtain ⟨M, hM, hmk⟩ := make_row (t := 55) (e := 61) (c := 2) Tryz.underlying55 (by kernel_rfl) w n hnb
  have hown : (w.alloc (.cells M 61)).ownsRow w.heap.size 61 2 (.slice (some ⟨w.heap.size, 0, none⟩) n n) n M.toList := World.ownsRow_lit w M n (Nat.le_refl _) (by unfold maxLen; omega) hM
  have HO : Hid ((w.alloc (.cells M 61)).ownsRow w.heap.size 61 2 (.slice (some ⟨w.heap.size, 0, none⟩) n n) n M.toList) := hown
  clear hown
  generalize hG : w.heap.size = G at *
  have HG : Hid (w.heap.size = G) := hG
  have HGB : Hid (Below G w (w.alloc (.cells M 61))) := (Below.refl _ _).alloc (by rw [HG.out]; exact Nat.le_refl _) _
  have hgs : G + 1 ≤ (w.alloc (.cells M 61)).heap.size := by rw [alloc_hs, HG.out]; exact Nat.le_refl _
  have HGS : Hid (G + 1 ≤ (w.alloc (.cells M 61)).heap.size) := hgs
  clear hgs
  go_enter Tryz.func101, Tryz.ntmps101
  go_wp2
  go_loopw [4] (fun iv wr => ∃ (k : Nat) (xs : List Value), k ≤ n ∧ iv = .int .i64 k ∧ wr.ownsRow G 61 2 (.slice (some ⟨G, 0, none⟩) n n) n xs ∧
      (∀ (i : Nat) (x : Cl), i < k → es[i]? = some x → ∃ cs, cs.length = 2 ∧ (∀ j, j < 2 → xs[i * 2 + j]? = cs[j]?) ∧ HCl wr (fun g => G < g) (HEx wr (fun g => G < g) d) cs x) ∧ Below G w wr ∧ G + 1 ≤ wr.heap.size) (fun iv _ => n - (intOf iv).toNat)
  case atStart => exact ⟨0, M.toList, Nat.zero_le _, rfl, HO.out, fun i x hi => by omega, HGB.out, HGS.out⟩
  case round =>
    obtain ⟨k, xs, hk, rfl, ho, hdone, hb, hgs⟩ := hrel
    have HOW : Hid (wr.ownsRow G 61 2 (.slice (some ⟨G, 0, none⟩) n n) n xs) := ho
    have HD : Hid (∀ (i : Nat) (x : Cl), i < k → es[i]? = some x → ∃ cs, cs.length = 2 ∧ (∀ j, j < 2 → xs[i * 2 + j]? = cs[j]?) ∧ HCl wr (fun g => G < g) (HEx wr (fun g => G < g) d) cs x) := hdone
    have HB : Hid (Below G w wr) := hb
    have HS : Hid (G + 1 ≤ wr.heap.size) := hgs
    clear ho hdone hgs
    by_cases hlt : k < n
    · obtain ⟨x, hxk⟩ : ∃ x, es[k]? = some x := ⟨es[k]'(by rw [HN.out]; exact hlt), List.getElem?_eq_getElem _⟩
      obtain ⟨g, off, rfl, hg, hgl, hat⟩ := HX.out (by intro h; rw [h] at hxk; simp at hxk)
      obtain ⟨cs, hcl6, hcs, hex⟩ := hat k x hxk
      have hbw : Below w.heap.size w wr := by rw [HG.out]; exact hb
      have hex' : ∀ w', SameOn All wr w' → HCl w' All (HEx w' All d) cs x := fun w' hw => hex.mono (SameOn.trans (SameOn.of_below hbw) hw) (fun _ h => h) (fun _ _ => HEx.mono (SameOn.trans (SameOn.of_below hbw) hw) (fun _ h => h))
      obtain ⟨z0, z1, rfl⟩ := len2 hcl6
      have a0 := hcs 0 (by omega)
      have a1 := hcs 1 (by omega)
      rw [← hb.cell (p := ⟨g, _, none⟩) hgl] at a0 a1
      simp at a0 a1
      have hwx : wtCl (wtEx d) x ≤ 1048576 := by
        have h1 := HWT.out
        have h2 := sum_take_succ (wtCl (wtEx d)) es k x hxk
        have h3 := sum_take_le (wtCl (wtEx d)) es (k + 1)
        unfold wtS at h1
        omega
      clear hb hbw hcs hat hex hcl6
      go_wp2_with (go_at_call 122; go_must (refine (hE _ _ x ⟨_, rfl, hex' _ (by exact ⟨Nat.le_refl _, fun _ _ _ => rfl⟩)⟩ hwx).mono ?_; rintro e w1 ⟨u, rfl, ⟨cs', rfl, hx1⟩, hb1⟩; obtain ⟨p1, n1, q1, p2, n2, q2, hsh⟩ := hx1.shape; subst hsh; have HB1 : Hid _ := hb1; have HX1 : Hid _ := hx1; have o1 := HOW.out.kept (grownBy_belowR (r := none) hb1) (Or.inr (by simp [Value.ownBlock])); have HO1 : Hid _ := o1; have f0 := o1.frozenAt (k * 2); obtain ⟨y0, g0⟩ := own_someR o1 (k * 2) (by omega); have f1 := o1.frozenAt (k * 2 + 1); obtain ⟨y1, g1⟩ := own_someR o1 (k * 2 + 1) (by omega); clear o1 hb1 hx1))
      have sd := stored2 HO1.out (k * 2) (.slice p1 n1 q1) (.slice p2 n2 q2)
      have hb2 : Below G wr ((w1.setCell ⟨G, k * 2, none⟩ (.slice p1 n1 q1)).setCell ⟨G, k * 2 + 1, none⟩ (.slice p2 n2 q2)) := (HB1.out.mono (by have := HS.out; omega)).trans (below_grownR sd.2 (Nat.le_refl _) (by have := HS.out; have := HB1.out.size; omega))
      have hlen : xs.length = n * 2 := HO1.out.1
      refine ⟨⟨k + 1, _, by omega, by go_num, sd.1, fun i y hi hy => ?_, HB.out.trans hb2, by have := HS.out; have := hb2.size; omega⟩, by simp [intOf]; omega⟩
      by_cases hik : i < k
      · obtain ⟨cs, hl, hc, hr⟩ := HD.out i y hik hy
        refine ⟨cs, hl, fun j hj => ?_, ?_⟩
        · rw [set2_other (by omega)]; exact hc j hj
        · have sm : SameOn (fun g => G < g) wr ((w1.setCell ⟨G, k * 2, none⟩ (.slice p1 n1 q1)).setCell ⟨G, k * 2 + 1, none⟩ (.slice p2 n2 q2)) := (SameOn.of_below HB1.out).trans ⟨sd.2.size, fun a ha hl => sd.2.block a hl (by simp; omega)⟩
          exact hr.mono (sm) (fun _ h => h) (fun _ _ => HEx.mono (sm) (fun _ h => h))
      · obtain rfl : k = i := by omega
        obtain rfl : x = y := by rw [hxk] at hy; exact Option.some.inj hy
        refine ⟨[.slice p1 n1 q1, .slice p2 n2 q2], rfl, fun j hj => ?_, ?_⟩
        · exact set2_self (by omega) j hj
        · have sm : SameOn (fun g => wr.heap.size ≤ g) w1 ((w1.setCell ⟨G, k * 2, none⟩ (.slice p1 n1 q1)).setCell ⟨G, k * 2 + 1, none⟩ (.slice p2 n2 q2)) := ⟨sd.2.size, fun a ha hl => sd.2.block a hl (by have := HS.out; simp; omega)⟩
          have hi : ∀ g, wr.heap.size ≤ g → G < g := fun g hg => by have := HS.out; omega
          have hx1 : HCl w1 (fun g => wr.heap.size ≤ g) (HEx w1 (fun g => wr.heap.size ≤ g) d) [.slice p1 n1 q1, .slice p2 n2 q2] x := HX1.out
          exact hx1.mono (sm) (hi) (fun _ _ => HEx.mono (sm) (hi))
    · obtain rfl : k = n := by omega
      have HO2 : Hid (Rows wr (fun g => G ≤ g) 2 (HCl wr (fun g => G ≤ g) (HEx wr (fun g => G ≤ g) d)) (.slice (some ⟨G, 0, none⟩) k k) es) := by
        refine ⟨_, _, by rw [HN.out], by rw [HN.out]; exact Nat.le_refl _, by unfold maxLen; omega, fun hne => ⟨G, 0, rfl, Nat.le_refl _, by have := HS.out; omega, fun i x hi => ?_⟩⟩
        have hin : i < k := by rw [← HN.out]; exact (List.getElem?_eq_some_iff.1 hi).1
        obtain ⟨cs, hl, hc, hr⟩ := HD.out i x hin hi
        have sm : SameOn (fun g => G < g) wr wr := ⟨Nat.le_refl _, fun _ _ _ => rfl⟩
        exact ⟨cs, hl, fun j hj => by rw [← hc j hj, Nat.zero_add, HOW.out.cellAt _ (by omega)], hr.mono (sm) (fun _ h => Nat.le_of_lt h) (fun _ _ => HEx.mono (sm) (fun _ h => Nat.le_of_lt h))⟩
      go_wp2
      go_ret
      refine ⟨_, rfl, ?_, ?_⟩
      · exact HO2.out
      · exact HB.out

theorem HFn.shape {w : World} {S : Nat → Prop} {d : Nat} {cs : List Value} {x : Fn'} (h : HFn w S d cs x) : ∃ st sk p1 n1 q1, cs = [.string st, .int .i64 sk, .slice p1 n1 q1] := by
  obtain ⟨cv, rfl, _, _, ⟨p1, c1, rfl, _⟩⟩ := h
  exact ⟨_, _, _, _, _, rfl⟩

set_option maxHeartbeats 4000000 in
theorem toFunS_of {d : Nat} (hE : ToC 74 (fun w v e => ∃ cs, v = .agg cs.toArray ∧ HFn w All d cs e) (fun w S v e => ∃ cs, v = .agg cs.toArray ∧ HFn w S d cs e) (wtFn d)) :
    ToC 35 (fun w v es => Rows w All 3 (HFn w All d) v es) (fun w S v es => Rows w S 3 (HFn w S d) v es) (wtS (wtFn d)) := by
  intro w v es h hwt
  obtain ⟨p, cap, rfl, hcl, hcm, hx⟩ := h
  generalize hn : es.length = n at *
  have HN : Hid (es.length = n) := hn
  have HX : Hid _ := hx
  have hnb : n ≤ 1048576 := by unfold wtS at hwt; omega
  have HWT : Hid (wtS (wtFn d) es ≤ 1048576) := hwt
  clear hx hn hwt
  obtain ⟨M, hM, hmk⟩ := make_row (t := 29) (e := 57) (c := 3) Tryz.underlying29 (by kernel_rfl) w n hnb
  have hown : (w.alloc (.cells M 57)).ownsRow w.heap.size 57 3 (.slice (some ⟨w.heap.size, 0, none⟩) n n) n M.toList := World.ownsRow_lit w M n (Nat.le_refl _) (by unfold maxLen; omega) hM
  have HO : Hid ((w.alloc (.cells M 57)).ownsRow w.heap.size 57 3 (.slice (some ⟨w.heap.size, 0, none⟩) n n) n M.toList) := hown
  clear hown
  generalize hG : w.heap.size = G at *
  have HG : Hid (w.heap.size = G) := hG
  have HGB : Hid (Below G w (w.alloc (.cells M 57))) := (Below.refl _ _).alloc (by rw [HG.out]; exact Nat.le_refl _) _
  have hgs : G + 1 ≤ (w.alloc (.cells M 57)).heap.size := by rw [alloc_hs, HG.out]; exact Nat.le_refl _
  have HGS : Hid (G + 1 ≤ (w.alloc (.cells M 57)).heap.size) := hgs
  clear hgs
  go_enter Tryz.func35, Tryz.ntmps35
  go_wp2
  go_loopw [4] (fun iv wr => ∃ (k : Nat) (xs : List Value), k ≤ n ∧ iv = .int .i64 k ∧ wr.ownsRow G 57 3 (.slice (some ⟨G, 0, none⟩) n n) n xs ∧
      (∀ (i : Nat) (x : Fn'), i < k → es[i]? = some x → ∃ cs, cs.length = 3 ∧ (∀ j, j < 3 → xs[i * 3 + j]? = cs[j]?) ∧ HFn wr (fun g => G < g) d cs x) ∧ Below G w wr ∧ G + 1 ≤ wr.heap.size) (fun iv _ => n - (intOf iv).toNat)
  case atStart => exact ⟨0, M.toList, Nat.zero_le _, rfl, HO.out, fun i x hi => by omega, HGB.out, HGS.out⟩
  case round =>
    obtain ⟨k, xs, hk, rfl, ho, hdone, hb, hgs⟩ := hrel
    have HOW : Hid (wr.ownsRow G 57 3 (.slice (some ⟨G, 0, none⟩) n n) n xs) := ho
    have HD : Hid (∀ (i : Nat) (x : Fn'), i < k → es[i]? = some x → ∃ cs, cs.length = 3 ∧ (∀ j, j < 3 → xs[i * 3 + j]? = cs[j]?) ∧ HFn wr (fun g => G < g) d cs x) := hdone
    have HB : Hid (Below G w wr) := hb
    have HS : Hid (G + 1 ≤ wr.heap.size) := hgs
    clear ho hdone hgs
    by_cases hlt : k < n
    · obtain ⟨x, hxk⟩ : ∃ x, es[k]? = some x := ⟨es[k]'(by rw [HN.out]; exact hlt), List.getElem?_eq_getElem _⟩
      obtain ⟨g, off, rfl, hg, hgl, hat⟩ := HX.out (by intro h; rw [h] at hxk; simp at hxk)
      obtain ⟨cs, hcl6, hcs, hex⟩ := hat k x hxk
      have hbw : Below w.heap.size w wr := by rw [HG.out]; exact hb
      have hex' : ∀ w', SameOn All wr w' → HFn w' All d cs x := fun w' hw => hex.mono (SameOn.trans (SameOn.of_below hbw) hw) (fun _ h => h)
      obtain ⟨z0, z1, z2, rfl⟩ := len3 hcl6
      have a0 := hcs 0 (by omega)
      have a1 := hcs 1 (by omega)
      have a2 := hcs 2 (by omega)
      rw [← hb.cell (p := ⟨g, _, none⟩) hgl] at a0 a1 a2
      simp at a0 a1 a2
      have hwx : wtFn d x ≤ 1048576 := by
        have h1 := HWT.out
        have h2 := sum_take_succ (wtFn d) es k x hxk
        have h3 := sum_take_le (wtFn d) es (k + 1)
        unfold wtS at h1
        omega
      clear hb hbw hcs hat hex hcl6
      go_wp2_with (go_at_call 74; go_must (refine (hE _ _ x ⟨_, rfl, hex' _ (by exact ⟨Nat.le_refl _, fun _ _ _ => rfl⟩)⟩ hwx).mono ?_; rintro e w1 ⟨u, rfl, ⟨cs', rfl, hx1⟩, hb1⟩; obtain ⟨st, sk, p1, n1, q1, hsh⟩ := hx1.shape; subst hsh; have HB1 : Hid _ := hb1; have HX1 : Hid _ := hx1; have o1 := HOW.out.kept (grownBy_belowR (r := none) hb1) (Or.inr (by simp [Value.ownBlock])); have HO1 : Hid _ := o1; have f0 := o1.frozenAt (k * 3); obtain ⟨y0, g0⟩ := own_someR o1 (k * 3) (by omega); have f1 := o1.frozenAt (k * 3 + 1); obtain ⟨y1, g1⟩ := own_someR o1 (k * 3 + 1) (by omega); have f2 := o1.frozenAt (k * 3 + 2); obtain ⟨y2, g2⟩ := own_someR o1 (k * 3 + 2) (by omega); clear o1 hb1 hx1))
      have sd := stored3 HO1.out (k * 3) (.string st) (.int .i64 sk) (.slice p1 n1 q1)
      have hb2 : Below G wr (((w1.setCell ⟨G, k * 3, none⟩ (.string st)).setCell ⟨G, k * 3 + 1, none⟩ (.int .i64 sk)).setCell ⟨G, k * 3 + 2, none⟩ (.slice p1 n1 q1)) := (HB1.out.mono (by have := HS.out; omega)).trans (below_grownR sd.2 (Nat.le_refl _) (by have := HS.out; have := HB1.out.size; omega))
      have hlen : xs.length = n * 3 := HO1.out.1
      refine ⟨⟨k + 1, _, by omega, by go_num, sd.1, fun i y hi hy => ?_, HB.out.trans hb2, by have := HS.out; have := hb2.size; omega⟩, by simp [intOf]; omega⟩
      by_cases hik : i < k
      · obtain ⟨cs, hl, hc, hr⟩ := HD.out i y hik hy
        refine ⟨cs, hl, fun j hj => ?_, ?_⟩
        · rw [set3_other (by omega)]; exact hc j hj
        · have sm : SameOn (fun g => G < g) wr (((w1.setCell ⟨G, k * 3, none⟩ (.string st)).setCell ⟨G, k * 3 + 1, none⟩ (.int .i64 sk)).setCell ⟨G, k * 3 + 2, none⟩ (.slice p1 n1 q1)) := (SameOn.of_below HB1.out).trans ⟨sd.2.size, fun a ha hl => sd.2.block a hl (by simp; omega)⟩
          exact hr.mono (sm) (fun _ h => h)
      · obtain rfl : k = i := by omega
        obtain rfl : x = y := by rw [hxk] at hy; exact Option.some.inj hy
        refine ⟨[.string st, .int .i64 sk, .slice p1 n1 q1], rfl, fun j hj => ?_, ?_⟩
        · exact set3_self (by omega) j hj
        · have sm : SameOn (fun g => wr.heap.size ≤ g) w1 (((w1.setCell ⟨G, k * 3, none⟩ (.string st)).setCell ⟨G, k * 3 + 1, none⟩ (.int .i64 sk)).setCell ⟨G, k * 3 + 2, none⟩ (.slice p1 n1 q1)) := ⟨sd.2.size, fun a ha hl => sd.2.block a hl (by have := HS.out; simp; omega)⟩
          have hi : ∀ g, wr.heap.size ≤ g → G < g := fun g hg => by have := HS.out; omega
          have hx1 : HFn w1 (fun g => wr.heap.size ≤ g) d [.string st, .int .i64 sk, .slice p1 n1 q1] x := HX1.out
          exact hx1.mono (sm) (hi)
    · obtain rfl : k = n := by omega
      have HO2 : Hid (Rows wr (fun g => G ≤ g) 3 (HFn wr (fun g => G ≤ g) d) (.slice (some ⟨G, 0, none⟩) k k) es) := by
        refine ⟨_, _, by rw [HN.out], by rw [HN.out]; exact Nat.le_refl _, by unfold maxLen; omega, fun hne => ⟨G, 0, rfl, Nat.le_refl _, by have := HS.out; omega, fun i x hi => ?_⟩⟩
        have hin : i < k := by rw [← HN.out]; exact (List.getElem?_eq_some_iff.1 hi).1
        obtain ⟨cs, hl, hc, hr⟩ := HD.out i x hin hi
        have sm : SameOn (fun g => G < g) wr wr := ⟨Nat.le_refl _, fun _ _ _ => rfl⟩
        exact ⟨cs, hl, fun j hj => by rw [← hc j hj, Nat.zero_add, HOW.out.cellAt _ (by omega)], hr.mono (sm) (fun _ h => Nat.le_of_lt h)⟩
      go_wp2
      go_ret
      refine ⟨_, rfl, ?_, ?_⟩
      · exact HO2.out
      · exact HB.out

theorem HRf.shape {cs : List Value} {x : Rf} (h : HRf cs x) : ∃ st sk, cs = [.string st, .int .i64 sk] := by
  obtain ⟨rfl, _⟩ := h
  exact ⟨_, _, rfl⟩

set_option maxHeartbeats 4000000 in
theorem toRefS_of {d : Nat} (hE : ToC 73 (fun w v e => ∃ cs, v = .agg cs.toArray ∧ HRf cs e) (fun w S v e => ∃ cs, v = .agg cs.toArray ∧ HRf cs e) (wtRf)) :
    ToC 34 (fun w v es => Rows w All 2 (HRf) v es) (fun w S v es => Rows w S 2 (HRf) v es) (wtS (wtRf)) := by
  intro w v es h hwt
  obtain ⟨p, cap, rfl, hcl, hcm, hx⟩ := h
  generalize hn : es.length = n at *
  have HN : Hid (es.length = n) := hn
  have HX : Hid _ := hx
  have hnb : n ≤ 1048576 := by unfold wtS at hwt; omega
  have HWT : Hid (wtS (wtRf) es ≤ 1048576) := hwt
  clear hx hn hwt
  obtain ⟨M, hM, hmk⟩ := make_row (t := 28) (e := 54) (c := 2) Tryz.underlying28 (by kernel_rfl) w n hnb
  have hown : (w.alloc (.cells M 54)).ownsRow w.heap.size 54 2 (.slice (some ⟨w.heap.size, 0, none⟩) n n) n M.toList := World.ownsRow_lit w M n (Nat.le_refl _) (by unfold maxLen; omega) hM
  have HO : Hid ((w.alloc (.cells M 54)).ownsRow w.heap.size 54 2 (.slice (some ⟨w.heap.size, 0, none⟩) n n) n M.toList) := hown
  clear hown
  generalize hG : w.heap.size = G at *
  have HG : Hid (w.heap.size = G) := hG
  have HGB : Hid (Below G w (w.alloc (.cells M 54))) := (Below.refl _ _).alloc (by rw [HG.out]; exact Nat.le_refl _) _
  have hgs : G + 1 ≤ (w.alloc (.cells M 54)).heap.size := by rw [alloc_hs, HG.out]; exact Nat.le_refl _
  have HGS : Hid (G + 1 ≤ (w.alloc (.cells M 54)).heap.size) := hgs
  clear hgs
  go_enter Tryz.func34, Tryz.ntmps34
  go_wp2
  go_loopw [4] (fun iv wr => ∃ (k : Nat) (xs : List Value), k ≤ n ∧ iv = .int .i64 k ∧ wr.ownsRow G 54 2 (.slice (some ⟨G, 0, none⟩) n n) n xs ∧
      (∀ (i : Nat) (x : Rf), i < k → es[i]? = some x → ∃ cs, cs.length = 2 ∧ (∀ j, j < 2 → xs[i * 2 + j]? = cs[j]?) ∧ HRf cs x) ∧ Below G w wr ∧ G + 1 ≤ wr.heap.size) (fun iv _ => n - (intOf iv).toNat)
  case atStart => exact ⟨0, M.toList, Nat.zero_le _, rfl, HO.out, fun i x hi => by omega, HGB.out, HGS.out⟩
  case round =>
    obtain ⟨k, xs, hk, rfl, ho, hdone, hb, hgs⟩ := hrel
    have HOW : Hid (wr.ownsRow G 54 2 (.slice (some ⟨G, 0, none⟩) n n) n xs) := ho
    have HD : Hid (∀ (i : Nat) (x : Rf), i < k → es[i]? = some x → ∃ cs, cs.length = 2 ∧ (∀ j, j < 2 → xs[i * 2 + j]? = cs[j]?) ∧ HRf cs x) := hdone
    have HB : Hid (Below G w wr) := hb
    have HS : Hid (G + 1 ≤ wr.heap.size) := hgs
    clear ho hdone hgs
    by_cases hlt : k < n
    · obtain ⟨x, hxk⟩ : ∃ x, es[k]? = some x := ⟨es[k]'(by rw [HN.out]; exact hlt), List.getElem?_eq_getElem _⟩
      obtain ⟨g, off, rfl, hg, hgl, hat⟩ := HX.out (by intro h; rw [h] at hxk; simp at hxk)
      obtain ⟨cs, hcl6, hcs, hex⟩ := hat k x hxk
      have hbw : Below w.heap.size w wr := by rw [HG.out]; exact hb
      have hex' : ∀ w', SameOn All wr w' → HRf cs x := fun w' hw => hex
      obtain ⟨z0, z1, rfl⟩ := len2 hcl6
      have a0 := hcs 0 (by omega)
      have a1 := hcs 1 (by omega)
      rw [← hb.cell (p := ⟨g, _, none⟩) hgl] at a0 a1
      simp at a0 a1
      have hwx : wtRf x ≤ 1048576 := by
        have h1 := HWT.out
        have h2 := sum_take_succ (wtRf) es k x hxk
        have h3 := sum_take_le (wtRf) es (k + 1)
        unfold wtS at h1
        omega
      clear hb hbw hcs hat hex hcl6
      go_wp2_with (go_at_call 73; go_must (refine (hE _ _ x ⟨_, rfl, hex' _ (by exact ⟨Nat.le_refl _, fun _ _ _ => rfl⟩)⟩ hwx).mono ?_; rintro e w1 ⟨u, rfl, ⟨cs', rfl, hx1⟩, hb1⟩; obtain ⟨st, sk, hsh⟩ := hx1.shape; subst hsh; have HB1 : Hid _ := hb1; have HX1 : Hid _ := hx1; have o1 := HOW.out.kept (grownBy_belowR (r := none) hb1) (Or.inr (by simp [Value.ownBlock])); have HO1 : Hid _ := o1; have f0 := o1.frozenAt (k * 2); obtain ⟨y0, g0⟩ := own_someR o1 (k * 2) (by omega); have f1 := o1.frozenAt (k * 2 + 1); obtain ⟨y1, g1⟩ := own_someR o1 (k * 2 + 1) (by omega); clear o1 hb1 hx1))
      have sd := stored2 HO1.out (k * 2) (.string st) (.int .i64 sk)
      have hb2 : Below G wr ((w1.setCell ⟨G, k * 2, none⟩ (.string st)).setCell ⟨G, k * 2 + 1, none⟩ (.int .i64 sk)) := (HB1.out.mono (by have := HS.out; omega)).trans (below_grownR sd.2 (Nat.le_refl _) (by have := HS.out; have := HB1.out.size; omega))
      have hlen : xs.length = n * 2 := HO1.out.1
      refine ⟨⟨k + 1, _, by omega, by go_num, sd.1, fun i y hi hy => ?_, HB.out.trans hb2, by have := HS.out; have := hb2.size; omega⟩, by simp [intOf]; omega⟩
      by_cases hik : i < k
      · obtain ⟨cs, hl, hc, hr⟩ := HD.out i y hik hy
        refine ⟨cs, hl, fun j hj => ?_, ?_⟩
        · rw [set2_other (by omega)]; exact hc j hj
        · have sm : SameOn (fun g => G < g) wr ((w1.setCell ⟨G, k * 2, none⟩ (.string st)).setCell ⟨G, k * 2 + 1, none⟩ (.int .i64 sk)) := (SameOn.of_below HB1.out).trans ⟨sd.2.size, fun a ha hl => sd.2.block a hl (by simp; omega)⟩
          exact hr
      · obtain rfl : k = i := by omega
        obtain rfl : x = y := by rw [hxk] at hy; exact Option.some.inj hy
        refine ⟨[.string st, .int .i64 sk], rfl, fun j hj => ?_, ?_⟩
        · exact set2_self (by omega) j hj
        · have sm : SameOn (fun g => wr.heap.size ≤ g) w1 ((w1.setCell ⟨G, k * 2, none⟩ (.string st)).setCell ⟨G, k * 2 + 1, none⟩ (.int .i64 sk)) := ⟨sd.2.size, fun a ha hl => sd.2.block a hl (by have := HS.out; simp; omega)⟩
          have hi : ∀ g, wr.heap.size ≤ g → G < g := fun g hg => by have := HS.out; omega
          have hx1 : HRf [.string st, .int .i64 sk] x := HX1.out
          exact hx1
    · obtain rfl : k = n := by omega
      have HO2 : Hid (Rows wr (fun g => G ≤ g) 2 (HRf) (.slice (some ⟨G, 0, none⟩) k k) es) := by
        refine ⟨_, _, by rw [HN.out], by rw [HN.out]; exact Nat.le_refl _, by unfold maxLen; omega, fun hne => ⟨G, 0, rfl, Nat.le_refl _, by have := HS.out; omega, fun i x hi => ?_⟩⟩
        have hin : i < k := by rw [← HN.out]; exact (List.getElem?_eq_some_iff.1 hi).1
        obtain ⟨cs, hl, hc, hr⟩ := HD.out i x hin hi
        have sm : SameOn (fun g => G < g) wr wr := ⟨Nat.le_refl _, fun _ _ _ => rfl⟩
        exact ⟨cs, hl, fun j hj => by rw [← hc j hj, Nat.zero_add, HOW.out.cellAt _ (by omega)], hr⟩
      go_wp2
      go_ret
      refine ⟨_, rfl, ?_, ?_⟩
      · exact HO2.out
      · exact HB.out

set_option maxHeartbeats 4000000 in
theorem toExp_of {d : Nat} (h0 : ToC 143 (fun w v es => Rows w All 6 (HEx w All d) v es) (fun w S v es => Rows w S 6 (HEx w S d) v es) (wtS (wtEx d))) (h1 : ToC 101 (fun w v es => Rows w All 2 (HCl w All (HEx w All d)) v es) (fun w S v es => Rows w S 2 (HCl w S (HEx w S d)) v es) (wtS (wtCl (wtEx d)))) :
    ToC 161 (fun w v e => ∃ cs, v = .agg cs.toArray ∧ HEx w All (d + 1) cs e) (fun w S v e => ∃ cs, v = .agg cs.toArray ∧ HEx w S (d + 1) cs e) (wtEx (d + 1)) := by
  intro w v e i1 hwt
  obtain ⟨cs, rfl, v0, v1, rfl, s0, s1, s2, s3, f0, f1⟩ := i1
  have hw0 : wtS (wtEx d) e.kids ≤ 1048576 := by unfold wtEx at hwt; omega
  have E0 : ∀ w', SameOn All w w' → Rows w' All 6 (HEx w' All d) v0 e.kids := fun w' hw => f0.mono (hw) (fun _ h => h) (fun _ _ _ => HEx.mono (hw) (fun _ h => h))
  have hw1 : wtS (wtCl (wtEx d)) e.clauses ≤ 1048576 := by unfold wtEx at hwt; omega
  have E1 : ∀ w', SameOn All w w' → Rows w' All 2 (HCl w' All (HEx w' All d)) v1 e.clauses := fun w' hw => f1.mono (hw) (fun _ h => h) (fun _ _ _ h => h.mono (hw) (fun _ h => h) (fun _ _ => HEx.mono (hw) (fun _ h => h)))
  obtain ⟨p0, c0, rfl, _⟩ := id f0
  obtain ⟨p1, c1, rfl, _⟩ := id f1
  clear f0 f1
  go_enter Tryz.func161, Tryz.ntmps161
  go_wp2_with fail
  have hal : Below w.heap.size w (((w.alloc (.cells #[.int .i64 e.kind, .int .i64 e.n, .string e.text, .string e.mod, .slice p0 e.kids.length c0, .slice p1 e.clauses.length c1] 197)).alloc (.cells #[.int .i64 0, .int .i64 0, .string ⟨#[]⟩, .string ⟨#[]⟩, .slice none 0 0, .slice none 0 0] 114)).alloc (.cells #[.int .i64 e.kind, .int .i64 e.n, .string e.text, .string e.mod, .slice none 0 0, .slice none 0 0] 114)) := (((Below.refl _ _).alloc (Nat.le_refl _) _).alloc (by simp only [alloc_hs]; omega) _).alloc (by simp only [alloc_hs]; omega) _
  refine (h0 _ _ e.kids (E0 _ (SameOn.of_below hal)) hw0).mono ?_
  rintro ex w1 ⟨u, rfl, r0, hb⟩
  have bA := ((Blk.new (w := w) (cs := #[.int .i64 e.kind, .int .i64 e.n, .string e.text, .string e.mod, .slice p0 e.kids.length c0, .slice p1 e.clauses.length c1]) (t := 197)).alloc (o := .cells #[.int .i64 0, .int .i64 0, .string ⟨#[]⟩, .string ⟨#[]⟩, .slice none 0 0, .slice none 0 0] 114)).alloc (o := .cells #[.int .i64 e.kind, .int .i64 e.n, .string e.text, .string e.mod, .slice none 0 0, .slice none 0 0] 114)
  have bR := (Blk.new (w := (w.alloc (.cells #[.int .i64 e.kind, .int .i64 e.n, .string e.text, .string e.mod, .slice p0 e.kids.length c0, .slice p1 e.clauses.length c1] 197))) (cs := #[.int .i64 0, .int .i64 0, .string ⟨#[]⟩, .string ⟨#[]⟩, .slice none 0 0, .slice none 0 0]) (t := 114)).alloc (o := .cells #[.int .i64 e.kind, .int .i64 e.n, .string e.text, .string e.mod, .slice none 0 0, .slice none 0 0] 114)
  have bO := (Blk.new (w := ((w.alloc (.cells #[.int .i64 e.kind, .int .i64 e.n, .string e.text, .string e.mod, .slice p0 e.kids.length c0, .slice p1 e.clauses.length c1] 197)).alloc (.cells #[.int .i64 0, .int .i64 0, .string ⟨#[]⟩, .string ⟨#[]⟩, .slice none 0 0, .slice none 0 0] 114))) (cs := #[.int .i64 e.kind, .int .i64 e.n, .string e.text, .string e.mod, .slice none 0 0, .slice none 0 0]) (t := 114))
  simp only [alloc_hs] at bA bR bO
  replace bA := bA.below hb (by simp only [alloc_hs]; omega)
  replace bR := bR.below hb (by simp only [alloc_hs]; omega)
  replace bO := bO.below hb (by simp only [alloc_hs]; omega)
  have B1 : Below w.heap.size w w1 := hal.trans (hb.mono hal.size)
  have z1 : w.heap.size + 3 ≤ w1.heap.size := by have := hb.size; simp only [alloc_hs] at this; omega
  have Z1 : Hid (w.heap.size + 3 ≤ w1.heap.size) := z1
  simp only [alloc_hs] at r0
  have T0 : Hid (Rows w1 (fun g => w.heap.size + 1 + 1 + 1 ≤ g) 6 (HEx w1 (fun g => w.heap.size + 1 + 1 + 1 ≤ g) d) u e.kids) := r0
  clear hal hb z1
  obtain ⟨p0', c0', hu, _⟩ := id T0.out
  subst hu
  clear r0
  have a5 := bA.cell 5 _ rfl
  have o4 := bO.cell 4 _ rfl
  have g4 := bO.frozen 4
  have HA : Hid (Blk w1 w.heap.size #[.int .i64 e.kind, .int .i64 e.n, .string e.text, .string e.mod, .slice p0 e.kids.length c0, .slice p1 e.clauses.length c1] 197) := bA
  have HR : Hid (Blk w1 (w.heap.size + 1) #[.int .i64 0, .int .i64 0, .string ⟨#[]⟩, .string ⟨#[]⟩, .slice none 0 0, .slice none 0 0] 114) := bR
  have HO : Hid (Blk w1 (w.heap.size + 1 + 1) #[.int .i64 e.kind, .int .i64 e.n, .string e.text, .string e.mod, .slice none 0 0, .slice none 0 0] 114) := bO
  have HB1 : Hid (Below w.heap.size w w1) := B1
  clear bA bR bO B1
  go_wp2_with fail
  have hp : Below w.heap.size w (w1.setCell ⟨w.heap.size + 1 + 1, 4, none⟩ (.slice p0' e.kids.length c0')) := HB1.out.setCell (by show _ ≤ w.heap.size + 1 + 1; omega) _
  refine (h1 _ _ e.clauses (E1 _ (SameOn.of_below hp)) hw1).mono ?_
  rintro ex w2 ⟨u, rfl, r1, hb⟩
  have bA := ((HA.out.other (p := ⟨w.heap.size + 1 + 1, 4, none⟩) (v := .slice p0' e.kids.length c0') (by show w.heap.size ≠ w.heap.size + 1 + 1; omega)).below hb (by have := Z1.out; simp only [setCell_hs]; omega))
  have bR := ((HR.out.other (p := ⟨w.heap.size + 1 + 1, 4, none⟩) (v := .slice p0' e.kids.length c0') (by show w.heap.size + 1 ≠ w.heap.size + 1 + 1; omega)).below hb (by have := Z1.out; simp only [setCell_hs]; omega))
  have bO := ((HO.out.same (j := 4) (v := .slice p0' e.kids.length c0') (cs' := #[.int .i64 e.kind, .int .i64 e.n, .string e.text, .string e.mod, .slice p0' e.kids.length c0', .slice none 0 0]) rfl).below hb (by have := Z1.out; simp only [setCell_hs]; omega))
  have B2 : Below w.heap.size w w2 := hp.trans (hb.mono hp.size)
  have z2 : w.heap.size + 3 ≤ w2.heap.size := by have := hb.size; have := Z1.out; simp only [setCell_hs] at *; omega
  have Z2 : Hid (w.heap.size + 3 ≤ w2.heap.size) := z2
  have hi : ∀ g, (w1.setCell ⟨w.heap.size + 1 + 1, 4, none⟩ (.slice p0' e.kids.length c0')).heap.size ≤ g → w.heap.size + 1 + 1 + 1 ≤ g := fun g hg => by have := Z1.out; simp only [setCell_hs] at hg; omega
  have sr : SameOn (fun g => (w1.setCell ⟨w.heap.size + 1 + 1, 4, none⟩ (.slice p0' e.kids.length c0')).heap.size ≤ g) w2 w2 := ⟨Nat.le_refl _, fun _ _ _ => rfl⟩
  have T1 : Hid (Rows w2 (fun g => w.heap.size + 1 + 1 + 1 ≤ g) 2 (HCl w2 (fun g => w.heap.size + 1 + 1 + 1 ≤ g) (HEx w2 (fun g => w.heap.size + 1 + 1 + 1 ≤ g) d)) u e.clauses) := r1.mono (sr) (hi) (fun _ _ _ h => h.mono (sr) (hi) (fun _ _ => HEx.mono (sr) (hi)))
  have ss : SameOn (fun g => w.heap.size + 1 + 1 + 1 ≤ g) w1 w2 := (SameOn.setCell (SameOn.of_below (Below.refl _ _)) (by show ¬ (_ ≤ w.heap.size + 1 + 1); omega) _).trans (SameOn.of_below hb)
  have T0 : Hid (Rows w2 (fun g => w.heap.size + 1 + 1 + 1 ≤ g) 6 (HEx w2 (fun g => w.heap.size + 1 + 1 + 1 ≤ g) d) (.slice p0' e.kids.length c0') e.kids) := by have h := T0.out; exact h.mono (ss) (fun _ h => h) (fun _ _ _ => HEx.mono (ss) (fun _ h => h))
  clear hp hb z2 hi sr ss r1 HA HR HO HB1
  obtain ⟨p1', c1', hu, _⟩ := id T1.out
  subst hu
  have o0 := bO.cell 0 _ rfl
  have q0 := bR.cell 0 _ rfl
  have k0 := bR.frozen 0
  have o1 := bO.cell 1 _ rfl
  have q1 := bR.cell 1 _ rfl
  have k1 := bR.frozen 1
  have o2 := bO.cell 2 _ rfl
  have q2 := bR.cell 2 _ rfl
  have k2 := bR.frozen 2
  have o3 := bO.cell 3 _ rfl
  have q3 := bR.cell 3 _ rfl
  have k3 := bR.frozen 3
  have o4 := bO.cell 4 _ rfl
  have q4 := bR.cell 4 _ rfl
  have k4 := bR.frozen 4
  have o5 := bO.cell 5 _ rfl
  have q5 := bR.cell 5 _ rfl
  have k5 := bR.frozen 5
  have g5 := bO.frozen 5
  have HA : Hid (Blk w2 w.heap.size #[.int .i64 e.kind, .int .i64 e.n, .string e.text, .string e.mod, .slice p0 e.kids.length c0, .slice p1 e.clauses.length c1] 197) := bA
  have HR : Hid (Blk w2 (w.heap.size + 1) #[.int .i64 0, .int .i64 0, .string ⟨#[]⟩, .string ⟨#[]⟩, .slice none 0 0, .slice none 0 0] 114) := bR
  have HO : Hid (Blk w2 (w.heap.size + 1 + 1) #[.int .i64 e.kind, .int .i64 e.n, .string e.text, .string e.mod, .slice p0' e.kids.length c0', .slice none 0 0] 114) := bO
  have HB2 : Hid (Below w.heap.size w w2) := B2
  clear bA bR bO B2
  go_wp2_with fail
  have sf : SameOn (fun g => w.heap.size + 1 + 1 + 1 ≤ g) w2 (((((((w2.setCell ⟨w.heap.size + 1 + 1, 5, none⟩ (.slice p1' e.clauses.length c1')).setCell ⟨w.heap.size + 1, 0, none⟩ (.int .i64 e.kind)).setCell ⟨w.heap.size + 1, 1, none⟩ (.int .i64 e.n)).setCell ⟨w.heap.size + 1, 2, none⟩ (.string e.text)).setCell ⟨w.heap.size + 1, 3, none⟩ (.string e.mod)).setCell ⟨w.heap.size + 1, 4, none⟩ (.slice p0' e.kids.length c0')).setCell ⟨w.heap.size + 1, 5, none⟩ (.slice p1' e.clauses.length c1')) := SameOn.setCell (SameOn.setCell (SameOn.setCell (SameOn.setCell (SameOn.setCell (SameOn.setCell (SameOn.setCell (SameOn.of_below (Below.refl _ _)) (by show ¬ (_ ≤ w.heap.size + 1 + 1); omega) _) (by show ¬ (_ ≤ w.heap.size + 1); omega) _) (by show ¬ (_ ≤ w.heap.size + 1); omega) _) (by show ¬ (_ ≤ w.heap.size + 1); omega) _) (by show ¬ (_ ≤ w.heap.size + 1); omega) _) (by show ¬ (_ ≤ w.heap.size + 1); omega) _) (by show ¬ (_ ≤ w.heap.size + 1); omega) _
  have bf : Below w.heap.size w (((((((w2.setCell ⟨w.heap.size + 1 + 1, 5, none⟩ (.slice p1' e.clauses.length c1')).setCell ⟨w.heap.size + 1, 0, none⟩ (.int .i64 e.kind)).setCell ⟨w.heap.size + 1, 1, none⟩ (.int .i64 e.n)).setCell ⟨w.heap.size + 1, 2, none⟩ (.string e.text)).setCell ⟨w.heap.size + 1, 3, none⟩ (.string e.mod)).setCell ⟨w.heap.size + 1, 4, none⟩ (.slice p0' e.kids.length c0')).setCell ⟨w.heap.size + 1, 5, none⟩ (.slice p1' e.clauses.length c1')) := Below.setCell (Below.setCell (Below.setCell (Below.setCell (Below.setCell (Below.setCell (Below.setCell (HB2.out) (by show _ ≤ w.heap.size + 1 + 1; omega) _) (by show _ ≤ w.heap.size + 1; omega) _) (by show _ ≤ w.heap.size + 1; omega) _) (by show _ ≤ w.heap.size + 1; omega) _) (by show _ ≤ w.heap.size + 1; omega) _) (by show _ ≤ w.heap.size + 1; omega) _) (by show _ ≤ w.heap.size + 1; omega) _
  have hl : ∀ g, w.heap.size + 1 + 1 + 1 ≤ g → w.heap.size ≤ g := fun g hg => by omega
  have U0 : Rows (((((((w2.setCell ⟨w.heap.size + 1 + 1, 5, none⟩ (.slice p1' e.clauses.length c1')).setCell ⟨w.heap.size + 1, 0, none⟩ (.int .i64 e.kind)).setCell ⟨w.heap.size + 1, 1, none⟩ (.int .i64 e.n)).setCell ⟨w.heap.size + 1, 2, none⟩ (.string e.text)).setCell ⟨w.heap.size + 1, 3, none⟩ (.string e.mod)).setCell ⟨w.heap.size + 1, 4, none⟩ (.slice p0' e.kids.length c0')).setCell ⟨w.heap.size + 1, 5, none⟩ (.slice p1' e.clauses.length c1')) (fun g => w.heap.size ≤ g) 6 (HEx (((((((w2.setCell ⟨w.heap.size + 1 + 1, 5, none⟩ (.slice p1' e.clauses.length c1')).setCell ⟨w.heap.size + 1, 0, none⟩ (.int .i64 e.kind)).setCell ⟨w.heap.size + 1, 1, none⟩ (.int .i64 e.n)).setCell ⟨w.heap.size + 1, 2, none⟩ (.string e.text)).setCell ⟨w.heap.size + 1, 3, none⟩ (.string e.mod)).setCell ⟨w.heap.size + 1, 4, none⟩ (.slice p0' e.kids.length c0')).setCell ⟨w.heap.size + 1, 5, none⟩ (.slice p1' e.clauses.length c1')) (fun g => w.heap.size ≤ g) d) (.slice p0' e.kids.length c0') e.kids := by have h := T0.out; exact h.mono (sf) (hl) (fun _ _ _ => HEx.mono (sf) (hl))
  have hl : ∀ g, w.heap.size + 1 + 1 + 1 ≤ g → w.heap.size ≤ g := fun g hg => by omega
  have U1 : Rows (((((((w2.setCell ⟨w.heap.size + 1 + 1, 5, none⟩ (.slice p1' e.clauses.length c1')).setCell ⟨w.heap.size + 1, 0, none⟩ (.int .i64 e.kind)).setCell ⟨w.heap.size + 1, 1, none⟩ (.int .i64 e.n)).setCell ⟨w.heap.size + 1, 2, none⟩ (.string e.text)).setCell ⟨w.heap.size + 1, 3, none⟩ (.string e.mod)).setCell ⟨w.heap.size + 1, 4, none⟩ (.slice p0' e.kids.length c0')).setCell ⟨w.heap.size + 1, 5, none⟩ (.slice p1' e.clauses.length c1')) (fun g => w.heap.size ≤ g) 2 (HCl (((((((w2.setCell ⟨w.heap.size + 1 + 1, 5, none⟩ (.slice p1' e.clauses.length c1')).setCell ⟨w.heap.size + 1, 0, none⟩ (.int .i64 e.kind)).setCell ⟨w.heap.size + 1, 1, none⟩ (.int .i64 e.n)).setCell ⟨w.heap.size + 1, 2, none⟩ (.string e.text)).setCell ⟨w.heap.size + 1, 3, none⟩ (.string e.mod)).setCell ⟨w.heap.size + 1, 4, none⟩ (.slice p0' e.kids.length c0')).setCell ⟨w.heap.size + 1, 5, none⟩ (.slice p1' e.clauses.length c1')) (fun g => w.heap.size ≤ g) (HEx (((((((w2.setCell ⟨w.heap.size + 1 + 1, 5, none⟩ (.slice p1' e.clauses.length c1')).setCell ⟨w.heap.size + 1, 0, none⟩ (.int .i64 e.kind)).setCell ⟨w.heap.size + 1, 1, none⟩ (.int .i64 e.n)).setCell ⟨w.heap.size + 1, 2, none⟩ (.string e.text)).setCell ⟨w.heap.size + 1, 3, none⟩ (.string e.mod)).setCell ⟨w.heap.size + 1, 4, none⟩ (.slice p0' e.kids.length c0')).setCell ⟨w.heap.size + 1, 5, none⟩ (.slice p1' e.clauses.length c1')) (fun g => w.heap.size ≤ g) d)) (.slice p1' e.clauses.length c1') e.clauses := by have h := T1.out; exact h.mono (sf) (hl) (fun _ _ _ h => h.mono (sf) (hl) (fun _ _ => HEx.mono (sf) (hl)))
  exact bodyPost_ret (v := .agg #[.int .i64 e.kind, .int .i64 e.n, .string e.text, .string e.mod, .slice p0' e.kids.length c0', .slice p1' e.clauses.length c1']) (by simp [results, Tryz.results161, go_sem, q0, q1, q2, q3, q4, q5]) rfl ⟨_, rfl, ⟨_, rfl, _, _, rfl, s0, s1, s2, s3, U0, U1⟩, bf⟩

set_option maxHeartbeats 4000000 in
theorem toClause_of {d : Nat} (h0 : ToC 143 (fun w v es => Rows w All 6 (HEx w All d) v es) (fun w S v es => Rows w S 6 (HEx w S d) v es) (wtS (wtEx d))) (h1 : ToC 143 (fun w v es => Rows w All 6 (HEx w All d) v es) (fun w S v es => Rows w S 6 (HEx w S d) v es) (wtS (wtEx d))) :
    ToC 122 (fun w v e => ∃ cs, v = .agg cs.toArray ∧ HCl w All (HEx w All d) cs e) (fun w S v e => ∃ cs, v = .agg cs.toArray ∧ HCl w S (HEx w S d) cs e) (wtCl (wtEx d)) := by
  intro w v e i1 hwt
  obtain ⟨cs, rfl, v0, v1, rfl, f0, f1⟩ := i1
  have hw0 : wtS (wtEx d) e.1 ≤ 1048576 := by unfold wtCl at hwt; omega
  have E0 : ∀ w', SameOn All w w' → Rows w' All 6 (HEx w' All d) v0 e.1 := fun w' hw => f0.mono (hw) (fun _ h => h) (fun _ _ _ => HEx.mono (hw) (fun _ h => h))
  have hw1 : wtS (wtEx d) e.2 ≤ 1048576 := by unfold wtCl at hwt; omega
  have E1 : ∀ w', SameOn All w w' → Rows w' All 6 (HEx w' All d) v1 e.2 := fun w' hw => f1.mono (hw) (fun _ h => h) (fun _ _ _ => HEx.mono (hw) (fun _ h => h))
  obtain ⟨p0, c0, rfl, _⟩ := id f0
  obtain ⟨p1, c1, rfl, _⟩ := id f1
  clear f0 f1
  go_enter Tryz.func122, Tryz.ntmps122
  go_wp2_with fail
  have hal : Below w.heap.size w (((w.alloc (.cells #[.slice p0 e.1.length c0, .slice p1 e.2.length c1] 162)).alloc (.cells #[.slice none 0 0, .slice none 0 0] 61)).alloc (.cells #[.slice none 0 0, .slice none 0 0] 61)) := (((Below.refl _ _).alloc (Nat.le_refl _) _).alloc (by simp only [alloc_hs]; omega) _).alloc (by simp only [alloc_hs]; omega) _
  refine (h0 _ _ e.1 (E0 _ (SameOn.of_below hal)) hw0).mono ?_
  rintro ex w1 ⟨u, rfl, r0, hb⟩
  have bA := ((Blk.new (w := w) (cs := #[.slice p0 e.1.length c0, .slice p1 e.2.length c1]) (t := 162)).alloc (o := .cells #[.slice none 0 0, .slice none 0 0] 61)).alloc (o := .cells #[.slice none 0 0, .slice none 0 0] 61)
  have bR := (Blk.new (w := (w.alloc (.cells #[.slice p0 e.1.length c0, .slice p1 e.2.length c1] 162))) (cs := #[.slice none 0 0, .slice none 0 0]) (t := 61)).alloc (o := .cells #[.slice none 0 0, .slice none 0 0] 61)
  have bO := (Blk.new (w := ((w.alloc (.cells #[.slice p0 e.1.length c0, .slice p1 e.2.length c1] 162)).alloc (.cells #[.slice none 0 0, .slice none 0 0] 61))) (cs := #[.slice none 0 0, .slice none 0 0]) (t := 61))
  simp only [alloc_hs] at bA bR bO
  replace bA := bA.below hb (by simp only [alloc_hs]; omega)
  replace bR := bR.below hb (by simp only [alloc_hs]; omega)
  replace bO := bO.below hb (by simp only [alloc_hs]; omega)
  have B1 : Below w.heap.size w w1 := hal.trans (hb.mono hal.size)
  have z1 : w.heap.size + 3 ≤ w1.heap.size := by have := hb.size; simp only [alloc_hs] at this; omega
  have Z1 : Hid (w.heap.size + 3 ≤ w1.heap.size) := z1
  simp only [alloc_hs] at r0
  have T0 : Hid (Rows w1 (fun g => w.heap.size + 1 + 1 + 1 ≤ g) 6 (HEx w1 (fun g => w.heap.size + 1 + 1 + 1 ≤ g) d) u e.1) := r0
  clear hal hb z1
  obtain ⟨p0', c0', hu, _⟩ := id T0.out
  subst hu
  clear r0
  have a1 := bA.cell 1 _ rfl
  have o0 := bO.cell 0 _ rfl
  have g0 := bO.frozen 0
  have HA : Hid (Blk w1 w.heap.size #[.slice p0 e.1.length c0, .slice p1 e.2.length c1] 162) := bA
  have HR : Hid (Blk w1 (w.heap.size + 1) #[.slice none 0 0, .slice none 0 0] 61) := bR
  have HO : Hid (Blk w1 (w.heap.size + 1 + 1) #[.slice none 0 0, .slice none 0 0] 61) := bO
  have HB1 : Hid (Below w.heap.size w w1) := B1
  clear bA bR bO B1
  go_wp2_with fail
  have hp : Below w.heap.size w (w1.setCell ⟨w.heap.size + 1 + 1, 0, none⟩ (.slice p0' e.1.length c0')) := HB1.out.setCell (by show _ ≤ w.heap.size + 1 + 1; omega) _
  refine (h1 _ _ e.2 (E1 _ (SameOn.of_below hp)) hw1).mono ?_
  rintro ex w2 ⟨u, rfl, r1, hb⟩
  have bA := ((HA.out.other (p := ⟨w.heap.size + 1 + 1, 0, none⟩) (v := .slice p0' e.1.length c0') (by show w.heap.size ≠ w.heap.size + 1 + 1; omega)).below hb (by have := Z1.out; simp only [setCell_hs]; omega))
  have bR := ((HR.out.other (p := ⟨w.heap.size + 1 + 1, 0, none⟩) (v := .slice p0' e.1.length c0') (by show w.heap.size + 1 ≠ w.heap.size + 1 + 1; omega)).below hb (by have := Z1.out; simp only [setCell_hs]; omega))
  have bO := ((HO.out.same (j := 0) (v := .slice p0' e.1.length c0') (cs' := #[.slice p0' e.1.length c0', .slice none 0 0]) rfl).below hb (by have := Z1.out; simp only [setCell_hs]; omega))
  have B2 : Below w.heap.size w w2 := hp.trans (hb.mono hp.size)
  have z2 : w.heap.size + 3 ≤ w2.heap.size := by have := hb.size; have := Z1.out; simp only [setCell_hs] at *; omega
  have Z2 : Hid (w.heap.size + 3 ≤ w2.heap.size) := z2
  have hi : ∀ g, (w1.setCell ⟨w.heap.size + 1 + 1, 0, none⟩ (.slice p0' e.1.length c0')).heap.size ≤ g → w.heap.size + 1 + 1 + 1 ≤ g := fun g hg => by have := Z1.out; simp only [setCell_hs] at hg; omega
  have sr : SameOn (fun g => (w1.setCell ⟨w.heap.size + 1 + 1, 0, none⟩ (.slice p0' e.1.length c0')).heap.size ≤ g) w2 w2 := ⟨Nat.le_refl _, fun _ _ _ => rfl⟩
  have T1 : Hid (Rows w2 (fun g => w.heap.size + 1 + 1 + 1 ≤ g) 6 (HEx w2 (fun g => w.heap.size + 1 + 1 + 1 ≤ g) d) u e.2) := r1.mono (sr) (hi) (fun _ _ _ => HEx.mono (sr) (hi))
  have ss : SameOn (fun g => w.heap.size + 1 + 1 + 1 ≤ g) w1 w2 := (SameOn.setCell (SameOn.of_below (Below.refl _ _)) (by show ¬ (_ ≤ w.heap.size + 1 + 1); omega) _).trans (SameOn.of_below hb)
  have T0 : Hid (Rows w2 (fun g => w.heap.size + 1 + 1 + 1 ≤ g) 6 (HEx w2 (fun g => w.heap.size + 1 + 1 + 1 ≤ g) d) (.slice p0' e.1.length c0') e.1) := by have h := T0.out; exact h.mono (ss) (fun _ h => h) (fun _ _ _ => HEx.mono (ss) (fun _ h => h))
  clear hp hb z2 hi sr ss r1 HA HR HO HB1
  obtain ⟨p1', c1', hu, _⟩ := id T1.out
  subst hu
  have o0 := bO.cell 0 _ rfl
  have q0 := bR.cell 0 _ rfl
  have k0 := bR.frozen 0
  have o1 := bO.cell 1 _ rfl
  have q1 := bR.cell 1 _ rfl
  have k1 := bR.frozen 1
  have g1 := bO.frozen 1
  have HA : Hid (Blk w2 w.heap.size #[.slice p0 e.1.length c0, .slice p1 e.2.length c1] 162) := bA
  have HR : Hid (Blk w2 (w.heap.size + 1) #[.slice none 0 0, .slice none 0 0] 61) := bR
  have HO : Hid (Blk w2 (w.heap.size + 1 + 1) #[.slice p0' e.1.length c0', .slice none 0 0] 61) := bO
  have HB2 : Hid (Below w.heap.size w w2) := B2
  clear bA bR bO B2
  go_wp2_with fail
  have sf : SameOn (fun g => w.heap.size + 1 + 1 + 1 ≤ g) w2 (((w2.setCell ⟨w.heap.size + 1 + 1, 1, none⟩ (.slice p1' e.2.length c1')).setCell ⟨w.heap.size + 1, 0, none⟩ (.slice p0' e.1.length c0')).setCell ⟨w.heap.size + 1, 1, none⟩ (.slice p1' e.2.length c1')) := SameOn.setCell (SameOn.setCell (SameOn.setCell (SameOn.of_below (Below.refl _ _)) (by show ¬ (_ ≤ w.heap.size + 1 + 1); omega) _) (by show ¬ (_ ≤ w.heap.size + 1); omega) _) (by show ¬ (_ ≤ w.heap.size + 1); omega) _
  have bf : Below w.heap.size w (((w2.setCell ⟨w.heap.size + 1 + 1, 1, none⟩ (.slice p1' e.2.length c1')).setCell ⟨w.heap.size + 1, 0, none⟩ (.slice p0' e.1.length c0')).setCell ⟨w.heap.size + 1, 1, none⟩ (.slice p1' e.2.length c1')) := Below.setCell (Below.setCell (Below.setCell (HB2.out) (by show _ ≤ w.heap.size + 1 + 1; omega) _) (by show _ ≤ w.heap.size + 1; omega) _) (by show _ ≤ w.heap.size + 1; omega) _
  have hl : ∀ g, w.heap.size + 1 + 1 + 1 ≤ g → w.heap.size ≤ g := fun g hg => by omega
  have U0 : Rows (((w2.setCell ⟨w.heap.size + 1 + 1, 1, none⟩ (.slice p1' e.2.length c1')).setCell ⟨w.heap.size + 1, 0, none⟩ (.slice p0' e.1.length c0')).setCell ⟨w.heap.size + 1, 1, none⟩ (.slice p1' e.2.length c1')) (fun g => w.heap.size ≤ g) 6 (HEx (((w2.setCell ⟨w.heap.size + 1 + 1, 1, none⟩ (.slice p1' e.2.length c1')).setCell ⟨w.heap.size + 1, 0, none⟩ (.slice p0' e.1.length c0')).setCell ⟨w.heap.size + 1, 1, none⟩ (.slice p1' e.2.length c1')) (fun g => w.heap.size ≤ g) d) (.slice p0' e.1.length c0') e.1 := by have h := T0.out; exact h.mono (sf) (hl) (fun _ _ _ => HEx.mono (sf) (hl))
  have hl : ∀ g, w.heap.size + 1 + 1 + 1 ≤ g → w.heap.size ≤ g := fun g hg => by omega
  have U1 : Rows (((w2.setCell ⟨w.heap.size + 1 + 1, 1, none⟩ (.slice p1' e.2.length c1')).setCell ⟨w.heap.size + 1, 0, none⟩ (.slice p0' e.1.length c0')).setCell ⟨w.heap.size + 1, 1, none⟩ (.slice p1' e.2.length c1')) (fun g => w.heap.size ≤ g) 6 (HEx (((w2.setCell ⟨w.heap.size + 1 + 1, 1, none⟩ (.slice p1' e.2.length c1')).setCell ⟨w.heap.size + 1, 0, none⟩ (.slice p0' e.1.length c0')).setCell ⟨w.heap.size + 1, 1, none⟩ (.slice p1' e.2.length c1')) (fun g => w.heap.size ≤ g) d) (.slice p1' e.2.length c1') e.2 := by have h := T1.out; exact h.mono (sf) (hl) (fun _ _ _ => HEx.mono (sf) (hl))
  exact bodyPost_ret (v := .agg #[.slice p0' e.1.length c0', .slice p1' e.2.length c1']) (by simp [results, Tryz.results122, go_sem, q0, q1]) rfl ⟨_, rfl, ⟨_, rfl, _, _, rfl, U0, U1⟩, bf⟩

set_option maxHeartbeats 4000000 in
theorem toFun_of {d : Nat} (h0 : ToC 101 (fun w v es => Rows w All 2 (HCl w All (HEx w All d)) v es) (fun w S v es => Rows w S 2 (HCl w S (HEx w S d)) v es) (wtS (wtCl (wtEx d)))) :
    ToC 74 (fun w v e => ∃ cs, v = .agg cs.toArray ∧ HFn w All d cs e) (fun w S v e => ∃ cs, v = .agg cs.toArray ∧ HFn w S d cs e) (wtFn d) := by
  intro w v e i1 hwt
  obtain ⟨cs, rfl, v0, rfl, s0, s1, f0⟩ := i1
  have hw0 : wtS (wtCl (wtEx d)) e.clauses ≤ 1048576 := by unfold wtFn at hwt; omega
  have E0 : ∀ w', SameOn All w w' → Rows w' All 2 (HCl w' All (HEx w' All d)) v0 e.clauses := fun w' hw => f0.mono (hw) (fun _ h => h) (fun _ _ _ h => h.mono (hw) (fun _ h => h) (fun _ _ => HEx.mono (hw) (fun _ h => h)))
  obtain ⟨p0, c0, rfl, _⟩ := id f0
  clear f0
  go_enter Tryz.func74, Tryz.ntmps74
  go_wp2_with fail
  have hal : Below w.heap.size w (((w.alloc (.cells #[.string e.name, .int .i64 e.arity, .slice p0 e.clauses.length c0] 107)).alloc (.cells #[.string ⟨#[]⟩, .int .i64 0, .slice none 0 0] 57)).alloc (.cells #[.string e.name, .int .i64 e.arity, .slice none 0 0] 57)) := (((Below.refl _ _).alloc (Nat.le_refl _) _).alloc (by simp only [alloc_hs]; omega) _).alloc (by simp only [alloc_hs]; omega) _
  refine (h0 _ _ e.clauses (E0 _ (SameOn.of_below hal)) hw0).mono ?_
  rintro ex w1 ⟨u, rfl, r0, hb⟩
  have bA := ((Blk.new (w := w) (cs := #[.string e.name, .int .i64 e.arity, .slice p0 e.clauses.length c0]) (t := 107)).alloc (o := .cells #[.string ⟨#[]⟩, .int .i64 0, .slice none 0 0] 57)).alloc (o := .cells #[.string e.name, .int .i64 e.arity, .slice none 0 0] 57)
  have bR := (Blk.new (w := (w.alloc (.cells #[.string e.name, .int .i64 e.arity, .slice p0 e.clauses.length c0] 107))) (cs := #[.string ⟨#[]⟩, .int .i64 0, .slice none 0 0]) (t := 57)).alloc (o := .cells #[.string e.name, .int .i64 e.arity, .slice none 0 0] 57)
  have bO := (Blk.new (w := ((w.alloc (.cells #[.string e.name, .int .i64 e.arity, .slice p0 e.clauses.length c0] 107)).alloc (.cells #[.string ⟨#[]⟩, .int .i64 0, .slice none 0 0] 57))) (cs := #[.string e.name, .int .i64 e.arity, .slice none 0 0]) (t := 57))
  simp only [alloc_hs] at bA bR bO
  replace bA := bA.below hb (by simp only [alloc_hs]; omega)
  replace bR := bR.below hb (by simp only [alloc_hs]; omega)
  replace bO := bO.below hb (by simp only [alloc_hs]; omega)
  have B1 : Below w.heap.size w w1 := hal.trans (hb.mono hal.size)
  have z1 : w.heap.size + 3 ≤ w1.heap.size := by have := hb.size; simp only [alloc_hs] at this; omega
  have Z1 : Hid (w.heap.size + 3 ≤ w1.heap.size) := z1
  simp only [alloc_hs] at r0
  have T0 : Hid (Rows w1 (fun g => w.heap.size + 1 + 1 + 1 ≤ g) 2 (HCl w1 (fun g => w.heap.size + 1 + 1 + 1 ≤ g) (HEx w1 (fun g => w.heap.size + 1 + 1 + 1 ≤ g) d)) u e.clauses) := r0
  clear hal hb z1
  obtain ⟨p0', c0', hu, _⟩ := id T0.out
  subst hu
  clear r0
  have o0 := bO.cell 0 _ rfl
  have q0 := bR.cell 0 _ rfl
  have k0 := bR.frozen 0
  have o1 := bO.cell 1 _ rfl
  have q1 := bR.cell 1 _ rfl
  have k1 := bR.frozen 1
  have o2 := bO.cell 2 _ rfl
  have q2 := bR.cell 2 _ rfl
  have k2 := bR.frozen 2
  have g2 := bO.frozen 2
  have HA : Hid (Blk w1 w.heap.size #[.string e.name, .int .i64 e.arity, .slice p0 e.clauses.length c0] 107) := bA
  have HR : Hid (Blk w1 (w.heap.size + 1) #[.string ⟨#[]⟩, .int .i64 0, .slice none 0 0] 57) := bR
  have HO : Hid (Blk w1 (w.heap.size + 1 + 1) #[.string e.name, .int .i64 e.arity, .slice none 0 0] 57) := bO
  have HB1 : Hid (Below w.heap.size w w1) := B1
  clear bA bR bO B1
  go_wp2_with fail
  have sf : SameOn (fun g => w.heap.size + 1 + 1 + 1 ≤ g) w1 ((((w1.setCell ⟨w.heap.size + 1 + 1, 2, none⟩ (.slice p0' e.clauses.length c0')).setCell ⟨w.heap.size + 1, 0, none⟩ (.string e.name)).setCell ⟨w.heap.size + 1, 1, none⟩ (.int .i64 e.arity)).setCell ⟨w.heap.size + 1, 2, none⟩ (.slice p0' e.clauses.length c0')) := SameOn.setCell (SameOn.setCell (SameOn.setCell (SameOn.setCell (SameOn.of_below (Below.refl _ _)) (by show ¬ (_ ≤ w.heap.size + 1 + 1); omega) _) (by show ¬ (_ ≤ w.heap.size + 1); omega) _) (by show ¬ (_ ≤ w.heap.size + 1); omega) _) (by show ¬ (_ ≤ w.heap.size + 1); omega) _
  have bf : Below w.heap.size w ((((w1.setCell ⟨w.heap.size + 1 + 1, 2, none⟩ (.slice p0' e.clauses.length c0')).setCell ⟨w.heap.size + 1, 0, none⟩ (.string e.name)).setCell ⟨w.heap.size + 1, 1, none⟩ (.int .i64 e.arity)).setCell ⟨w.heap.size + 1, 2, none⟩ (.slice p0' e.clauses.length c0')) := Below.setCell (Below.setCell (Below.setCell (Below.setCell (HB1.out) (by show _ ≤ w.heap.size + 1 + 1; omega) _) (by show _ ≤ w.heap.size + 1; omega) _) (by show _ ≤ w.heap.size + 1; omega) _) (by show _ ≤ w.heap.size + 1; omega) _
  have hl : ∀ g, w.heap.size + 1 + 1 + 1 ≤ g → w.heap.size ≤ g := fun g hg => by omega
  have U0 : Rows ((((w1.setCell ⟨w.heap.size + 1 + 1, 2, none⟩ (.slice p0' e.clauses.length c0')).setCell ⟨w.heap.size + 1, 0, none⟩ (.string e.name)).setCell ⟨w.heap.size + 1, 1, none⟩ (.int .i64 e.arity)).setCell ⟨w.heap.size + 1, 2, none⟩ (.slice p0' e.clauses.length c0')) (fun g => w.heap.size ≤ g) 2 (HCl ((((w1.setCell ⟨w.heap.size + 1 + 1, 2, none⟩ (.slice p0' e.clauses.length c0')).setCell ⟨w.heap.size + 1, 0, none⟩ (.string e.name)).setCell ⟨w.heap.size + 1, 1, none⟩ (.int .i64 e.arity)).setCell ⟨w.heap.size + 1, 2, none⟩ (.slice p0' e.clauses.length c0')) (fun g => w.heap.size ≤ g) (HEx ((((w1.setCell ⟨w.heap.size + 1 + 1, 2, none⟩ (.slice p0' e.clauses.length c0')).setCell ⟨w.heap.size + 1, 0, none⟩ (.string e.name)).setCell ⟨w.heap.size + 1, 1, none⟩ (.int .i64 e.arity)).setCell ⟨w.heap.size + 1, 2, none⟩ (.slice p0' e.clauses.length c0')) (fun g => w.heap.size ≤ g) d)) (.slice p0' e.clauses.length c0') e.clauses := by have h := T0.out; exact h.mono (sf) (hl) (fun _ _ _ h => h.mono (sf) (hl) (fun _ _ => HEx.mono (sf) (hl)))
  exact bodyPost_ret (v := .agg #[.string e.name, .int .i64 e.arity, .slice p0' e.clauses.length c0']) (by simp [results, Tryz.results74, go_sem, q0, q1, q2]) rfl ⟨_, rfl, ⟨_, rfl, _, rfl, s0, s1, U0⟩, bf⟩

set_option maxHeartbeats 4000000 in
theorem toRef_of {d : Nat}  :
    ToC 73 (fun w v e => ∃ cs, v = .agg cs.toArray ∧ HRf cs e) (fun w S v e => ∃ cs, v = .agg cs.toArray ∧ HRf cs e) (wtRf) := by
  intro w v e i1 hwt
  obtain ⟨cs, rfl, rfl, s0, s1⟩ := i1
  go_enter Tryz.func73, Tryz.ntmps73
  go_wp2
  exact bodyPost_ret (v := .agg #[.string e.name, .int .i64 e.arity]) (by simp [results, Tryz.results73, go_sem]) rfl ⟨_, rfl, ⟨_, rfl, rfl, s0, s1⟩, (((Below.refl _ _).alloc (Nat.le_refl _) _).alloc (by simp only [alloc_hs]; omega) _).alloc (by simp only [alloc_hs]; omega) _⟩

set_option maxHeartbeats 4000000 in
theorem toModule_of {d : Nat} (h0 : ToC 34 (fun w v es => Rows w All 2 (HRf) v es) (fun w S v es => Rows w S 2 (HRf) v es) (wtS (wtRf))) (h1 : ToC 35 (fun w v es => Rows w All 3 (HFn w All d) v es) (fun w S v es => Rows w S 3 (HFn w S d) v es) (wtS (wtFn d))) :
    ToC 7 (fun w v e => ∃ cs, v = .agg cs.toArray ∧ HMd w All d cs e) (fun w S v e => ∃ cs, v = .agg cs.toArray ∧ HMd w S d cs e) (wtMd d) := by
  intro w v e i1 hwt
  obtain ⟨cs, rfl, v0, v1, rfl, s0, f0, f1⟩ := i1
  have hw0 : wtS (wtRf) e.exports ≤ 1048576 := by unfold wtMd at hwt; omega
  have E0 : ∀ w', SameOn All w w' → Rows w' All 2 (HRf) v0 e.exports := fun w' hw => f0.mono (hw) (fun _ h => h) (fun _ _ _ h => h)
  have hw1 : wtS (wtFn d) e.funs ≤ 1048576 := by unfold wtMd at hwt; omega
  have E1 : ∀ w', SameOn All w w' → Rows w' All 3 (HFn w' All d) v1 e.funs := fun w' hw => f1.mono (hw) (fun _ h => h) (fun _ _ _ h => h.mono (hw) (fun _ h => h))
  obtain ⟨p0, c0, rfl, _⟩ := id f0
  obtain ⟨p1, c1, rfl, _⟩ := id f1
  clear f0 f1
  go_enter Tryz.func7, Tryz.ntmps7
  go_wp2_with fail
  have hal : Below w.heap.size w (((w.alloc (.cells #[.string e.name, .slice p0 e.exports.length c0, .slice p1 e.funs.length c1] 25)).alloc (.cells #[.string ⟨#[]⟩, .slice none 0 0, .slice none 0 0] 31)).alloc (.cells #[.string e.name, .slice none 0 0, .slice none 0 0] 31)) := (((Below.refl _ _).alloc (Nat.le_refl _) _).alloc (by simp only [alloc_hs]; omega) _).alloc (by simp only [alloc_hs]; omega) _
  refine (h0 _ _ e.exports (E0 _ (SameOn.of_below hal)) hw0).mono ?_
  rintro ex w1 ⟨u, rfl, r0, hb⟩
  have bA := ((Blk.new (w := w) (cs := #[.string e.name, .slice p0 e.exports.length c0, .slice p1 e.funs.length c1]) (t := 25)).alloc (o := .cells #[.string ⟨#[]⟩, .slice none 0 0, .slice none 0 0] 31)).alloc (o := .cells #[.string e.name, .slice none 0 0, .slice none 0 0] 31)
  have bR := (Blk.new (w := (w.alloc (.cells #[.string e.name, .slice p0 e.exports.length c0, .slice p1 e.funs.length c1] 25))) (cs := #[.string ⟨#[]⟩, .slice none 0 0, .slice none 0 0]) (t := 31)).alloc (o := .cells #[.string e.name, .slice none 0 0, .slice none 0 0] 31)
  have bO := (Blk.new (w := ((w.alloc (.cells #[.string e.name, .slice p0 e.exports.length c0, .slice p1 e.funs.length c1] 25)).alloc (.cells #[.string ⟨#[]⟩, .slice none 0 0, .slice none 0 0] 31))) (cs := #[.string e.name, .slice none 0 0, .slice none 0 0]) (t := 31))
  simp only [alloc_hs] at bA bR bO
  replace bA := bA.below hb (by simp only [alloc_hs]; omega)
  replace bR := bR.below hb (by simp only [alloc_hs]; omega)
  replace bO := bO.below hb (by simp only [alloc_hs]; omega)
  have B1 : Below w.heap.size w w1 := hal.trans (hb.mono hal.size)
  have z1 : w.heap.size + 3 ≤ w1.heap.size := by have := hb.size; simp only [alloc_hs] at this; omega
  have Z1 : Hid (w.heap.size + 3 ≤ w1.heap.size) := z1
  simp only [alloc_hs] at r0
  have T0 : Hid (Rows w1 (fun g => w.heap.size + 1 + 1 + 1 ≤ g) 2 (HRf) u e.exports) := r0
  clear hal hb z1
  obtain ⟨p0', c0', hu, _⟩ := id T0.out
  subst hu
  clear r0
  have a2 := bA.cell 2 _ rfl
  have o1 := bO.cell 1 _ rfl
  have g1 := bO.frozen 1
  have HA : Hid (Blk w1 w.heap.size #[.string e.name, .slice p0 e.exports.length c0, .slice p1 e.funs.length c1] 25) := bA
  have HR : Hid (Blk w1 (w.heap.size + 1) #[.string ⟨#[]⟩, .slice none 0 0, .slice none 0 0] 31) := bR
  have HO : Hid (Blk w1 (w.heap.size + 1 + 1) #[.string e.name, .slice none 0 0, .slice none 0 0] 31) := bO
  have HB1 : Hid (Below w.heap.size w w1) := B1
  clear bA bR bO B1
  go_wp2_with fail
  have hp : Below w.heap.size w (w1.setCell ⟨w.heap.size + 1 + 1, 1, none⟩ (.slice p0' e.exports.length c0')) := HB1.out.setCell (by show _ ≤ w.heap.size + 1 + 1; omega) _
  refine (h1 _ _ e.funs (E1 _ (SameOn.of_below hp)) hw1).mono ?_
  rintro ex w2 ⟨u, rfl, r1, hb⟩
  have bA := ((HA.out.other (p := ⟨w.heap.size + 1 + 1, 1, none⟩) (v := .slice p0' e.exports.length c0') (by show w.heap.size ≠ w.heap.size + 1 + 1; omega)).below hb (by have := Z1.out; simp only [setCell_hs]; omega))
  have bR := ((HR.out.other (p := ⟨w.heap.size + 1 + 1, 1, none⟩) (v := .slice p0' e.exports.length c0') (by show w.heap.size + 1 ≠ w.heap.size + 1 + 1; omega)).below hb (by have := Z1.out; simp only [setCell_hs]; omega))
  have bO := ((HO.out.same (j := 1) (v := .slice p0' e.exports.length c0') (cs' := #[.string e.name, .slice p0' e.exports.length c0', .slice none 0 0]) rfl).below hb (by have := Z1.out; simp only [setCell_hs]; omega))
  have B2 : Below w.heap.size w w2 := hp.trans (hb.mono hp.size)
  have z2 : w.heap.size + 3 ≤ w2.heap.size := by have := hb.size; have := Z1.out; simp only [setCell_hs] at *; omega
  have Z2 : Hid (w.heap.size + 3 ≤ w2.heap.size) := z2
  have hi : ∀ g, (w1.setCell ⟨w.heap.size + 1 + 1, 1, none⟩ (.slice p0' e.exports.length c0')).heap.size ≤ g → w.heap.size + 1 + 1 + 1 ≤ g := fun g hg => by have := Z1.out; simp only [setCell_hs] at hg; omega
  have sr : SameOn (fun g => (w1.setCell ⟨w.heap.size + 1 + 1, 1, none⟩ (.slice p0' e.exports.length c0')).heap.size ≤ g) w2 w2 := ⟨Nat.le_refl _, fun _ _ _ => rfl⟩
  have T1 : Hid (Rows w2 (fun g => w.heap.size + 1 + 1 + 1 ≤ g) 3 (HFn w2 (fun g => w.heap.size + 1 + 1 + 1 ≤ g) d) u e.funs) := r1.mono (sr) (hi) (fun _ _ _ h => h.mono (sr) (hi))
  have ss : SameOn (fun g => w.heap.size + 1 + 1 + 1 ≤ g) w1 w2 := (SameOn.setCell (SameOn.of_below (Below.refl _ _)) (by show ¬ (_ ≤ w.heap.size + 1 + 1); omega) _).trans (SameOn.of_below hb)
  have T0 : Hid (Rows w2 (fun g => w.heap.size + 1 + 1 + 1 ≤ g) 2 (HRf) (.slice p0' e.exports.length c0') e.exports) := by have h := T0.out; exact h.mono (ss) (fun _ h => h) (fun _ _ _ h => h)
  clear hp hb z2 hi sr ss r1 HA HR HO HB1
  obtain ⟨p1', c1', hu, _⟩ := id T1.out
  subst hu
  have o0 := bO.cell 0 _ rfl
  have q0 := bR.cell 0 _ rfl
  have k0 := bR.frozen 0
  have o1 := bO.cell 1 _ rfl
  have q1 := bR.cell 1 _ rfl
  have k1 := bR.frozen 1
  have o2 := bO.cell 2 _ rfl
  have q2 := bR.cell 2 _ rfl
  have k2 := bR.frozen 2
  have g2 := bO.frozen 2
  have HA : Hid (Blk w2 w.heap.size #[.string e.name, .slice p0 e.exports.length c0, .slice p1 e.funs.length c1] 25) := bA
  have HR : Hid (Blk w2 (w.heap.size + 1) #[.string ⟨#[]⟩, .slice none 0 0, .slice none 0 0] 31) := bR
  have HO : Hid (Blk w2 (w.heap.size + 1 + 1) #[.string e.name, .slice p0' e.exports.length c0', .slice none 0 0] 31) := bO
  have HB2 : Hid (Below w.heap.size w w2) := B2
  clear bA bR bO B2
  go_wp2_with fail
  have sf : SameOn (fun g => w.heap.size + 1 + 1 + 1 ≤ g) w2 ((((w2.setCell ⟨w.heap.size + 1 + 1, 2, none⟩ (.slice p1' e.funs.length c1')).setCell ⟨w.heap.size + 1, 0, none⟩ (.string e.name)).setCell ⟨w.heap.size + 1, 1, none⟩ (.slice p0' e.exports.length c0')).setCell ⟨w.heap.size + 1, 2, none⟩ (.slice p1' e.funs.length c1')) := SameOn.setCell (SameOn.setCell (SameOn.setCell (SameOn.setCell (SameOn.of_below (Below.refl _ _)) (by show ¬ (_ ≤ w.heap.size + 1 + 1); omega) _) (by show ¬ (_ ≤ w.heap.size + 1); omega) _) (by show ¬ (_ ≤ w.heap.size + 1); omega) _) (by show ¬ (_ ≤ w.heap.size + 1); omega) _
  have bf : Below w.heap.size w ((((w2.setCell ⟨w.heap.size + 1 + 1, 2, none⟩ (.slice p1' e.funs.length c1')).setCell ⟨w.heap.size + 1, 0, none⟩ (.string e.name)).setCell ⟨w.heap.size + 1, 1, none⟩ (.slice p0' e.exports.length c0')).setCell ⟨w.heap.size + 1, 2, none⟩ (.slice p1' e.funs.length c1')) := Below.setCell (Below.setCell (Below.setCell (Below.setCell (HB2.out) (by show _ ≤ w.heap.size + 1 + 1; omega) _) (by show _ ≤ w.heap.size + 1; omega) _) (by show _ ≤ w.heap.size + 1; omega) _) (by show _ ≤ w.heap.size + 1; omega) _
  have hl : ∀ g, w.heap.size + 1 + 1 + 1 ≤ g → w.heap.size ≤ g := fun g hg => by omega
  have U0 : Rows ((((w2.setCell ⟨w.heap.size + 1 + 1, 2, none⟩ (.slice p1' e.funs.length c1')).setCell ⟨w.heap.size + 1, 0, none⟩ (.string e.name)).setCell ⟨w.heap.size + 1, 1, none⟩ (.slice p0' e.exports.length c0')).setCell ⟨w.heap.size + 1, 2, none⟩ (.slice p1' e.funs.length c1')) (fun g => w.heap.size ≤ g) 2 (HRf) (.slice p0' e.exports.length c0') e.exports := by have h := T0.out; exact h.mono (sf) (hl) (fun _ _ _ h => h)
  have hl : ∀ g, w.heap.size + 1 + 1 + 1 ≤ g → w.heap.size ≤ g := fun g hg => by omega
  have U1 : Rows ((((w2.setCell ⟨w.heap.size + 1 + 1, 2, none⟩ (.slice p1' e.funs.length c1')).setCell ⟨w.heap.size + 1, 0, none⟩ (.string e.name)).setCell ⟨w.heap.size + 1, 1, none⟩ (.slice p0' e.exports.length c0')).setCell ⟨w.heap.size + 1, 2, none⟩ (.slice p1' e.funs.length c1')) (fun g => w.heap.size ≤ g) 3 (HFn ((((w2.setCell ⟨w.heap.size + 1 + 1, 2, none⟩ (.slice p1' e.funs.length c1')).setCell ⟨w.heap.size + 1, 0, none⟩ (.string e.name)).setCell ⟨w.heap.size + 1, 1, none⟩ (.slice p0' e.exports.length c0')).setCell ⟨w.heap.size + 1, 2, none⟩ (.slice p1' e.funs.length c1')) (fun g => w.heap.size ≤ g) d) (.slice p1' e.funs.length c1') e.funs := by have h := T1.out; exact h.mono (sf) (hl) (fun _ _ _ h => h.mono (sf) (hl))
  exact bodyPost_ret (v := .agg #[.string e.name, .slice p0' e.exports.length c0', .slice p1' e.funs.length c1']) (by simp [results, Tryz.results7, go_sem, q0, q1, q2]) rfl ⟨_, rfl, ⟨_, rfl, _, _, rfl, s0, U0, U1⟩, bf⟩

theorem toExp_all : ∀ d, ToC 161 (fun w v e => ∃ cs, v = .agg cs.toArray ∧ HEx w All d cs e) (fun w S v e => ∃ cs, v = .agg cs.toArray ∧ HEx w S d cs e) (wtEx d)
  | 0 => fun w v x ⟨_, _, h⟩ _ => h.elim
  | d + 1 => toExp_of (toExpS_of (toExp_all d)) (toClauseS_of (toClause_of (toExpS_of (toExp_all d)) (toExpS_of (toExp_all d))))
theorem toClauseS_all (d : Nat) : ToC 101 (fun w v es => Rows w All 2 (HCl w All (HEx w All d)) v es) (fun w S v es => Rows w S 2 (HCl w S (HEx w S d)) v es) (wtS (wtCl (wtEx d))) :=
  toClauseS_of (toClause_of (toExpS_of (toExp_all d)) (toExpS_of (toExp_all d)))

/-- THE LAWS' toModule. -/
theorem toModule_all (d : Nat) : ToC 7 (fun w v m => ∃ cs, v = .agg cs.toArray ∧ HMd w All d cs m) (fun w S v m => ∃ cs, v = .agg cs.toArray ∧ HMd w S d cs m) (wtMd d) :=
  toModule_of (d := d) (toRefS_of (d := 0) (toRef_of (d := 0))) (toFunS_of (toFun_of (toClauseS_all d)))
end Go.Proofs.YtkomkhiinfdfmaaGreatDoor
