/-
  The laws' eqModule and what it calls: of two modules in memory that are the same tree it tells that they are.
-/
import Derived.Test.YthieikohcoajbaaDoorGen
namespace Go.Proofs.YthieikohcoajbaaDoor
open Go.ChangeShapes Go.WideShapes Go.ChangeAt Go.RowKit
set_option linter.unusedVariables false

set_option maxHeartbeats 2000000 in
theorem eqExpS_of {d : Nat} (hE : EqC 92 (fun w v e => ∃ cs, v = .agg cs.toArray ∧ HEx w All d cs e)) :
    EqC 86 (fun w v es => Rows w All 6 (HEx w All d) v es) := by
  intro w v1 v2 es h1 h2
  obtain ⟨p, cap, rfl, hcl, hcm, hx⟩ := h1
  obtain ⟨q, cap', rfl, hcl', hcm', hy⟩ := h2
  generalize hn : es.length = n at *
  have HN : Hid (es.length = n) := hn
  have HX : Hid _ := hx
  have HY : Hid _ := hy
  have hnb : n ≤ 9223372036854775807 := by unfold maxLen at hcm; omega
  clear hx hy hn
  go_enter Tryd.func86, Tryd.ntmps86
  go_wp2
  go_loopw [5] (fun iv wr => ∃ k : Nat, k ≤ n ∧ iv = .int .i64 k ∧ Below w.heap.size w wr) (fun iv _ => n - (intOf iv).toNat)
  case atStart => exact ⟨0, Nat.zero_le _, rfl, Below.refl _ _⟩
  case round =>
    obtain ⟨k, hk, rfl, hb⟩ := hrel
    have HB : Hid (Below w.heap.size w wr) := hb
    by_cases hlt : k < n
    · obtain ⟨x, hxk⟩ : ∃ x, es[k]? = some x := ⟨es[k]'(by rw [HN.out]; exact hlt), List.getElem?_eq_getElem _⟩
      have hne : es ≠ [] := by intro h; rw [h] at hxk; simp at hxk
      obtain ⟨g, off, rfl, _, hgl, hat⟩ := HX.out hne
      obtain ⟨g', off', rfl, _, hgl', hat'⟩ := HY.out hne
      obtain ⟨cs, hcl6, hcs, hex⟩ := hat k x hxk
      obtain ⟨cs', hcl6', hcs', hex'⟩ := hat' k x hxk
      have E1 : ∀ w', SameOn All wr w' → HEx w' All d cs x := fun w' hw => hex.mono (SameOn.trans (SameOn.of_below hb) hw) (fun _ h => h)
      have E2 : ∀ w', SameOn All wr w' → HEx w' All d cs' x := fun w' hw => hex'.mono (SameOn.trans (SameOn.of_below hb) hw) (fun _ h => h)
      obtain ⟨c0, c1, c2, c3, c4, c5, rfl⟩ := len6 hcl6
      obtain ⟨d0, d1, d2, d3, d4, d5, rfl⟩ := len6 hcl6'
      have a0 := hcs 0 (by omega)
      have b0 := hcs' 0 (by omega)
      have a1 := hcs 1 (by omega)
      have b1 := hcs' 1 (by omega)
      have a2 := hcs 2 (by omega)
      have b2 := hcs' 2 (by omega)
      have a3 := hcs 3 (by omega)
      have b3 := hcs' 3 (by omega)
      have a4 := hcs 4 (by omega)
      have b4 := hcs' 4 (by omega)
      have a5 := hcs 5 (by omega)
      have b5 := hcs' 5 (by omega)
      rw [← hb.cell (p := ⟨g, _, none⟩) hgl] at a0 a1 a2 a3 a4 a5
      rw [← hb.cell (p := ⟨g', _, none⟩) hgl'] at b0 b1 b2 b3 b4 b5
      simp at a0 a1 a2 a3 a4 a5 b0 b1 b2 b3 b4 b5
      clear hb hcs hat hex hcl6 hcs' hat' hex' hcl6' hne
      go_wp2
      go_region_with ((go_at_call 92; refine (hE _ _ _ x ⟨_, rfl, E1 _ (by exact ⟨Nat.le_refl _, fun _ _ _ => rfl⟩)⟩ ⟨_, rfl, E2 _ (by exact ⟨Nat.le_refl _, fun _ _ _ => rfl⟩)⟩).mono ?_; rintro e w1 ⟨rfl, hb1⟩; have HB1 : Hid _ := hb1; clear hb1))
      all_goals go_wp2
      all_goals
        have hbe : Below w.heap.size w w1 := by
          refine Below.trans ?_ (HB1.out.mono (by exact HB.out.size))
          repeat (first | exact HB.out | apply Below.drew)
        exact ⟨⟨k + 1, by omega, by go_num, hbe⟩, by simp [intOf]; omega⟩
    · go_wp2
      go_ret
      exact ⟨rfl, HB.out⟩

set_option maxHeartbeats 2000000 in
theorem eqClauseS_of {d : Nat} (hE : EqC 80 (fun w v e => ∃ cs, v = .agg cs.toArray ∧ HCl w All (HEx w All d) cs e)) :
    EqC 67 (fun w v es => Rows w All 2 (HCl w All (HEx w All d)) v es) := by
  intro w v1 v2 es h1 h2
  obtain ⟨p, cap, rfl, hcl, hcm, hx⟩ := h1
  obtain ⟨q, cap', rfl, hcl', hcm', hy⟩ := h2
  generalize hn : es.length = n at *
  have HN : Hid (es.length = n) := hn
  have HX : Hid _ := hx
  have HY : Hid _ := hy
  have hnb : n ≤ 9223372036854775807 := by unfold maxLen at hcm; omega
  clear hx hy hn
  go_enter Tryd.func67, Tryd.ntmps67
  go_wp2
  go_loopw [5] (fun iv wr => ∃ k : Nat, k ≤ n ∧ iv = .int .i64 k ∧ Below w.heap.size w wr) (fun iv _ => n - (intOf iv).toNat)
  case atStart => exact ⟨0, Nat.zero_le _, rfl, Below.refl _ _⟩
  case round =>
    obtain ⟨k, hk, rfl, hb⟩ := hrel
    have HB : Hid (Below w.heap.size w wr) := hb
    by_cases hlt : k < n
    · obtain ⟨x, hxk⟩ : ∃ x, es[k]? = some x := ⟨es[k]'(by rw [HN.out]; exact hlt), List.getElem?_eq_getElem _⟩
      have hne : es ≠ [] := by intro h; rw [h] at hxk; simp at hxk
      obtain ⟨g, off, rfl, _, hgl, hat⟩ := HX.out hne
      obtain ⟨g', off', rfl, _, hgl', hat'⟩ := HY.out hne
      obtain ⟨cs, hcl6, hcs, hex⟩ := hat k x hxk
      obtain ⟨cs', hcl6', hcs', hex'⟩ := hat' k x hxk
      have E1 : ∀ w', SameOn All wr w' → HCl w' All (HEx w' All d) cs x := fun w' hw => hex.mono (SameOn.trans (SameOn.of_below hb) hw) (fun _ h => h) (fun _ _ => HEx.mono (SameOn.trans (SameOn.of_below hb) hw) (fun _ h => h))
      have E2 : ∀ w', SameOn All wr w' → HCl w' All (HEx w' All d) cs' x := fun w' hw => hex'.mono (SameOn.trans (SameOn.of_below hb) hw) (fun _ h => h) (fun _ _ => HEx.mono (SameOn.trans (SameOn.of_below hb) hw) (fun _ h => h))
      obtain ⟨c0, c1, rfl⟩ := len2 hcl6
      obtain ⟨d0, d1, rfl⟩ := len2 hcl6'
      have a0 := hcs 0 (by omega)
      have b0 := hcs' 0 (by omega)
      have a1 := hcs 1 (by omega)
      have b1 := hcs' 1 (by omega)
      rw [← hb.cell (p := ⟨g, _, none⟩) hgl] at a0 a1
      rw [← hb.cell (p := ⟨g', _, none⟩) hgl'] at b0 b1
      simp at a0 a1 b0 b1
      clear hb hcs hat hex hcl6 hcs' hat' hex' hcl6' hne
      go_wp2
      go_region_with ((go_at_call 80; refine (hE _ _ _ x ⟨_, rfl, E1 _ (by exact ⟨Nat.le_refl _, fun _ _ _ => rfl⟩)⟩ ⟨_, rfl, E2 _ (by exact ⟨Nat.le_refl _, fun _ _ _ => rfl⟩)⟩).mono ?_; rintro e w1 ⟨rfl, hb1⟩; have HB1 : Hid _ := hb1; clear hb1))
      all_goals go_wp2
      all_goals
        have hbe : Below w.heap.size w w1 := by
          refine Below.trans ?_ (HB1.out.mono (by exact HB.out.size))
          repeat (first | exact HB.out | apply Below.drew)
        exact ⟨⟨k + 1, by omega, by go_num, hbe⟩, by simp [intOf]; omega⟩
    · go_wp2
      go_ret
      exact ⟨rfl, HB.out⟩

set_option maxHeartbeats 2000000 in
theorem eqFunS_of {d : Nat} (hE : EqC 55 (fun w v e => ∃ cs, v = .agg cs.toArray ∧ HFn w All d cs e)) :
    EqC 34 (fun w v es => Rows w All 3 (HFn w All d) v es) := by
  intro w v1 v2 es h1 h2
  obtain ⟨p, cap, rfl, hcl, hcm, hx⟩ := h1
  obtain ⟨q, cap', rfl, hcl', hcm', hy⟩ := h2
  generalize hn : es.length = n at *
  have HN : Hid (es.length = n) := hn
  have HX : Hid _ := hx
  have HY : Hid _ := hy
  have hnb : n ≤ 9223372036854775807 := by unfold maxLen at hcm; omega
  clear hx hy hn
  go_enter Tryd.func34, Tryd.ntmps34
  go_wp2
  go_loopw [5] (fun iv wr => ∃ k : Nat, k ≤ n ∧ iv = .int .i64 k ∧ Below w.heap.size w wr) (fun iv _ => n - (intOf iv).toNat)
  case atStart => exact ⟨0, Nat.zero_le _, rfl, Below.refl _ _⟩
  case round =>
    obtain ⟨k, hk, rfl, hb⟩ := hrel
    have HB : Hid (Below w.heap.size w wr) := hb
    by_cases hlt : k < n
    · obtain ⟨x, hxk⟩ : ∃ x, es[k]? = some x := ⟨es[k]'(by rw [HN.out]; exact hlt), List.getElem?_eq_getElem _⟩
      have hne : es ≠ [] := by intro h; rw [h] at hxk; simp at hxk
      obtain ⟨g, off, rfl, _, hgl, hat⟩ := HX.out hne
      obtain ⟨g', off', rfl, _, hgl', hat'⟩ := HY.out hne
      obtain ⟨cs, hcl6, hcs, hex⟩ := hat k x hxk
      obtain ⟨cs', hcl6', hcs', hex'⟩ := hat' k x hxk
      have E1 : ∀ w', SameOn All wr w' → HFn w' All d cs x := fun w' hw => hex.mono (SameOn.trans (SameOn.of_below hb) hw) (fun _ h => h)
      have E2 : ∀ w', SameOn All wr w' → HFn w' All d cs' x := fun w' hw => hex'.mono (SameOn.trans (SameOn.of_below hb) hw) (fun _ h => h)
      obtain ⟨c0, c1, c2, rfl⟩ := len3 hcl6
      obtain ⟨d0, d1, d2, rfl⟩ := len3 hcl6'
      have a0 := hcs 0 (by omega)
      have b0 := hcs' 0 (by omega)
      have a1 := hcs 1 (by omega)
      have b1 := hcs' 1 (by omega)
      have a2 := hcs 2 (by omega)
      have b2 := hcs' 2 (by omega)
      rw [← hb.cell (p := ⟨g, _, none⟩) hgl] at a0 a1 a2
      rw [← hb.cell (p := ⟨g', _, none⟩) hgl'] at b0 b1 b2
      simp at a0 a1 a2 b0 b1 b2
      clear hb hcs hat hex hcl6 hcs' hat' hex' hcl6' hne
      go_wp2
      go_region_with ((go_at_call 55; refine (hE _ _ _ x ⟨_, rfl, E1 _ (by exact ⟨Nat.le_refl _, fun _ _ _ => rfl⟩)⟩ ⟨_, rfl, E2 _ (by exact ⟨Nat.le_refl _, fun _ _ _ => rfl⟩)⟩).mono ?_; rintro e w1 ⟨rfl, hb1⟩; have HB1 : Hid _ := hb1; clear hb1))
      all_goals go_wp2
      all_goals
        have hbe : Below w.heap.size w w1 := by
          refine Below.trans ?_ (HB1.out.mono (by exact HB.out.size))
          repeat (first | exact HB.out | apply Below.drew)
        exact ⟨⟨k + 1, by omega, by go_num, hbe⟩, by simp [intOf]; omega⟩
    · go_wp2
      go_ret
      exact ⟨rfl, HB.out⟩

set_option maxHeartbeats 2000000 in
theorem eqRefS_of {d : Nat} (hE : EqC 54 (fun w v e => ∃ cs, v = .agg cs.toArray ∧ HRf cs e)) :
    EqC 33 (fun w v es => Rows w All 2 (HRf) v es) := by
  intro w v1 v2 es h1 h2
  obtain ⟨p, cap, rfl, hcl, hcm, hx⟩ := h1
  obtain ⟨q, cap', rfl, hcl', hcm', hy⟩ := h2
  generalize hn : es.length = n at *
  have HN : Hid (es.length = n) := hn
  have HX : Hid _ := hx
  have HY : Hid _ := hy
  have hnb : n ≤ 9223372036854775807 := by unfold maxLen at hcm; omega
  clear hx hy hn
  go_enter Tryd.func33, Tryd.ntmps33
  go_wp2
  go_loopw [5] (fun iv wr => ∃ k : Nat, k ≤ n ∧ iv = .int .i64 k ∧ Below w.heap.size w wr) (fun iv _ => n - (intOf iv).toNat)
  case atStart => exact ⟨0, Nat.zero_le _, rfl, Below.refl _ _⟩
  case round =>
    obtain ⟨k, hk, rfl, hb⟩ := hrel
    have HB : Hid (Below w.heap.size w wr) := hb
    by_cases hlt : k < n
    · obtain ⟨x, hxk⟩ : ∃ x, es[k]? = some x := ⟨es[k]'(by rw [HN.out]; exact hlt), List.getElem?_eq_getElem _⟩
      have hne : es ≠ [] := by intro h; rw [h] at hxk; simp at hxk
      obtain ⟨g, off, rfl, _, hgl, hat⟩ := HX.out hne
      obtain ⟨g', off', rfl, _, hgl', hat'⟩ := HY.out hne
      obtain ⟨cs, hcl6, hcs, hex⟩ := hat k x hxk
      obtain ⟨cs', hcl6', hcs', hex'⟩ := hat' k x hxk
      have E1 : ∀ w', SameOn All wr w' → HRf cs x := fun w' hw => hex
      have E2 : ∀ w', SameOn All wr w' → HRf cs' x := fun w' hw => hex'
      obtain ⟨c0, c1, rfl⟩ := len2 hcl6
      obtain ⟨d0, d1, rfl⟩ := len2 hcl6'
      have a0 := hcs 0 (by omega)
      have b0 := hcs' 0 (by omega)
      have a1 := hcs 1 (by omega)
      have b1 := hcs' 1 (by omega)
      rw [← hb.cell (p := ⟨g, _, none⟩) hgl] at a0 a1
      rw [← hb.cell (p := ⟨g', _, none⟩) hgl'] at b0 b1
      simp at a0 a1 b0 b1
      clear hb hcs hat hex hcl6 hcs' hat' hex' hcl6' hne
      go_wp2
      go_region_with ((go_at_call 54; refine (hE _ _ _ x ⟨_, rfl, E1 _ (by exact ⟨Nat.le_refl _, fun _ _ _ => rfl⟩)⟩ ⟨_, rfl, E2 _ (by exact ⟨Nat.le_refl _, fun _ _ _ => rfl⟩)⟩).mono ?_; rintro e w1 ⟨rfl, hb1⟩; have HB1 : Hid _ := hb1; clear hb1))
      all_goals go_wp2
      all_goals
        have hbe : Below w.heap.size w w1 := by
          refine Below.trans ?_ (HB1.out.mono (by exact HB.out.size))
          repeat (first | exact HB.out | apply Below.drew)
        exact ⟨⟨k + 1, by omega, by go_num, hbe⟩, by simp [intOf]; omega⟩
    · go_wp2
      go_ret
      exact ⟨rfl, HB.out⟩

set_option maxHeartbeats 2000000 in
theorem eqExp_of {d : Nat} (h0 : EqC 86 (fun w v es => Rows w All 6 (HEx w All d) v es)) (h1 : EqC 67 (fun w v es => Rows w All 2 (HCl w All (HEx w All d)) v es)) :
    EqC 92 (fun w v e => ∃ cs, v = .agg cs.toArray ∧ HEx w All (d + 1) cs e) := by
  intro w v1 v2 e i1 i2
  obtain ⟨cs, rfl, kv, cv, rfl, p1, p2, p3, p4, f0, f1⟩ := i1
  obtain ⟨cs, rfl, kv', cv', rfl, p1', p2', p3', p4', f0', f1'⟩ := i2
  have hal : Below w.heap.size w ((w.alloc (.cells #[.int .i64 e.kind, .int .i64 e.n, .string e.text, .string e.mod, kv, cv] 82)).alloc (.cells #[.int .i64 e.kind, .int .i64 e.n, .string e.text, .string e.mod, kv', cv'] 82)) := ((Below.refl _ _).alloc (Nat.le_refl _) _).alloc (by simp) _
  have HA : Hid (Below w.heap.size w ((w.alloc (.cells #[.int .i64 e.kind, .int .i64 e.n, .string e.text, .string e.mod, kv, cv] 82)).alloc (.cells #[.int .i64 e.kind, .int .i64 e.n, .string e.text, .string e.mod, kv', cv'] 82))) := hal
  have g0 : ∀ w', SameOn All w w' → Rows w' All 6 (HEx w' All d) kv e.kids := fun w' hw => f0.mono (hw) (fun _ h => h) (fun _ _ _ => HEx.mono (hw) (fun _ h => h))
  have g0' : ∀ w', SameOn All w w' → Rows w' All 6 (HEx w' All d) kv' e.kids := fun w' hw => f0'.mono (hw) (fun _ h => h) (fun _ _ _ => HEx.mono (hw) (fun _ h => h))
  have g1 : ∀ w', SameOn All w w' → Rows w' All 2 (HCl w' All (HEx w' All d)) cv e.clauses := fun w' hw => f1.mono (hw) (fun _ h => h) (fun _ _ _ h => h.mono (hw) (fun _ h => h) (fun _ _ => HEx.mono (hw) (fun _ h => h)))
  have g1' : ∀ w', SameOn All w w' → Rows w' All 2 (HCl w' All (HEx w' All d)) cv' e.clauses := fun w' hw => f1'.mono (hw) (fun _ h => h) (fun _ _ _ h => h.mono (hw) (fun _ h => h) (fun _ _ => HEx.mono (hw) (fun _ h => h)))
  clear hal f0 f0' f1 f1'
  go_enter Tryd.func92, Tryd.ntmps92
  go_wp2_with (first | (go_at_call 67; (refine (h1 _ _ _ e.clauses (g1 _ (SameOn.of_below (HA.out.trans (HB0.out.mono HA.out.size)))) (g1' _ (SameOn.of_below (HA.out.trans (HB0.out.mono HA.out.size))))).mono ?_; rintro e w1 ⟨rfl, hb1⟩; have HB1 : Hid _ := hb1; clear hb1)) | (go_at_call 86; (refine (h0 _ _ _ e.kids (g0 _ (SameOn.of_below HA.out)) (g0' _ (SameOn.of_below HA.out))).mono ?_; rintro e w0 ⟨rfl, hb0⟩; have HB0 : Hid _ := hb0; have k0 := (hb0.cell (p := ⟨w.heap.size, 5, none⟩) (by simp only [alloc_hs]; omega)).trans ((World.cell?_of_block (a := ⟨w.heap.size, 5, none⟩) (Below.heap_alloc _ _ _ (by simp))).trans (cell_new _ _ _ 5 cv rfl)); have m0 := (hb0.cell (p := ⟨(w.alloc (.cells #[.int .i64 e.kind, .int .i64 e.n, .string e.text, .string e.mod, kv, cv] 82)).heap.size, 5, none⟩) (by simp)).trans (cell_new _ _ _ 5 cv' rfl); simp only [alloc_hs] at m0; clear hb0)))
  go_ret
  exact ⟨rfl, ((HA.out.trans (HB0.out.mono HA.out.size)).trans (HB1.out.mono (HA.out.trans (HB0.out.mono HA.out.size)).size))⟩

set_option maxHeartbeats 2000000 in
theorem eqClause_of {d : Nat} (h0 : EqC 86 (fun w v es => Rows w All 6 (HEx w All d) v es)) (h1 : EqC 86 (fun w v es => Rows w All 6 (HEx w All d) v es)) :
    EqC 80 (fun w v e => ∃ cs, v = .agg cs.toArray ∧ HCl w All (HEx w All d) cs e) := by
  intro w v1 v2 e i1 i2
  obtain ⟨cs, rfl, kv, cv, rfl, f0, f1⟩ := i1
  obtain ⟨cs, rfl, kv', cv', rfl, f0', f1'⟩ := i2
  have hal : Below w.heap.size w ((w.alloc (.cells #[kv, cv] 64)).alloc (.cells #[kv', cv'] 64)) := ((Below.refl _ _).alloc (Nat.le_refl _) _).alloc (by simp) _
  have HA : Hid (Below w.heap.size w ((w.alloc (.cells #[kv, cv] 64)).alloc (.cells #[kv', cv'] 64))) := hal
  have g0 : ∀ w', SameOn All w w' → Rows w' All 6 (HEx w' All d) kv e.1 := fun w' hw => f0.mono (hw) (fun _ h => h) (fun _ _ _ => HEx.mono (hw) (fun _ h => h))
  have g0' : ∀ w', SameOn All w w' → Rows w' All 6 (HEx w' All d) kv' e.1 := fun w' hw => f0'.mono (hw) (fun _ h => h) (fun _ _ _ => HEx.mono (hw) (fun _ h => h))
  have g1 : ∀ w', SameOn All w w' → Rows w' All 6 (HEx w' All d) cv e.2 := fun w' hw => f1.mono (hw) (fun _ h => h) (fun _ _ _ => HEx.mono (hw) (fun _ h => h))
  have g1' : ∀ w', SameOn All w w' → Rows w' All 6 (HEx w' All d) cv' e.2 := fun w' hw => f1'.mono (hw) (fun _ h => h) (fun _ _ _ => HEx.mono (hw) (fun _ h => h))
  clear hal f0 f0' f1 f1'
  go_enter Tryd.func80, Tryd.ntmps80
  go_wp2_with (first | (go_at_call 86; (refine (h1 _ _ _ e.2 (g1 _ (SameOn.of_below (HA.out.trans (HB0.out.mono HA.out.size)))) (g1' _ (SameOn.of_below (HA.out.trans (HB0.out.mono HA.out.size))))).mono ?_; rintro e w1 ⟨rfl, hb1⟩; have HB1 : Hid _ := hb1; clear hb1)) | (go_at_call 86; (refine (h0 _ _ _ e.1 (g0 _ (SameOn.of_below HA.out)) (g0' _ (SameOn.of_below HA.out))).mono ?_; rintro e w0 ⟨rfl, hb0⟩; have HB0 : Hid _ := hb0; have k0 := (hb0.cell (p := ⟨w.heap.size, 1, none⟩) (by simp only [alloc_hs]; omega)).trans ((World.cell?_of_block (a := ⟨w.heap.size, 1, none⟩) (Below.heap_alloc _ _ _ (by simp))).trans (cell_new _ _ _ 1 cv rfl)); have m0 := (hb0.cell (p := ⟨(w.alloc (.cells #[kv, cv] 64)).heap.size, 1, none⟩) (by simp)).trans (cell_new _ _ _ 1 cv' rfl); simp only [alloc_hs] at m0; clear hb0)))
  go_ret
  exact ⟨rfl, ((HA.out.trans (HB0.out.mono HA.out.size)).trans (HB1.out.mono (HA.out.trans (HB0.out.mono HA.out.size)).size))⟩

set_option maxHeartbeats 2000000 in
theorem eqFun_of {d : Nat} (h0 : EqC 67 (fun w v es => Rows w All 2 (HCl w All (HEx w All d)) v es)) :
    EqC 55 (fun w v e => ∃ cs, v = .agg cs.toArray ∧ HFn w All d cs e) := by
  intro w v1 v2 e i1 i2
  obtain ⟨cs, rfl, cv, rfl, p1, p2, f0⟩ := i1
  obtain ⟨cs, rfl, cv', rfl, p1', p2', f0'⟩ := i2
  have hal : Below w.heap.size w ((w.alloc (.cells #[.string e.name, .int .i64 e.arity, cv] 59)).alloc (.cells #[.string e.name, .int .i64 e.arity, cv'] 59)) := ((Below.refl _ _).alloc (Nat.le_refl _) _).alloc (by simp) _
  have HA : Hid (Below w.heap.size w ((w.alloc (.cells #[.string e.name, .int .i64 e.arity, cv] 59)).alloc (.cells #[.string e.name, .int .i64 e.arity, cv'] 59))) := hal
  have g0 : ∀ w', SameOn All w w' → Rows w' All 2 (HCl w' All (HEx w' All d)) cv e.clauses := fun w' hw => f0.mono (hw) (fun _ h => h) (fun _ _ _ h => h.mono (hw) (fun _ h => h) (fun _ _ => HEx.mono (hw) (fun _ h => h)))
  have g0' : ∀ w', SameOn All w w' → Rows w' All 2 (HCl w' All (HEx w' All d)) cv' e.clauses := fun w' hw => f0'.mono (hw) (fun _ h => h) (fun _ _ _ h => h.mono (hw) (fun _ h => h) (fun _ _ => HEx.mono (hw) (fun _ h => h)))
  clear hal f0 f0'
  go_enter Tryd.func55, Tryd.ntmps55
  go_wp2_with (first | (go_at_call 67; (refine (h0 _ _ _ e.clauses (g0 _ (SameOn.of_below HA.out)) (g0' _ (SameOn.of_below HA.out))).mono ?_; rintro e w0 ⟨rfl, hb0⟩; have HB0 : Hid _ := hb0; clear hb0)))
  go_ret
  exact ⟨rfl, (HA.out.trans (HB0.out.mono HA.out.size))⟩

set_option maxHeartbeats 2000000 in
theorem eqRef_of {d : Nat}  :
    EqC 54 (fun w v e => ∃ cs, v = .agg cs.toArray ∧ HRf cs e) := by
  intro w v1 v2 e i1 i2
  obtain ⟨cs, rfl, rfl, p1, p2⟩ := i1
  obtain ⟨cs, rfl, rfl, p1', p2'⟩ := i2
  go_enter Tryd.func54, Tryd.ntmps54
  go_wp2
  go_ret
  exact ⟨rfl, ((Below.refl _ _).alloc (Nat.le_refl _) _).alloc (by simp) _⟩

set_option maxHeartbeats 2000000 in
theorem eqModule_of {d : Nat} (h0 : EqC 33 (fun w v es => Rows w All 2 (HRf) v es)) (h1 : EqC 34 (fun w v es => Rows w All 3 (HFn w All d) v es)) :
    EqC 18 (fun w v e => ∃ cs, v = .agg cs.toArray ∧ HMd w All d cs e) := by
  intro w v1 v2 e i1 i2
  obtain ⟨cs, rfl, kv, cv, rfl, p1, f0, f1⟩ := i1
  obtain ⟨cs, rfl, kv', cv', rfl, p1', f0', f1'⟩ := i2
  have hal : Below w.heap.size w ((w.alloc (.cells #[.string e.name, kv, cv] 45)).alloc (.cells #[.string e.name, kv', cv'] 45)) := ((Below.refl _ _).alloc (Nat.le_refl _) _).alloc (by simp) _
  have HA : Hid (Below w.heap.size w ((w.alloc (.cells #[.string e.name, kv, cv] 45)).alloc (.cells #[.string e.name, kv', cv'] 45))) := hal
  have g0 : ∀ w', SameOn All w w' → Rows w' All 2 HRf kv e.exports := fun w' hw => f0.mono (hw) (fun _ h => h) (fun _ _ _ h => h)
  have g0' : ∀ w', SameOn All w w' → Rows w' All 2 HRf kv' e.exports := fun w' hw => f0'.mono (hw) (fun _ h => h) (fun _ _ _ h => h)
  have g1 : ∀ w', SameOn All w w' → Rows w' All 3 (HFn w' All d) cv e.funs := fun w' hw => f1.mono (hw) (fun _ h => h) (fun _ _ _ h => h.mono (hw) (fun _ h => h))
  have g1' : ∀ w', SameOn All w w' → Rows w' All 3 (HFn w' All d) cv' e.funs := fun w' hw => f1'.mono (hw) (fun _ h => h) (fun _ _ _ h => h.mono (hw) (fun _ h => h))
  clear hal f0 f0' f1 f1'
  go_enter Tryd.func18, Tryd.ntmps18
  go_wp2_with (first | (go_at_call 34; (refine (h1 _ _ _ e.funs (g1 _ (SameOn.of_below (HA.out.trans (HB0.out.mono HA.out.size)))) (g1' _ (SameOn.of_below (HA.out.trans (HB0.out.mono HA.out.size))))).mono ?_; rintro e w1 ⟨rfl, hb1⟩; have HB1 : Hid _ := hb1; clear hb1)) | (go_at_call 33; (refine (h0 _ _ _ e.exports (g0 _ (SameOn.of_below HA.out)) (g0' _ (SameOn.of_below HA.out))).mono ?_; rintro e w0 ⟨rfl, hb0⟩; have HB0 : Hid _ := hb0; have k0 := (hb0.cell (p := ⟨w.heap.size, 2, none⟩) (by simp only [alloc_hs]; omega)).trans ((World.cell?_of_block (a := ⟨w.heap.size, 2, none⟩) (Below.heap_alloc _ _ _ (by simp))).trans (cell_new _ _ _ 2 cv rfl)); have m0 := (hb0.cell (p := ⟨(w.alloc (.cells #[.string e.name, kv, cv] 45)).heap.size, 2, none⟩) (by simp)).trans (cell_new _ _ _ 2 cv' rfl); simp only [alloc_hs] at m0; clear hb0)))
  go_ret
  exact ⟨rfl, ((HA.out.trans (HB0.out.mono HA.out.size)).trans (HB1.out.mono (HA.out.trans (HB0.out.mono HA.out.size)).size))⟩

theorem eqExp_all : ∀ d, EqC 92 (fun w v e => ∃ cs, v = .agg cs.toArray ∧ HEx w All d cs e)
  | 0 => fun w v v' x ⟨_, _, h⟩ _ => h.elim
  | d + 1 => eqExp_of (eqExpS_of (eqExp_all d)) (eqClauseS_of (eqClause_of (eqExpS_of (eqExp_all d)) (eqExpS_of (eqExp_all d))))
theorem eqClauseS_all (d : Nat) : EqC 67 (fun w v es => Rows w All 2 (HCl w All (HEx w All d)) v es) :=
  eqClauseS_of (eqClause_of (eqExpS_of (eqExp_all d)) (eqExpS_of (eqExp_all d)))

/-- THE LAWS' eqModule. -/
theorem eqModule_all (d : Nat) : EqC 18 (fun w v m => ∃ cs, v = .agg cs.toArray ∧ HMd w All d cs m) :=
  eqModule_of (eqRefS_of (d := 0) (eqRef_of (d := 0))) (eqFunS_of (eqFun_of (eqClauseS_all d)))
end Go.Proofs.YthieikohcoajbaaDoor
