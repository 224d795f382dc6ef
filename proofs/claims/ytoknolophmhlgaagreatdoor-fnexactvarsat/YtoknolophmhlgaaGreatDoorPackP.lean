/-
  Texts of the proof, packed: Eq, ModsEq, ExOwn, ExTo.
-/
import Derived.Test.YtoknolophmhlgaaGreatDoorPackA
import Derived.Test.YtoknolophmhlgaaGreatDoorPackG
import Derived.Test.YtoknolophmhlgaaGreatDoorPackL
/-
  The laws' eqModule and what it calls: of two modules in memory that are the same tree it tells that they are.
-/
namespace Go.Proofs.YtoknolophmhlgaaGreatDoor
open Go.ChangeShapes Go.WideShapes Go.ChangeAt Go.RowKit
set_option linter.unusedVariables false

set_option maxHeartbeats 2000000 in
theorem eqExpS_of {d : Nat} (hE : EqC 131 (fun w v e => ∃ cs, v = .agg cs.toArray ∧ HEx w All d cs e)) :
    EqC 115 (fun w v es => Rows w All 6 (HEx w All d) v es) := by
  intro w v1 v2 es h1 h2
  obtain ⟨p, cap, rfl, hcl, hcm, hx⟩ := h1
  obtain ⟨q, cap', rfl, hcl', hcm', hy⟩ := h2
  generalize hn : es.length = n at *
  have HN : Hid (es.length = n) := hn
  have HX : Hid _ := hx
  have HY : Hid _ := hy
  have hnb : n ≤ 9223372036854775807 := by unfold maxLen at hcm; omega
  clear hx hy hn
  go_enter Tryz.func115, Tryz.ntmps115
  go_wp2
  go_loopw [5] (fun iv wr => ∃ k : Nat, k ≤ n ∧ iv = .int .i64 k ∧ Below w.heap.size w wr) (fun iv _ => n - (intOf iv).toNat)
  case atStart => exact ⟨0, Nat.zero_le _, rfl, Below.refl _ _⟩
  case round =>
    obtain ⟨k, hk, rfl, hb⟩ := hrel
    have HB : Hid (Below w.heap.size w wr) := hb
    by_cases hlt : k < n
    · obtain ⟨x, hxk⟩ : ∃ x, es[k]? = some x := ⟨es[k]'(by rw [HN.out]; exact hlt), List.getElem?_eq_getElem _⟩
      have hne : es ≠ [] := by intro h; rw [h] at hxk; simp at hxk
      obtain ⟨g, off, rfl, _, hgl, hat⟩ := HX.out hne
      obtain ⟨g', off', rfl, _, hgl', hat'⟩ := HY.out hne
      obtain ⟨cs, hcl6, hcs, hex⟩ := hat k x hxk
      obtain ⟨cs', hcl6', hcs', hex'⟩ := hat' k x hxk
      have E1 : ∀ w', SameOn All wr w' → HEx w' All d cs x := fun w' hw => hex.mono (SameOn.trans (SameOn.of_below hb) hw) (fun _ h => h)
      have E2 : ∀ w', SameOn All wr w' → HEx w' All d cs' x := fun w' hw => hex'.mono (SameOn.trans (SameOn.of_below hb) hw) (fun _ h => h)
      obtain ⟨c0, c1, c2, c3, c4, c5, rfl⟩ := len6 hcl6
      obtain ⟨d0, d1, d2, d3, d4, d5, rfl⟩ := len6 hcl6'
      have a0 := hcs 0 (by omega)
      have b0 := hcs' 0 (by omega)
      have a1 := hcs 1 (by omega)
      have b1 := hcs' 1 (by omega)
      have a2 := hcs 2 (by omega)
      have b2 := hcs' 2 (by omega)
      have a3 := hcs 3 (by omega)
      have b3 := hcs' 3 (by omega)
      have a4 := hcs 4 (by omega)
      have b4 := hcs' 4 (by omega)
      have a5 := hcs 5 (by omega)
      have b5 := hcs' 5 (by omega)
      rw [← hb.cell (p := ⟨g, _, none⟩) hgl] at a0 a1 a2 a3 a4 a5
      rw [← hb.cell (p := ⟨g', _, none⟩) hgl'] at b0 b1 b2 b3 b4 b5
      simp at a0 a1 a2 a3 a4 a5 b0 b1 b2 b3 b4 b5
      clear hb hcs hat hex hcl6 hcs' hat' hex' hcl6' hne
      go_wp2
      go_region_with ((go_at_call 131; refine (hE _ _ _ x ⟨_, rfl, E1 _ (by exact ⟨Nat.le_refl _, fun _ _ _ => rfl⟩)⟩ ⟨_, rfl, E2 _ (by exact ⟨Nat.le_refl _, fun _ _ _ => rfl⟩)⟩).mono ?_; rintro e w1 ⟨rfl, hb1⟩; have HB1 : Hid _ := hb1; clear hb1))
      all_goals go_wp2
      all_goals
        have hbe : Below w.heap.size w w1 := by
          refine Below.trans ?_ (HB1.out.mono (by exact HB.out.size))
          repeat (first | exact HB.out | apply Below.drew)
        exact ⟨⟨k + 1, by omega, by go_num, hbe⟩, by simp [intOf]; omega⟩
    · go_wp2
      go_ret
      exact ⟨rfl, HB.out⟩

set_option maxHeartbeats 2000000 in
theorem eqClauseS_of {d : Nat} (hE : EqC 101 (fun w v e => ∃ cs, v = .agg cs.toArray ∧ HCl w All (HEx w All d) cs e)) :
    EqC 86 (fun w v es => Rows w All 2 (HCl w All (HEx w All d)) v es) := by
  intro w v1 v2 es h1 h2
  obtain ⟨p, cap, rfl, hcl, hcm, hx⟩ := h1
  obtain ⟨q, cap', rfl, hcl', hcm', hy⟩ := h2
  generalize hn : es.length = n at *
  have HN : Hid (es.length = n) := hn
  have HX : Hid _ := hx
  have HY : Hid _ := hy
  have hnb : n ≤ 9223372036854775807 := by unfold maxLen at hcm; omega
  clear hx hy hn
  go_enter Tryz.func86, Tryz.ntmps86
  go_wp2
  go_loopw [5] (fun iv wr => ∃ k : Nat, k ≤ n ∧ iv = .int .i64 k ∧ Below w.heap.size w wr) (fun iv _ => n - (intOf iv).toNat)
  case atStart => exact ⟨0, Nat.zero_le _, rfl, Below.refl _ _⟩
  case round =>
    obtain ⟨k, hk, rfl, hb⟩ := hrel
    have HB : Hid (Below w.heap.size w wr) := hb
    by_cases hlt : k < n
    · obtain ⟨x, hxk⟩ : ∃ x, es[k]? = some x := ⟨es[k]'(by rw [HN.out]; exact hlt), List.getElem?_eq_getElem _⟩
      have hne : es ≠ [] := by intro h; rw [h] at hxk; simp at hxk
      obtain ⟨g, off, rfl, _, hgl, hat⟩ := HX.out hne
      obtain ⟨g', off', rfl, _, hgl', hat'⟩ := HY.out hne
      obtain ⟨cs, hcl6, hcs, hex⟩ := hat k x hxk
      obtain ⟨cs', hcl6', hcs', hex'⟩ := hat' k x hxk
      have E1 : ∀ w', SameOn All wr w' → HCl w' All (HEx w' All d) cs x := fun w' hw => hex.mono (SameOn.trans (SameOn.of_below hb) hw) (fun _ h => h) (fun _ _ => HEx.mono (SameOn.trans (SameOn.of_below hb) hw) (fun _ h => h))
      have E2 : ∀ w', SameOn All wr w' → HCl w' All (HEx w' All d) cs' x := fun w' hw => hex'.mono (SameOn.trans (SameOn.of_below hb) hw) (fun _ h => h) (fun _ _ => HEx.mono (SameOn.trans (SameOn.of_below hb) hw) (fun _ h => h))
      obtain ⟨c0, c1, rfl⟩ := len2 hcl6
      obtain ⟨d0, d1, rfl⟩ := len2 hcl6'
      have a0 := hcs 0 (by omega)
      have b0 := hcs' 0 (by omega)
      have a1 := hcs 1 (by omega)
      have b1 := hcs' 1 (by omega)
      rw [← hb.cell (p := ⟨g, _, none⟩) hgl] at a0 a1
      rw [← hb.cell (p := ⟨g', _, none⟩) hgl'] at b0 b1
      simp at a0 a1 b0 b1
      clear hb hcs hat hex hcl6 hcs' hat' hex' hcl6' hne
      go_wp2
      go_region_with ((go_at_call 101; refine (hE _ _ _ x ⟨_, rfl, E1 _ (by exact ⟨Nat.le_refl _, fun _ _ _ => rfl⟩)⟩ ⟨_, rfl, E2 _ (by exact ⟨Nat.le_refl _, fun _ _ _ => rfl⟩)⟩).mono ?_; rintro e w1 ⟨rfl, hb1⟩; have HB1 : Hid _ := hb1; clear hb1))
      all_goals go_wp2
      all_goals
        have hbe : Below w.heap.size w w1 := by
          refine Below.trans ?_ (HB1.out.mono (by exact HB.out.size))
          repeat (first | exact HB.out | apply Below.drew)
        exact ⟨⟨k + 1, by omega, by go_num, hbe⟩, by simp [intOf]; omega⟩
    · go_wp2
      go_ret
      exact ⟨rfl, HB.out⟩

set_option maxHeartbeats 2000000 in
theorem eqFunS_of {d : Nat} (hE : EqC 67 (fun w v e => ∃ cs, v = .agg cs.toArray ∧ HFn w All d cs e)) :
    EqC 44 (fun w v es => Rows w All 3 (HFn w All d) v es) := by
  intro w v1 v2 es h1 h2
  obtain ⟨p, cap, rfl, hcl, hcm, hx⟩ := h1
  obtain ⟨q, cap', rfl, hcl', hcm', hy⟩ := h2
  generalize hn : es.length = n at *
  have HN : Hid (es.length = n) := hn
  have HX : Hid _ := hx
  have HY : Hid _ := hy
  have hnb : n ≤ 9223372036854775807 := by unfold maxLen at hcm; omega
  clear hx hy hn
  go_enter Tryz.func44, Tryz.ntmps44
  go_wp2
  go_loopw [5] (fun iv wr => ∃ k : Nat, k ≤ n ∧ iv = .int .i64 k ∧ Below w.heap.size w wr) (fun iv _ => n - (intOf iv).toNat)
  case atStart => exact ⟨0, Nat.zero_le _, rfl, Below.refl _ _⟩
  case round =>
    obtain ⟨k, hk, rfl, hb⟩ := hrel
    have HB : Hid (Below w.heap.size w wr) := hb
    by_cases hlt : k < n
    · obtain ⟨x, hxk⟩ : ∃ x, es[k]? = some x := ⟨es[k]'(by rw [HN.out]; exact hlt), List.getElem?_eq_getElem _⟩
      have hne : es ≠ [] := by intro h; rw [h] at hxk; simp at hxk
      obtain ⟨g, off, rfl, _, hgl, hat⟩ := HX.out hne
      obtain ⟨g', off', rfl, _, hgl', hat'⟩ := HY.out hne
      obtain ⟨cs, hcl6, hcs, hex⟩ := hat k x hxk
      obtain ⟨cs', hcl6', hcs', hex'⟩ := hat' k x hxk
      have E1 : ∀ w', SameOn All wr w' → HFn w' All d cs x := fun w' hw => hex.mono (SameOn.trans (SameOn.of_below hb) hw) (fun _ h => h)
      have E2 : ∀ w', SameOn All wr w' → HFn w' All d cs' x := fun w' hw => hex'.mono (SameOn.trans (SameOn.of_below hb) hw) (fun _ h => h)
      obtain ⟨c0, c1, c2, rfl⟩ := len3 hcl6
      obtain ⟨d0, d1, d2, rfl⟩ := len3 hcl6'
      have a0 := hcs 0 (by omega)
      have b0 := hcs' 0 (by omega)
      have a1 := hcs 1 (by omega)
      have b1 := hcs' 1 (by omega)
      have a2 := hcs 2 (by omega)
      have b2 := hcs' 2 (by omega)
      rw [← hb.cell (p := ⟨g, _, none⟩) hgl] at a0 a1 a2
      rw [← hb.cell (p := ⟨g', _, none⟩) hgl'] at b0 b1 b2
      simp at a0 a1 a2 b0 b1 b2
      clear hb hcs hat hex hcl6 hcs' hat' hex' hcl6' hne
      go_wp2
      go_region_with ((go_at_call 67; refine (hE _ _ _ x ⟨_, rfl, E1 _ (by exact ⟨Nat.le_refl _, fun _ _ _ => rfl⟩)⟩ ⟨_, rfl, E2 _ (by exact ⟨Nat.le_refl _, fun _ _ _ => rfl⟩)⟩).mono ?_; rintro e w1 ⟨rfl, hb1⟩; have HB1 : Hid _ := hb1; clear hb1))
      all_goals go_wp2
      all_goals
        have hbe : Below w.heap.size w w1 := by
          refine Below.trans ?_ (HB1.out.mono (by exact HB.out.size))
          repeat (first | exact HB.out | apply Below.drew)
        exact ⟨⟨k + 1, by omega, by go_num, hbe⟩, by simp [intOf]; omega⟩
    · go_wp2
      go_ret
      exact ⟨rfl, HB.out⟩

set_option maxHeartbeats 2000000 in
theorem eqRefS_of {d : Nat} (hE : EqC 66 (fun w v e => ∃ cs, v = .agg cs.toArray ∧ HRf cs e)) :
    EqC 43 (fun w v es => Rows w All 2 (HRf) v es) := by
  intro w v1 v2 es h1 h2
  obtain ⟨p, cap, rfl, hcl, hcm, hx⟩ := h1
  obtain ⟨q, cap', rfl, hcl', hcm', hy⟩ := h2
  generalize hn : es.length = n at *
  have HN : Hid (es.length = n) := hn
  have HX : Hid _ := hx
  have HY : Hid _ := hy
  have hnb : n ≤ 9223372036854775807 := by unfold maxLen at hcm; omega
  clear hx hy hn
  go_enter Tryz.func43, Tryz.ntmps43
  go_wp2
  go_loopw [5] (fun iv wr => ∃ k : Nat, k ≤ n ∧ iv = .int .i64 k ∧ Below w.heap.size w wr) (fun iv _ => n - (intOf iv).toNat)
  case atStart => exact ⟨0, Nat.zero_le _, rfl, Below.refl _ _⟩
  case round =>
    obtain ⟨k, hk, rfl, hb⟩ := hrel
    have HB : Hid (Below w.heap.size w wr) := hb
    by_cases hlt : k < n
    · obtain ⟨x, hxk⟩ : ∃ x, es[k]? = some x := ⟨es[k]'(by rw [HN.out]; exact hlt), List.getElem?_eq_getElem _⟩
      have hne : es ≠ [] := by intro h; rw [h] at hxk; simp at hxk
      obtain ⟨g, off, rfl, _, hgl, hat⟩ := HX.out hne
      obtain ⟨g', off', rfl, _, hgl', hat'⟩ := HY.out hne
      obtain ⟨cs, hcl6, hcs, hex⟩ := hat k x hxk
      obtain ⟨cs', hcl6', hcs', hex'⟩ := hat' k x hxk
      have E1 : ∀ w', SameOn All wr w' → HRf cs x := fun w' hw => hex
      have E2 : ∀ w', SameOn All wr w' → HRf cs' x := fun w' hw => hex'
      obtain ⟨c0, c1, rfl⟩ := len2 hcl6
      obtain ⟨d0, d1, rfl⟩ := len2 hcl6'
      have a0 := hcs 0 (by omega)
      have b0 := hcs' 0 (by omega)
      have a1 := hcs 1 (by omega)
      have b1 := hcs' 1 (by omega)
      rw [← hb.cell (p := ⟨g, _, none⟩) hgl] at a0 a1
      rw [← hb.cell (p := ⟨g', _, none⟩) hgl'] at b0 b1
      simp at a0 a1 b0 b1
      clear hb hcs hat hex hcl6 hcs' hat' hex' hcl6' hne
      go_wp2
      go_region_with ((go_at_call 66; refine (hE _ _ _ x ⟨_, rfl, E1 _ (by exact ⟨Nat.le_refl _, fun _ _ _ => rfl⟩)⟩ ⟨_, rfl, E2 _ (by exact ⟨Nat.le_refl _, fun _ _ _ => rfl⟩)⟩).mono ?_; rintro e w1 ⟨rfl, hb1⟩; have HB1 : Hid _ := hb1; clear hb1))
      all_goals go_wp2
      all_goals
        have hbe : Below w.heap.size w w1 := by
          refine Below.trans ?_ (HB1.out.mono (by exact HB.out.size))
          repeat (first | exact HB.out | apply Below.drew)
        exact ⟨⟨k + 1, by omega, by go_num, hbe⟩, by simp [intOf]; omega⟩
    · go_wp2
      go_ret
      exact ⟨rfl, HB.out⟩

set_option maxHeartbeats 2000000 in
theorem eqExp_of {d : Nat} (h0 : EqC 115 (fun w v es => Rows w All 6 (HEx w All d) v es)) (h1 : EqC 86 (fun w v es => Rows w All 2 (HCl w All (HEx w All d)) v es)) :
    EqC 131 (fun w v e => ∃ cs, v = .agg cs.toArray ∧ HEx w All (d + 1) cs e) := by
  intro w v1 v2 e i1 i2
  obtain ⟨cs, rfl, kv, cv, rfl, p1, p2, p3, p4, f0, f1⟩ := i1
  obtain ⟨cs, rfl, kv', cv', rfl, p1', p2', p3', p4', f0', f1'⟩ := i2
  have hal : Below w.heap.size w ((w.alloc (.cells #[.int .i64 e.kind, .int .i64 e.n, .string e.text, .string e.mod, kv, cv] 73)).alloc (.cells #[.int .i64 e.kind, .int .i64 e.n, .string e.text, .string e.mod, kv', cv'] 73)) := ((Below.refl _ _).alloc (Nat.le_refl _) _).alloc (by simp) _
  have HA : Hid (Below w.heap.size w ((w.alloc (.cells #[.int .i64 e.kind, .int .i64 e.n, .string e.text, .string e.mod, kv, cv] 73)).alloc (.cells #[.int .i64 e.kind, .int .i64 e.n, .string e.text, .string e.mod, kv', cv'] 73))) := hal
  have g0 : ∀ w', SameOn All w w' → Rows w' All 6 (HEx w' All d) kv e.kids := fun w' hw => f0.mono (hw) (fun _ h => h) (fun _ _ _ => HEx.mono (hw) (fun _ h => h))
  have g0' : ∀ w', SameOn All w w' → Rows w' All 6 (HEx w' All d) kv' e.kids := fun w' hw => f0'.mono (hw) (fun _ h => h) (fun _ _ _ => HEx.mono (hw) (fun _ h => h))
  have g1 : ∀ w', SameOn All w w' → Rows w' All 2 (HCl w' All (HEx w' All d)) cv e.clauses := fun w' hw => f1.mono (hw) (fun _ h => h) (fun _ _ _ h => h.mono (hw) (fun _ h => h) (fun _ _ => HEx.mono (hw) (fun _ h => h)))
  have g1' : ∀ w', SameOn All w w' → Rows w' All 2 (HCl w' All (HEx w' All d)) cv' e.clauses := fun w' hw => f1'.mono (hw) (fun _ h => h) (fun _ _ _ h => h.mono (hw) (fun _ h => h) (fun _ _ => HEx.mono (hw) (fun _ h => h)))
  clear hal f0 f0' f1 f1'
  go_enter Tryz.func131, Tryz.ntmps131
  go_wp2_with (first | (go_at_call 86; (refine (h1 _ _ _ e.clauses (g1 _ (SameOn.of_below (HA.out.trans (HB0.out.mono HA.out.size)))) (g1' _ (SameOn.of_below (HA.out.trans (HB0.out.mono HA.out.size))))).mono ?_; rintro e w1 ⟨rfl, hb1⟩; have HB1 : Hid _ := hb1; clear hb1)) | (go_at_call 115; (refine (h0 _ _ _ e.kids (g0 _ (SameOn.of_below HA.out)) (g0' _ (SameOn.of_below HA.out))).mono ?_; rintro e w0 ⟨rfl, hb0⟩; have HB0 : Hid _ := hb0; have k0 := (hb0.cell (p := ⟨w.heap.size, 5, none⟩) (by simp only [alloc_hs]; omega)).trans ((World.cell?_of_block (a := ⟨w.heap.size, 5, none⟩) (Below.heap_alloc _ _ _ (by simp))).trans (cell_new _ _ _ 5 cv rfl)); have m0 := (hb0.cell (p := ⟨(w.alloc (.cells #[.int .i64 e.kind, .int .i64 e.n, .string e.text, .string e.mod, kv, cv] 73)).heap.size, 5, none⟩) (by simp)).trans (cell_new _ _ _ 5 cv' rfl); simp only [alloc_hs] at m0; clear hb0)))
  go_ret
  exact ⟨rfl, ((HA.out.trans (HB0.out.mono HA.out.size)).trans (HB1.out.mono (HA.out.trans (HB0.out.mono HA.out.size)).size))⟩

set_option maxHeartbeats 2000000 in
theorem eqClause_of {d : Nat} (h0 : EqC 115 (fun w v es => Rows w All 6 (HEx w All d) v es)) (h1 : EqC 115 (fun w v es => Rows w All 6 (HEx w All d) v es)) :
    EqC 101 (fun w v e => ∃ cs, v = .agg cs.toArray ∧ HCl w All (HEx w All d) cs e) := by
  intro w v1 v2 e i1 i2
  obtain ⟨cs, rfl, kv, cv, rfl, f0, f1⟩ := i1
  obtain ⟨cs, rfl, kv', cv', rfl, f0', f1'⟩ := i2
  have hal : Below w.heap.size w ((w.alloc (.cells #[kv, cv] 45)).alloc (.cells #[kv', cv'] 45)) := ((Below.refl _ _).alloc (Nat.le_refl _) _).alloc (by simp) _
  have HA : Hid (Below w.heap.size w ((w.alloc (.cells #[kv, cv] 45)).alloc (.cells #[kv', cv'] 45))) := hal
  have g0 : ∀ w', SameOn All w w' → Rows w' All 6 (HEx w' All d) kv e.1 := fun w' hw => f0.mono (hw) (fun _ h => h) (fun _ _ _ => HEx.mono (hw) (fun _ h => h))
  have g0' : ∀ w', SameOn All w w' → Rows w' All 6 (HEx w' All d) kv' e.1 := fun w' hw => f0'.mono (hw) (fun _ h => h) (fun _ _ _ => HEx.mono (hw) (fun _ h => h))
  have g1 : ∀ w', SameOn All w w' → Rows w' All 6 (HEx w' All d) cv e.2 := fun w' hw => f1.mono (hw) (fun _ h => h) (fun _ _ _ => HEx.mono (hw) (fun _ h => h))
  have g1' : ∀ w', SameOn All w w' → Rows w' All 6 (HEx w' All d) cv' e.2 := fun w' hw => f1'.mono (hw) (fun _ h => h) (fun _ _ _ => HEx.mono (hw) (fun _ h => h))
  clear hal f0 f0' f1 f1'
  go_enter Tryz.func101, Tryz.ntmps101
  go_wp2_with (first | (go_at_call 115; (refine (h1 _ _ _ e.2 (g1 _ (SameOn.of_below (HA.out.trans (HB0.out.mono HA.out.size)))) (g1' _ (SameOn.of_below (HA.out.trans (HB0.out.mono HA.out.size))))).mono ?_; rintro e w1 ⟨rfl, hb1⟩; have HB1 : Hid _ := hb1; clear hb1)) | (go_at_call 115; (refine (h0 _ _ _ e.1 (g0 _ (SameOn.of_below HA.out)) (g0' _ (SameOn.of_below HA.out))).mono ?_; rintro e w0 ⟨rfl, hb0⟩; have HB0 : Hid _ := hb0; have k0 := (hb0.cell (p := ⟨w.heap.size, 1, none⟩) (by simp only [alloc_hs]; omega)).trans ((World.cell?_of_block (a := ⟨w.heap.size, 1, none⟩) (Below.heap_alloc _ _ _ (by simp))).trans (cell_new _ _ _ 1 cv rfl)); have m0 := (hb0.cell (p := ⟨(w.alloc (.cells #[kv, cv] 45)).heap.size, 1, none⟩) (by simp)).trans (cell_new _ _ _ 1 cv' rfl); simp only [alloc_hs] at m0; clear hb0)))
  go_ret
  exact ⟨rfl, ((HA.out.trans (HB0.out.mono HA.out.size)).trans (HB1.out.mono (HA.out.trans (HB0.out.mono HA.out.size)).size))⟩

set_option maxHeartbeats 2000000 in
theorem eqFun_of {d : Nat} (h0 : EqC 86 (fun w v es => Rows w All 2 (HCl w All (HEx w All d)) v es)) :
    EqC 67 (fun w v e => ∃ cs, v = .agg cs.toArray ∧ HFn w All d cs e) := by
  intro w v1 v2 e i1 i2
  obtain ⟨cs, rfl, cv, rfl, p1, p2, f0⟩ := i1
  obtain ⟨cs, rfl, cv', rfl, p1', p2', f0'⟩ := i2
  have hal : Below w.heap.size w ((w.alloc (.cells #[.string e.name, .int .i64 e.arity, cv] 68)).alloc (.cells #[.string e.name, .int .i64 e.arity, cv'] 68)) := ((Below.refl _ _).alloc (Nat.le_refl _) _).alloc (by simp) _
  have HA : Hid (Below w.heap.size w ((w.alloc (.cells #[.string e.name, .int .i64 e.arity, cv] 68)).alloc (.cells #[.string e.name, .int .i64 e.arity, cv'] 68))) := hal
  have g0 : ∀ w', SameOn All w w' → Rows w' All 2 (HCl w' All (HEx w' All d)) cv e.clauses := fun w' hw => f0.mono (hw) (fun _ h => h) (fun _ _ _ h => h.mono (hw) (fun _ h => h) (fun _ _ => HEx.mono (hw) (fun _ h => h)))
  have g0' : ∀ w', SameOn All w w' → Rows w' All 2 (HCl w' All (HEx w' All d)) cv' e.clauses := fun w' hw => f0'.mono (hw) (fun _ h => h) (fun _ _ _ h => h.mono (hw) (fun _ h => h) (fun _ _ => HEx.mono (hw) (fun _ h => h)))
  clear hal f0 f0'
  go_enter Tryz.func67, Tryz.ntmps67
  go_wp2_with (first | (go_at_call 86; (refine (h0 _ _ _ e.clauses (g0 _ (SameOn.of_below HA.out)) (g0' _ (SameOn.of_below HA.out))).mono ?_; rintro e w0 ⟨rfl, hb0⟩; have HB0 : Hid _ := hb0; clear hb0)))
  go_ret
  exact ⟨rfl, (HA.out.trans (HB0.out.mono HA.out.size))⟩

set_option maxHeartbeats 2000000 in
theorem eqRef_of {d : Nat}  :
    EqC 66 (fun w v e => ∃ cs, v = .agg cs.toArray ∧ HRf cs e) := by
  intro w v1 v2 e i1 i2
  obtain ⟨cs, rfl, rfl, p1, p2⟩ := i1
  obtain ⟨cs, rfl, rfl, p1', p2'⟩ := i2
  go_enter Tryz.func66, Tryz.ntmps66
  go_wp2
  go_ret
  exact ⟨rfl, ((Below.refl _ _).alloc (Nat.le_refl _) _).alloc (by simp) _⟩

set_option maxHeartbeats 2000000 in
theorem eqModule_of {d : Nat} (h0 : EqC 43 (fun w v es => Rows w All 2 (HRf) v es)) (h1 : EqC 44 (fun w v es => Rows w All 3 (HFn w All d) v es)) :
    EqC 23 (fun w v e => ∃ cs, v = .agg cs.toArray ∧ HMd w All d cs e) := by
  intro w v1 v2 e i1 i2
  obtain ⟨cs, rfl, kv, cv, rfl, p1, f0, f1⟩ := i1
  obtain ⟨cs, rfl, kv', cv', rfl, p1', f0', f1'⟩ := i2
  have hal : Below w.heap.size w ((w.alloc (.cells #[.string e.name, kv, cv] 53)).alloc (.cells #[.string e.name, kv', cv'] 53)) := ((Below.refl _ _).alloc (Nat.le_refl _) _).alloc (by simp) _
  have HA : Hid (Below w.heap.size w ((w.alloc (.cells #[.string e.name, kv, cv] 53)).alloc (.cells #[.string e.name, kv', cv'] 53))) := hal
  have g0 : ∀ w', SameOn All w w' → Rows w' All 2 HRf kv e.exports := fun w' hw => f0.mono (hw) (fun _ h => h) (fun _ _ _ h => h)
  have g0' : ∀ w', SameOn All w w' → Rows w' All 2 HRf kv' e.exports := fun w' hw => f0'.mono (hw) (fun _ h => h) (fun _ _ _ h => h)
  have g1 : ∀ w', SameOn All w w' → Rows w' All 3 (HFn w' All d) cv e.funs := fun w' hw => f1.mono (hw) (fun _ h => h) (fun _ _ _ h => h.mono (hw) (fun _ h => h))
  have g1' : ∀ w', SameOn All w w' → Rows w' All 3 (HFn w' All d) cv' e.funs := fun w' hw => f1'.mono (hw) (fun _ h => h) (fun _ _ _ h => h.mono (hw) (fun _ h => h))
  clear hal f0 f0' f1 f1'
  go_enter Tryz.func23, Tryz.ntmps23
  go_wp2_with (first | (go_at_call 44; (refine (h1 _ _ _ e.funs (g1 _ (SameOn.of_below (HA.out.trans (HB0.out.mono HA.out.size)))) (g1' _ (SameOn.of_below (HA.out.trans (HB0.out.mono HA.out.size))))).mono ?_; rintro e w1 ⟨rfl, hb1⟩; have HB1 : Hid _ := hb1; clear hb1)) | (go_at_call 43; (refine (h0 _ _ _ e.exports (g0 _ (SameOn.of_below HA.out)) (g0' _ (SameOn.of_below HA.out))).mono ?_; rintro e w0 ⟨rfl, hb0⟩; have HB0 : Hid _ := hb0; have k0 := (hb0.cell (p := ⟨w.heap.size, 2, none⟩) (by simp only [alloc_hs]; omega)).trans ((World.cell?_of_block (a := ⟨w.heap.size, 2, none⟩) (Below.heap_alloc _ _ _ (by simp))).trans (cell_new _ _ _ 2 cv rfl)); have m0 := (hb0.cell (p := ⟨(w.alloc (.cells #[.string e.name, kv, cv] 53)).heap.size, 2, none⟩) (by simp)).trans (cell_new _ _ _ 2 cv' rfl); simp only [alloc_hs] at m0; clear hb0)))
  go_ret
  exact ⟨rfl, ((HA.out.trans (HB0.out.mono HA.out.size)).trans (HB1.out.mono (HA.out.trans (HB0.out.mono HA.out.size)).size))⟩

theorem eqExp_all : ∀ d, EqC 131 (fun w v e => ∃ cs, v = .agg cs.toArray ∧ HEx w All d cs e)
  | 0 => fun w v v' x ⟨_, _, h⟩ _ => h.elim
  | d + 1 => eqExp_of (eqExpS_of (eqExp_all d)) (eqClauseS_of (eqClause_of (eqExpS_of (eqExp_all d)) (eqExpS_of (eqExp_all d))))
theorem eqClauseS_all (d : Nat) : EqC 86 (fun w v es => Rows w All 2 (HCl w All (HEx w All d)) v es) :=
  eqClauseS_of (eqClause_of (eqExpS_of (eqExp_all d)) (eqExpS_of (eqExp_all d)))

/-- THE LAWS' eqModule. -/
theorem eqModule_all (d : Nat) : EqC 23 (fun w v m => ∃ cs, v = .agg cs.toArray ∧ HMd w All d cs m) :=
  eqModule_of (eqRefS_of (d := 0) (eqRef_of (d := 0))) (eqFunS_of (eqFun_of (eqClauseS_all d)))
end Go.Proofs.YtoknolophmhlgaaGreatDoor
/-
  The laws' eqModuleS: two rows of modules that are alike.
-/
namespace Go.Proofs.YtoknolophmhlgaaGreatDoor
open Go.ChangeShapes Go.WideShapes Go.ChangeAt Go.RowKit
set_option linter.unusedVariables false

set_option maxHeartbeats 2000000 in
theorem eqModuleS_of {d : Nat} (hE : EqC 23 (fun w v e => ∃ cs, v = .agg cs.toArray ∧ HMd w All d cs e)) :
    EqC 11 (fun w v es => Rows w All 3 (HMd w All d) v es) := by
  intro w v1 v2 es h1 h2
  obtain ⟨p, cap, rfl, hcl, hcm, hx⟩ := h1
  obtain ⟨q, cap', rfl, hcl', hcm', hy⟩ := h2
  generalize hn : es.length = n at *
  have HN : Hid (es.length = n) := hn
  have HX : Hid _ := hx
  have HY : Hid _ := hy
  have hnb : n ≤ 9223372036854775807 := by unfold maxLen at hcm; omega
  clear hx hy hn
  go_enter Tryz.func11, Tryz.ntmps11
  go_wp2
  go_loopw [5] (fun iv wr => ∃ k : Nat, k ≤ n ∧ iv = .int .i64 k ∧ Below w.heap.size w wr) (fun iv _ => n - (intOf iv).toNat)
  case atStart => exact ⟨0, Nat.zero_le _, rfl, Below.refl _ _⟩
  case round =>
    obtain ⟨k, hk, rfl, hb⟩ := hrel
    have HB : Hid (Below w.heap.size w wr) := hb
    by_cases hlt : k < n
    · obtain ⟨x, hxk⟩ : ∃ x, es[k]? = some x := ⟨es[k]'(by rw [HN.out]; exact hlt), List.getElem?_eq_getElem _⟩
      have hne : es ≠ [] := by intro h; rw [h] at hxk; simp at hxk
      obtain ⟨g, off, rfl, _, hgl, hat⟩ := HX.out hne
      obtain ⟨g', off', rfl, _, hgl', hat'⟩ := HY.out hne
      obtain ⟨cs, hcl6, hcs, hex⟩ := hat k x hxk
      obtain ⟨cs', hcl6', hcs', hex'⟩ := hat' k x hxk
      have E1 : ∀ w', SameOn All wr w' → HMd w' All d cs x := fun w' hw => hex.mono (SameOn.trans (SameOn.of_below hb) hw) (fun _ h => h)
      have E2 : ∀ w', SameOn All wr w' → HMd w' All d cs' x := fun w' hw => hex'.mono (SameOn.trans (SameOn.of_below hb) hw) (fun _ h => h)
      obtain ⟨c0, c1, c2, rfl⟩ := len3 hcl6
      obtain ⟨d0, d1, d2, rfl⟩ := len3 hcl6'
      have a0 := hcs 0 (by omega)
      have b0 := hcs' 0 (by omega)
      have a1 := hcs 1 (by omega)
      have b1 := hcs' 1 (by omega)
      have a2 := hcs 2 (by omega)
      have b2 := hcs' 2 (by omega)
      rw [← hb.cell (p := ⟨g, _, none⟩) hgl] at a0 a1 a2
      rw [← hb.cell (p := ⟨g', _, none⟩) hgl'] at b0 b1 b2
      simp at a0 a1 a2 b0 b1 b2
      clear hb hcs hat hex hcl6 hcs' hat' hex' hcl6' hne
      go_wp2
      go_region_with ((go_at_call 23; refine (hE _ _ _ x ⟨_, rfl, E1 _ (by exact ⟨Nat.le_refl _, fun _ _ _ => rfl⟩)⟩ ⟨_, rfl, E2 _ (by exact ⟨Nat.le_refl _, fun _ _ _ => rfl⟩)⟩).mono ?_; rintro e w1 ⟨rfl, hb1⟩; have HB1 : Hid _ := hb1; clear hb1))
      all_goals go_wp2
      all_goals
        have hbe : Below w.heap.size w w1 := by
          refine Below.trans ?_ (HB1.out.mono (by exact HB.out.size))
          repeat (first | exact HB.out | apply Below.drew)
        exact ⟨⟨k + 1, by omega, by go_num, hbe⟩, by simp [intOf]; omega⟩
    · go_wp2
      go_ret
      exact ⟨rfl, HB.out⟩

theorem eqModuleS_all (d : Nat) : EqC 11 (fun w v es => Rows w All 3 (HMd w All d) v es) := eqModuleS_of (eqModule_all d)
end Go.Proofs.YtoknolophmhlgaaGreatDoor
/-
  Expressions and clauses that own their memory.
-/
namespace Go.Proofs.YtoknolophmhlgaaGreatDoor
open Go.ChangeShapes Go.WideShapes Go.ChangeAt Go.RowKit
set_option linter.unusedVariables false

/-- Two cells that are a clause which owns its memory. -/
def OCl (w : World) (O : List Value → Ex → List Nat → Prop) (cs : List Value) (c : Cl) (fp : List Nat) : Prop :=
  ∃ pv bv f1 f2, cs = [pv, bv] ∧ fp = f1 ++ f2 ∧ ORows w 73 6 O pv c.1 f1 ∧ ORows w 73 6 O bv c.2 f2
/-- Six cells that are an expression which owns its memory. -/
def OEx (w : World) : Nat → List Value → Ex → List Nat → Prop
  | 0, _, _, _ => False
  | d + 1, cs, e, fp => ∃ kv cv f1 f2, cs = [.int .i64 e.kind, .int .i64 e.n, .string e.text, .string e.mod, kv, cv] ∧ fp = f1 ++ f2 ∧ okI e.kind ∧ okI e.n ∧ okS e.text ∧ okS e.mod ∧
      ORows w 73 6 (OEx w d) kv e.kids f1 ∧ ORows w 45 2 (OCl w (OEx w d)) cv e.clauses f2
abbrev OCls (w : World) (d : Nat) : List Value → Cl → List Nat → Prop := OCl w (OEx w d)

theorem OCl.keep' {w w' : World} {O O' : List Value → Ex → List Nat → Prop} {cs : List Value} {c : Cl} {fp : List Nat} (h : OCl w O cs c fp) (hk : KeepOn fp w w') (hO : ∀ cs x f, (∀ a ∈ f, a ∈ fp) → O cs x f → O' cs x f) : OCl w' O' cs c fp := by
  obtain ⟨pv, bv, f1, f2, rfl, rfl, h1, h2⟩ := h
  refine ⟨pv, bv, f1, f2, rfl, rfl, h1.keep (hk.sub (fun a ha => by simp [ha])) (fun cs x f _ hs => hO cs x f (fun a ha => by simp [hs a ha])), h2.keep (hk.sub (fun a ha => by simp [ha])) (fun cs x f _ hs => hO cs x f (fun a ha => by simp [hs a ha]))⟩
theorem OEx.keep {w w' : World} : ∀ {d : Nat} {cs : List Value} {e : Ex} {fp : List Nat}, OEx w d cs e fp → KeepOn fp w w' → OEx w' d cs e fp
  | 0, _, _, _, h, _ => h.elim
  | d + 1, cs, e, fp, h, hk => by
    obtain ⟨kv, cv, f1, f2, rfl, rfl, h1, h2, h3, h4, hr, hc⟩ := h
    refine ⟨kv, cv, f1, f2, rfl, rfl, h1, h2, h3, h4, hr.keep (hk.sub (fun a ha => by simp [ha])) (fun cs x f _ hs h => h.keep (hk.sub (fun a ha => by simp [hs a ha]))), hc.keep (hk.sub (fun a ha => by simp [ha])) (fun cs x f _ hs h => ?_)⟩
    exact h.keep' (hk.sub (fun a ha => by simp [hs a ha])) (fun cs x g hg h => h.keep (hk.sub (fun a ha => by simp [hs a (hg a ha)])))
theorem OCls.keep {w w' : World} {d : Nat} {cs : List Value} {c : Cl} {fp : List Nat} (h : OCl w (OEx w d) cs c fp) (hk : KeepOn fp w w') : OCl w' (OEx w' d) cs c fp :=
  h.keep' hk (fun cs x g hg h => h.keep (hk.sub hg))
theorem OCl.tree' {w : World} {S : Nat → Prop} {O : List Value → Ex → List Nat → Prop} {R : List Value → Ex → Prop} {cs : List Value} {c : Cl} {fp : List Nat} (h : OCl w O cs c fp) (hS : ∀ a ∈ fp, S a) (hO : ∀ cs x f, (∀ a ∈ f, a ∈ fp) → O cs x f → R cs x) : HCl w S R cs c := by
  obtain ⟨pv, bv, f1, f2, rfl, rfl, h1, h2⟩ := h
  exact ⟨pv, bv, rfl, h1.rows (fun a ha => hS a (by simp [ha])) (fun cs x f _ hs => hO cs x f (fun a ha => by simp [hs a ha])), h2.rows (fun a ha => hS a (by simp [ha])) (fun cs x f _ hs => hO cs x f (fun a ha => by simp [hs a ha]))⟩
theorem OEx.tree {w : World} {S : Nat → Prop} : ∀ {d : Nat} {cs : List Value} {e : Ex} {fp : List Nat}, OEx w d cs e fp → (∀ a ∈ fp, S a) → HEx w S d cs e
  | 0, _, _, _, h, _ => h.elim
  | d + 1, cs, e, fp, h, hS => by
    obtain ⟨kv, cv, f1, f2, rfl, rfl, h1, h2, h3, h4, hr, hc⟩ := h
    refine ⟨kv, cv, rfl, h1, h2, h3, h4, hr.rows (fun a ha => hS a (by simp [ha])) (fun cs x f _ hs h => h.tree (fun a ha => hS a (by simp [hs a ha]))), hc.rows (fun a ha => hS a (by simp [ha])) (fun cs x f _ hs h => ?_)⟩
    exact h.tree' (fun a ha => hS a (by simp [hs a ha])) (fun cs x g hg h => h.tree (fun a ha => hS a (by simp [hs a (hg a ha)])))
theorem OCls.tree {w : World} {S : Nat → Prop} {d : Nat} {cs : List Value} {c : Cl} {fp : List Nat} (h : OCl w (OEx w d) cs c fp) (hS : ∀ a ∈ fp, S a) : HCl w S (HEx w S d) cs c :=
  h.tree' hS (fun cs x g hg h => h.tree (fun a ha => hS a (hg a ha)))
theorem OCl.lt' {w : World} {O : List Value → Ex → List Nat → Prop} {cs : List Value} {c : Cl} {fp : List Nat} (h : OCl w O cs c fp) (hO : ∀ cs x f, O cs x f → ∀ a ∈ f, a < w.heap.size) : ∀ a ∈ fp, a < w.heap.size := by
  obtain ⟨pv, bv, f1, f2, rfl, rfl, h1, h2⟩ := h
  intro a ha
  rcases List.mem_append.1 ha with ha | ha
  · exact h1.lt hO a ha
  · exact h2.lt hO a ha
theorem OEx.lt {w : World} : ∀ {d : Nat} {cs : List Value} {e : Ex} {fp : List Nat}, OEx w d cs e fp → ∀ a ∈ fp, a < w.heap.size
  | 0, _, _, _, h => h.elim
  | d + 1, cs, e, fp, h => by
    obtain ⟨kv, cv, f1, f2, rfl, rfl, h1, h2, h3, h4, hr, hc⟩ := h
    intro a ha
    rcases List.mem_append.1 ha with ha | ha
    · exact hr.lt (fun cs x f h => h.lt) a ha
    · exact hc.lt (fun cs x f h => h.lt' (fun cs x f h => h.lt)) a ha
theorem OEx.shape {w : World} {d : Nat} {cs : List Value} {x : Ex} {fp : List Nat} (h : OEx w d cs x fp) : ∃ sk sn st se p1 n1 q1 p2 n2 q2, cs = [.int .i64 sk, .int .i64 sn, .string st, .string se, .slice p1 n1 q1, .slice p2 n2 q2] := by
  cases d with
  | zero => exact h.elim
  | succ d =>
    obtain ⟨kv, cv, f1, f2, rfl, rfl, _, _, _, _, hr, hc⟩ := h
    obtain ⟨p1, c1, rfl, _⟩ := hr.shape
    obtain ⟨p2, c2, rfl, _⟩ := hc.shape
    exact ⟨_, _, _, _, _, _, _, _, _, _, rfl⟩
theorem OCl.shape {w : World} {O : List Value → Ex → List Nat → Prop} {cs : List Value} {x : Cl} {fp : List Nat} (h : OCl w O cs x fp) : ∃ p1 n1 q1 p2 n2 q2, cs = [.slice p1 n1 q1, .slice p2 n2 q2] := by
  obtain ⟨pv, bv, f1, f2, rfl, rfl, h1, h2⟩ := h
  obtain ⟨p1, c1, rfl, _⟩ := h1.shape
  obtain ⟨p2, c2, rfl, _⟩ := h2.shape
  exact ⟨_, _, _, _, _, _, rfl⟩
end Go.Proofs.YtoknolophmhlgaaGreatDoor
/-
  The laws' toExp and toClause: a copy of an expression or a clause in memory that the copy owns.
-/
namespace Go.Proofs.YtoknolophmhlgaaGreatDoor
open Go.ChangeShapes Go.WideShapes Go.ChangeAt Go.RowKit
set_option linter.unusedVariables false


set_option maxHeartbeats 4000000 in
theorem toExpS_ofO {d : Nat} (hE : ToO 117 (fun w v e => ∃ cs, v = .agg cs.toArray ∧ HEx w All d cs e) (fun w v e fp => ∃ cs, v = .agg cs.toArray ∧ OEx w d cs e fp) (wtEx d)) :
    ToO 106 (fun w v es => Rows w All 6 (HEx w All d) v es) (fun w v es fp => ORows w 73 6 (OEx w d) v es fp) (wtS (wtEx d)) := by
  intro w v es h hwt
  obtain ⟨p, cap, rfl, hcl, hcm, hx⟩ := h
  generalize hn : es.length = n at *
  have HN : Hid (es.length = n) := hn
  have HX : Hid _ := hx
  have hnb : n ≤ 1048576 := by unfold wtS at hwt; omega
  have HWT : Hid (wtS (wtEx d) es ≤ 1048576) := hwt
  clear hx hn hwt
  obtain ⟨M, hM, hmk⟩ := make_row (t := 43) (e := 73) (c := 6) Tryz.underlying43 (by kernel_rfl) w n hnb
  have HO : Hid (Made w (w.alloc (.cells M 73)) w.heap.size n 73 6 (fun w => OEx w d) es 0 M.toList []) := Made.start hM (by unfold maxLen; omega)
  generalize hG : w.heap.size = G at *
  have HG : Hid (w.heap.size = G) := hG
  go_enter Tryz.func106, Tryz.ntmps106
  go_wp2
  go_loopw [4] (fun iv wr => ∃ (k : Nat) (xs : List Value) (fps : List (List Nat)), k ≤ n ∧ iv = .int .i64 k ∧ Hid (Made w wr G n 73 6 (fun w => OEx w d) es k xs fps)) (fun iv _ => n - (intOf iv).toNat)
  case atStart => exact ⟨0, M.toList, [], Nat.zero_le _, rfl, HO⟩
  case round =>
    obtain ⟨k, xs, fps, hk, rfl, HM⟩ := hrel
    by_cases hlt : k < n
    · obtain ⟨x, hxk⟩ : ∃ x, es[k]? = some x := ⟨es[k]'(by rw [HN.out]; exact hlt), List.getElem?_eq_getElem _⟩
      obtain ⟨g, off, rfl, hg, hgl, hat⟩ := HX.out (by intro h; rw [h] at hxk; simp at hxk)
      obtain ⟨cs, hcl6, hcs, hex⟩ := hat k x hxk
      have hbw : Below w.heap.size w wr := by rw [HG.out]; exact HM.out.below
      have hex' : ∀ w', SameOn All wr w' → HEx w' All d cs x := fun w' hw => hex.mono (SameOn.trans (SameOn.of_below hbw) hw) (fun _ h => h)
      obtain ⟨z0, z1, z2, z3, z4, z5, rfl⟩ := len6 hcl6
      have a0 := hcs 0 (by omega)
      have a1 := hcs 1 (by omega)
      have a2 := hcs 2 (by omega)
      have a3 := hcs 3 (by omega)
      have a4 := hcs 4 (by omega)
      have a5 := hcs 5 (by omega)
      rw [← hbw.cell (p := ⟨g, _, none⟩) (by show g < w.heap.size; rw [HG.out]; exact hgl)] at a0 a1 a2 a3 a4 a5
      simp at a0 a1 a2 a3 a4 a5
      have hwx : wtEx d x ≤ 1048576 := by
        have h1 := HWT.out
        have h2 := sum_take_succ (wtEx d) es k x hxk
        have h3 := sum_take_le (wtEx d) es (k + 1)
        unfold wtS at h1
        omega
      clear hbw hcs hat hex hcl6
      go_wp2_with (go_at_call 117; go_must (refine (hE _ _ x ⟨_, rfl, hex' _ (by exact ⟨Nat.le_refl _, fun _ _ _ => rfl⟩)⟩ hwx).mono ?_; rintro e w1 ⟨u, fp, rfl, ⟨cs', rfl, hx1⟩, hnd, hrg, hb1⟩; obtain ⟨sk, sn, st, se, p1, n1, q1, p2, n2, q2, hsh⟩ := hx1.shape; subst hsh; have HB1 : Hid (Below wr.heap.size wr w1) := hb1; have HX1 : Hid (OEx w1 d [.int .i64 sk, .int .i64 sn, .string st, .string se, .slice p1 n1 q1, .slice p2 n2 q2] x fp) := hx1; have HND : Hid fp.Nodup := hnd; have HRG : Hid (∀ a ∈ fp, wr.heap.size ≤ a ∧ a < w1.heap.size) := hrg; have o1 := HM.out.own.kept (grownBy_belowR (r := none) hb1) (Or.inr (by simp [Value.ownBlock])); have HO1 : Hid (w1.ownsRow G 73 6 (.slice (some ⟨G, 0, none⟩) n n) n xs) := o1; have f0 := o1.frozenAt (k * 6); obtain ⟨y0, g0⟩ := own_someR o1 (k * 6) (by omega); have f1 := o1.frozenAt (k * 6 + 1); obtain ⟨y1, g1⟩ := own_someR o1 (k * 6 + 1) (by omega); have f2 := o1.frozenAt (k * 6 + 2); obtain ⟨y2, g2⟩ := own_someR o1 (k * 6 + 2) (by omega); have f3 := o1.frozenAt (k * 6 + 3); obtain ⟨y3, g3⟩ := own_someR o1 (k * 6 + 3) (by omega); have f4 := o1.frozenAt (k * 6 + 4); obtain ⟨y4, g4⟩ := own_someR o1 (k * 6 + 4) (by omega); have f5 := o1.frozenAt (k * 6 + 5); obtain ⟨y5, g5⟩ := own_someR o1 (k * 6 + 5) (by omega); clear o1 hb1 hx1 hnd hrg))
      have sd := stored6 HO1.out (k * 6) (.int .i64 sk) (.int .i64 sn) (.string st) (.string se) (.slice p1 n1 q1) (.slice p2 n2 q2)
      have hlen : xs.length = n * 6 := HO1.out.1
      exact ⟨⟨k + 1, _, _, by omega, by go_num, HM.out.step (fun w w' cs x f h hk => h.keep hk) hxk HB1.out HX1.out HND.out HRG.out rfl sd.1 sd.2 (fun m hm => set6_other hm) (fun j hj => set6_self (by omega) j hj)⟩, by simp [intOf]; omega⟩
    · obtain rfl : k = n := by omega
      obtain ⟨fp, r1, r2, r3⟩ := HM.out.done HN.out (by unfold maxLen; omega)
      have R1 : Hid (ORows wr 73 6 (OEx wr d) (.slice (some ⟨G, 0, none⟩) k k) es fp) := r1
      have R2 : Hid (fp.Nodup ∧ ∀ a ∈ fp, G ≤ a ∧ a < wr.heap.size) := ⟨r2, r3⟩
      clear r1 r2 r3
      go_wp2
      go_ret
      exact ⟨_, fp, rfl, R1.out, R2.out.1, R2.out.2, HM.out.below⟩

set_option maxHeartbeats 4000000 in
theorem toClauseS_ofO {d : Nat} (hE : ToO 90 (fun w v e => ∃ cs, v = .agg cs.toArray ∧ HCl w All (HEx w All d) cs e) (fun w v e fp => ∃ cs, v = .agg cs.toArray ∧ OCls w d cs e fp) (wtCl (wtEx d))) :
    ToO 74 (fun w v es => Rows w All 2 (HCl w All (HEx w All d)) v es) (fun w v es fp => ORows w 45 2 (OCls w d) v es fp) (wtS (wtCl (wtEx d))) := by
  intro w v es h hwt
  obtain ⟨p, cap, rfl, hcl, hcm, hx⟩ := h
  generalize hn : es.length = n at *
  have HN : Hid (es.length = n) := hn
  have HX : Hid _ := hx
  have hnb : n ≤ 1048576 := by unfold wtS at hwt; omega
  have HWT : Hid (wtS (wtCl (wtEx d)) es ≤ 1048576) := hwt
  clear hx hn hwt
  obtain ⟨M, hM, hmk⟩ := make_row (t := 66) (e := 45) (c := 2) Tryz.underlying66 (by kernel_rfl) w n hnb
  have HO : Hid (Made w (w.alloc (.cells M 45)) w.heap.size n 45 2 (fun w => OCls w d) es 0 M.toList []) := Made.start hM (by unfold maxLen; omega)
  generalize hG : w.heap.size = G at *
  have HG : Hid (w.heap.size = G) := hG
  go_enter Tryz.func74, Tryz.ntmps74
  go_wp2
  go_loopw [4] (fun iv wr => ∃ (k : Nat) (xs : List Value) (fps : List (List Nat)), k ≤ n ∧ iv = .int .i64 k ∧ Hid (Made w wr G n 45 2 (fun w => OCls w d) es k xs fps)) (fun iv _ => n - (intOf iv).toNat)
  case atStart => exact ⟨0, M.toList, [], Nat.zero_le _, rfl, HO⟩
  case round =>
    obtain ⟨k, xs, fps, hk, rfl, HM⟩ := hrel
    by_cases hlt : k < n
    · obtain ⟨x, hxk⟩ : ∃ x, es[k]? = some x := ⟨es[k]'(by rw [HN.out]; exact hlt), List.getElem?_eq_getElem _⟩
      obtain ⟨g, off, rfl, hg, hgl, hat⟩ := HX.out (by intro h; rw [h] at hxk; simp at hxk)
      obtain ⟨cs, hcl6, hcs, hex⟩ := hat k x hxk
      have hbw : Below w.heap.size w wr := by rw [HG.out]; exact HM.out.below
      have hex' : ∀ w', SameOn All wr w' → HCl w' All (HEx w' All d) cs x := fun w' hw => hex.mono (SameOn.trans (SameOn.of_below hbw) hw) (fun _ h => h) (fun _ _ => HEx.mono (SameOn.trans (SameOn.of_below hbw) hw) (fun _ h => h))
      obtain ⟨z0, z1, rfl⟩ := len2 hcl6
      have a0 := hcs 0 (by omega)
      have a1 := hcs 1 (by omega)
      rw [← hbw.cell (p := ⟨g, _, none⟩) (by show g < w.heap.size; rw [HG.out]; exact hgl)] at a0 a1
      simp at a0 a1
      have hwx : wtCl (wtEx d) x ≤ 1048576 := by
        have h1 := HWT.out
        have h2 := sum_take_succ (wtCl (wtEx d)) es k x hxk
        have h3 := sum_take_le (wtCl (wtEx d)) es (k + 1)
        unfold wtS at h1
        omega
      clear hbw hcs hat hex hcl6
      go_wp2_with (go_at_call 90; go_must (refine (hE _ _ x ⟨_, rfl, hex' _ (by exact ⟨Nat.le_refl _, fun _ _ _ => rfl⟩)⟩ hwx).mono ?_; rintro e w1 ⟨u, fp, rfl, ⟨cs', rfl, hx1⟩, hnd, hrg, hb1⟩; obtain ⟨p1, n1, q1, p2, n2, q2, hsh⟩ := hx1.shape; subst hsh; have HB1 : Hid (Below wr.heap.size wr w1) := hb1; have HX1 : Hid (OCls w1 d [.slice p1 n1 q1, .slice p2 n2 q2] x fp) := hx1; have HND : Hid fp.Nodup := hnd; have HRG : Hid (∀ a ∈ fp, wr.heap.size ≤ a ∧ a < w1.heap.size) := hrg; have o1 := HM.out.own.kept (grownBy_belowR (r := none) hb1) (Or.inr (by simp [Value.ownBlock])); have HO1 : Hid (w1.ownsRow G 45 2 (.slice (some ⟨G, 0, none⟩) n n) n xs) := o1; have f0 := o1.frozenAt (k * 2); obtain ⟨y0, g0⟩ := own_someR o1 (k * 2) (by omega); have f1 := o1.frozenAt (k * 2 + 1); obtain ⟨y1, g1⟩ := own_someR o1 (k * 2 + 1) (by omega); clear o1 hb1 hx1 hnd hrg))
      have sd := stored2 HO1.out (k * 2) (.slice p1 n1 q1) (.slice p2 n2 q2)
      have hlen : xs.length = n * 2 := HO1.out.1
      exact ⟨⟨k + 1, _, _, by omega, by go_num, Made.step (O := fun w => OCls w d) (c := 2) (fun w w' cs x f h hk => OCls.keep h hk) HM.out hxk HB1.out HX1.out HND.out HRG.out rfl sd.1 sd.2 (fun m hm => set2_other hm) (fun j hj => set2_self (by omega) j hj)⟩, by simp [intOf]; omega⟩
    · obtain rfl : k = n := by omega
      obtain ⟨fp, r1, r2, r3⟩ := HM.out.done HN.out (by unfold maxLen; omega)
      have R1 : Hid (ORows wr 45 2 (OCls wr d) (.slice (some ⟨G, 0, none⟩) k k) es fp) := r1
      have R2 : Hid (fp.Nodup ∧ ∀ a ∈ fp, G ≤ a ∧ a < wr.heap.size) := ⟨r2, r3⟩
      clear r1 r2 r3
      go_wp2
      go_ret
      exact ⟨_, fp, rfl, R1.out, R2.out.1, R2.out.2, HM.out.below⟩

set_option maxHeartbeats 4000000 in
theorem toClause_ofO {d : Nat} (h0 : ToO 106 (fun w v es => Rows w All 6 (HEx w All d) v es) (fun w v es fp => ORows w 73 6 (OEx w d) v es fp) (wtS (wtEx d))) (h1 : ToO 106 (fun w v es => Rows w All 6 (HEx w All d) v es) (fun w v es fp => ORows w 73 6 (OEx w d) v es fp) (wtS (wtEx d))) :
    ToO 90 (fun w v e => ∃ cs, v = .agg cs.toArray ∧ HCl w All (HEx w All d) cs e) (fun w v e fp => ∃ cs, v = .agg cs.toArray ∧ OCl w (OEx w d) cs e fp) (wtCl (wtEx d)) := by
  intro w v e i1 hwt
  obtain ⟨cs, rfl, v0, v1, rfl, f0, f1⟩ := i1
  have hw0 : wtS (wtEx d) e.1 ≤ 1048576 := by unfold wtCl at hwt; omega
  have E0 : ∀ w', SameOn All w w' → Rows w' All 6 (HEx w' All d) v0 e.1 := fun w' hw => f0.mono hw (fun _ h => h) (fun _ _ _ => HEx.mono hw (fun _ h => h))
  have hw1 : wtS (wtEx d) e.2 ≤ 1048576 := by unfold wtCl at hwt; omega
  have E1 : ∀ w', SameOn All w w' → Rows w' All 6 (HEx w' All d) v1 e.2 := fun w' hw => f1.mono hw (fun _ h => h) (fun _ _ _ => HEx.mono hw (fun _ h => h))
  obtain ⟨p0, c0, rfl, _⟩ := id f0
  obtain ⟨p1, c1, rfl, _⟩ := id f1
  clear f0 f1
  go_enter Tryz.func90, Tryz.ntmps90
  go_wp2_with fail
  have hal : Below w.heap.size w (((w.alloc (.cells #[.slice p0 e.1.length c0, .slice p1 e.2.length c1] 133)).alloc (.cells #[.slice none 0 0, .slice none 0 0] 45)).alloc (.cells #[.slice none 0 0, .slice none 0 0] 45)) := (((Below.refl _ _).alloc (Nat.le_refl _) _).alloc (by simp only [alloc_hs]; omega) _).alloc (by simp only [alloc_hs]; omega) _
  refine (h0 _ _ e.1 (E0 _ (SameOn.of_below hal)) hw0).mono ?_
  rintro ex w1 ⟨u, fA, rfl, r0, ndA, rgA, hb⟩
  have bA := ((Blk.new (w := w) (cs := #[.slice p0 e.1.length c0, .slice p1 e.2.length c1]) (t := 133)).alloc (o := .cells #[.slice none 0 0, .slice none 0 0] 45)).alloc (o := .cells #[.slice none 0 0, .slice none 0 0] 45)
  have bR := (Blk.new (w := (w.alloc (.cells #[.slice p0 e.1.length c0, .slice p1 e.2.length c1] 133))) (cs := #[.slice none 0 0, .slice none 0 0]) (t := 45)).alloc (o := .cells #[.slice none 0 0, .slice none 0 0] 45)
  have bO := (Blk.new (w := ((w.alloc (.cells #[.slice p0 e.1.length c0, .slice p1 e.2.length c1] 133)).alloc (.cells #[.slice none 0 0, .slice none 0 0] 45))) (cs := #[.slice none 0 0, .slice none 0 0]) (t := 45))
  simp only [alloc_hs] at bA bR bO rgA
  replace bA := bA.below hb (by simp only [alloc_hs]; omega)
  replace bR := bR.below hb (by simp only [alloc_hs]; omega)
  replace bO := bO.below hb (by simp only [alloc_hs]; omega)
  have B1 : Below w.heap.size w w1 := hal.trans (hb.mono hal.size)
  have z1 : w.heap.size + 3 ≤ w1.heap.size := by have := hb.size; simp only [alloc_hs] at this; omega
  have Z1 : Hid (w.heap.size + 3 ≤ w1.heap.size) := z1
  have T0 : Hid (ORows w1 73 6 (OEx w1 d) u e.1 fA) := r0
  have NA : Hid (fA.Nodup) := ndA
  have GA : Hid (∀ a ∈ fA, w.heap.size + 1 + 1 + 1 ≤ a ∧ a < w1.heap.size) := rgA
  clear hal hb z1 ndA rgA
  obtain ⟨p0', c0', hu, _⟩ := r0.shape
  subst hu
  clear r0
  have a1 := bA.cell 1 _ rfl
  have o0 := bO.cell 0 _ rfl
  have g0 := bO.frozen 0
  have HA : Hid (Blk w1 w.heap.size #[.slice p0 e.1.length c0, .slice p1 e.2.length c1] 133) := bA
  have HR : Hid (Blk w1 (w.heap.size + 1) #[.slice none 0 0, .slice none 0 0] 45) := bR
  have HO : Hid (Blk w1 (w.heap.size + 1 + 1) #[.slice none 0 0, .slice none 0 0] 45) := bO
  have HB1 : Hid (Below w.heap.size w w1) := B1
  clear bA bR bO B1
  go_wp2_with fail
  have hp : Below w.heap.size w (w1.setCell ⟨w.heap.size + 1 + 1, 0, none⟩ (.slice p0' e.1.length c0')) := HB1.out.setCell (by show _ ≤ w.heap.size + 1 + 1; omega) _
  refine (h1 _ _ e.2 (E1 _ (SameOn.of_below hp)) hw1).mono ?_
  rintro ex w2 ⟨u, fB, rfl, r1, ndB, rgB, hb⟩
  have bA := ((HA.out.other (p := ⟨w.heap.size + 1 + 1, 0, none⟩) (v := (.slice p0' e.1.length c0')) (by show w.heap.size ≠ w.heap.size + 1 + 1; omega)).below hb (by have := Z1.out; simp only [setCell_hs]; omega))
  have bR := ((HR.out.other (p := ⟨w.heap.size + 1 + 1, 0, none⟩) (v := (.slice p0' e.1.length c0')) (by show w.heap.size + 1 ≠ w.heap.size + 1 + 1; omega)).below hb (by have := Z1.out; simp only [setCell_hs]; omega))
  have bO := ((HO.out.same (j := 0) (v := (.slice p0' e.1.length c0')) (cs' := #[.slice p0' e.1.length c0', .slice none 0 0]) rfl).below hb (by have := Z1.out; simp only [setCell_hs]; omega))
  have B2 : Below w.heap.size w w2 := hp.trans (hb.mono hp.size)
  simp only [setCell_hs] at rgB
  have k01 : KeepOn fA w1 w2 := fun a ha => by
    have h := GA.out a ha
    exact (hb.block a (by simp only [setCell_hs]; exact h.2)).trans (Below.heap_setCell _ _ _ _ (by show a ≠ w.heap.size + 1 + 1; omega))
  have T0 : Hid (ORows w2 73 6 (OEx w2 d) (.slice p0' e.1.length c0') e.1 fA) := by have h := T0.out; exact h.keep k01 (fun cs x f _ hs h => h.keep (k01.sub hs))
  have T1 : Hid (ORows w2 73 6 (OEx w2 d) u e.2 fB) := r1
  have sz2 : w1.heap.size ≤ w2.heap.size := by have := hb.size; simp only [setCell_hs] at this; exact this
  have HND : Hid ((fA ++ fB).Nodup) := by
    show List.Nodup _
    rw [List.nodup_append]
    exact ⟨NA.out, ndB, fun a ha b hb => by have := GA.out a ha; have := rgB b hb; omega⟩
  have HRG : Hid (∀ a ∈ fA ++ fB, w.heap.size + 1 + 1 + 1 ≤ a ∧ a < w2.heap.size) := fun a ha => by
    rcases List.mem_append.1 ha with ha | ha
    · have := GA.out a ha; omega
    · have := rgB a ha; have := Z1.out; omega
  have HB2 : Hid (Below w.heap.size w w2) := B2
  obtain ⟨p1', c1', hu, _⟩ := r1.shape
  subst hu
  clear hp hb r1 HA HR HO HB1 k01 ndB rgB NA GA sz2 B2
  have o0 := bO.cell 0 _ rfl
  have q0 := bR.cell 0 _ rfl
  have k0 := bR.frozen 0
  have o1 := bO.cell 1 _ rfl
  have q1 := bR.cell 1 _ rfl
  have k1 := bR.frozen 1
  have g1 := bO.frozen 1
  clear bA bR bO
  go_wp2_with fail
  have sf : SameOn (fun g => w.heap.size + 1 + 1 + 1 ≤ g) w2 (((w2.setCell ⟨w.heap.size + 1 + 1, 1, none⟩ (.slice p1' e.2.length c1')).setCell ⟨w.heap.size + 1, 0, none⟩ (.slice p0' e.1.length c0')).setCell ⟨w.heap.size + 1, 1, none⟩ (.slice p1' e.2.length c1')) := SameOn.setCell (SameOn.setCell (SameOn.setCell (SameOn.of_below (Below.refl _ _)) (by show ¬ (_ ≤ w.heap.size + 1 + 1); omega) _) (by show ¬ (_ ≤ w.heap.size + 1); omega) _) (by show ¬ (_ ≤ w.heap.size + 1); omega) _
  have bf : Below w.heap.size w (((w2.setCell ⟨w.heap.size + 1 + 1, 1, none⟩ (.slice p1' e.2.length c1')).setCell ⟨w.heap.size + 1, 0, none⟩ (.slice p0' e.1.length c0')).setCell ⟨w.heap.size + 1, 1, none⟩ (.slice p1' e.2.length c1')) := Below.setCell (Below.setCell (Below.setCell (HB2.out) (by show _ ≤ w.heap.size + 1 + 1; omega) _) (by show _ ≤ w.heap.size + 1; omega) _) (by show _ ≤ w.heap.size + 1; omega) _
  have kf : KeepOn (fA ++ fB) w2 (((w2.setCell ⟨w.heap.size + 1 + 1, 1, none⟩ (.slice p1' e.2.length c1')).setCell ⟨w.heap.size + 1, 0, none⟩ (.slice p0' e.1.length c0')).setCell ⟨w.heap.size + 1, 1, none⟩ (.slice p1' e.2.length c1')) := fun a ha => sf.2 a (HRG.out a ha).1 (HRG.out a ha).2
  have kA := kf.sub (fp' := fA) (fun a ha => by simp [ha])
  have kB := kf.sub (fp' := fB) (fun a ha => by simp [ha])
  have U0 := T0.out.keep kA (fun cs x f _ hs h => h.keep (kA.sub hs))
  have U1 := T1.out.keep kB (fun cs x f _ hs h => h.keep (kB.sub hs))
  exact bodyPost_ret (v := .agg #[.slice p0' e.1.length c0', .slice p1' e.2.length c1']) (by simp [results, Tryz.results90, go_sem, q0, q1]) rfl
    ⟨_, fA ++ fB, rfl, ⟨_, rfl, _, _, fA, fB, rfl, rfl, U0, U1⟩, HND.out, fun a ha => ⟨by have := (HRG.out a ha).1; omega, Nat.lt_of_lt_of_le (HRG.out a ha).2 sf.1⟩, bf⟩

set_option maxHeartbeats 4000000 in
theorem toExp_ofO {d : Nat} (h0 : ToO 106 (fun w v es => Rows w All 6 (HEx w All d) v es) (fun w v es fp => ORows w 73 6 (OEx w d) v es fp) (wtS (wtEx d))) (h1 : ToO 74 (fun w v es => Rows w All 2 (HCl w All (HEx w All d)) v es) (fun w v es fp => ORows w 45 2 (OCls w d) v es fp) (wtS (wtCl (wtEx d)))) :
    ToO 117 (fun w v e => ∃ cs, v = .agg cs.toArray ∧ HEx w All (d + 1) cs e) (fun w v e fp => ∃ cs, v = .agg cs.toArray ∧ OEx w (d + 1) cs e fp) (wtEx (d + 1)) := by
  intro w v e i1 hwt
  obtain ⟨cs, rfl, v0, v1, rfl, s0, s1, s2, s3, f0, f1⟩ := i1
  have hw0 : wtS (wtEx d) e.kids ≤ 1048576 := by unfold wtEx at hwt; omega
  have E0 : ∀ w', SameOn All w w' → Rows w' All 6 (HEx w' All d) v0 e.kids := fun w' hw => f0.mono hw (fun _ h => h) (fun _ _ _ => HEx.mono hw (fun _ h => h))
  have hw1 : wtS (wtCl (wtEx d)) e.clauses ≤ 1048576 := by unfold wtEx at hwt; omega
  have E1 : ∀ w', SameOn All w w' → Rows w' All 2 (HCl w' All (HEx w' All d)) v1 e.clauses := fun w' hw => f1.mono hw (fun _ h => h) (fun _ _ _ h => h.mono hw (fun _ h => h) (fun _ _ => HEx.mono hw (fun _ h => h)))
  obtain ⟨p0, c0, rfl, _⟩ := id f0
  obtain ⟨p1, c1, rfl, _⟩ := id f1
  clear f0 f1
  go_enter Tryz.func117, Tryz.ntmps117
  go_wp2_with fail
  have hal : Below w.heap.size w (((w.alloc (.cells #[.int .i64 e.kind, .int .i64 e.n, .string e.text, .string e.mod, .slice p0 e.kids.length c0, .slice p1 e.clauses.length c1] 156)).alloc (.cells #[.int .i64 0, .int .i64 0, .string ⟨#[]⟩, .string ⟨#[]⟩, .slice none 0 0, .slice none 0 0] 73)).alloc (.cells #[.int .i64 e.kind, .int .i64 e.n, .string e.text, .string e.mod, .slice none 0 0, .slice none 0 0] 73)) := (((Below.refl _ _).alloc (Nat.le_refl _) _).alloc (by simp only [alloc_hs]; omega) _).alloc (by simp only [alloc_hs]; omega) _
  refine (h0 _ _ e.kids (E0 _ (SameOn.of_below hal)) hw0).mono ?_
  rintro ex w1 ⟨u, fA, rfl, r0, ndA, rgA, hb⟩
  have bA := ((Blk.new (w := w) (cs := #[.int .i64 e.kind, .int .i64 e.n, .string e.text, .string e.mod, .slice p0 e.kids.length c0, .slice p1 e.clauses.length c1]) (t := 156)).alloc (o := .cells #[.int .i64 0, .int .i64 0, .string ⟨#[]⟩, .string ⟨#[]⟩, .slice none 0 0, .slice none 0 0] 73)).alloc (o := .cells #[.int .i64 e.kind, .int .i64 e.n, .string e.text, .string e.mod, .slice none 0 0, .slice none 0 0] 73)
  have bR := (Blk.new (w := (w.alloc (.cells #[.int .i64 e.kind, .int .i64 e.n, .string e.text, .string e.mod, .slice p0 e.kids.length c0, .slice p1 e.clauses.length c1] 156))) (cs := #[.int .i64 0, .int .i64 0, .string ⟨#[]⟩, .string ⟨#[]⟩, .slice none 0 0, .slice none 0 0]) (t := 73)).alloc (o := .cells #[.int .i64 e.kind, .int .i64 e.n, .string e.text, .string e.mod, .slice none 0 0, .slice none 0 0] 73)
  have bO := (Blk.new (w := ((w.alloc (.cells #[.int .i64 e.kind, .int .i64 e.n, .string e.text, .string e.mod, .slice p0 e.kids.length c0, .slice p1 e.clauses.length c1] 156)).alloc (.cells #[.int .i64 0, .int .i64 0, .string ⟨#[]⟩, .string ⟨#[]⟩, .slice none 0 0, .slice none 0 0] 73))) (cs := #[.int .i64 e.kind, .int .i64 e.n, .string e.text, .string e.mod, .slice none 0 0, .slice none 0 0]) (t := 73))
  simp only [alloc_hs] at bA bR bO rgA
  replace bA := bA.below hb (by simp only [alloc_hs]; omega)
  replace bR := bR.below hb (by simp only [alloc_hs]; omega)
  replace bO := bO.below hb (by simp only [alloc_hs]; omega)
  have B1 : Below w.heap.size w w1 := hal.trans (hb.mono hal.size)
  have z1 : w.heap.size + 3 ≤ w1.heap.size := by have := hb.size; simp only [alloc_hs] at this; omega
  have Z1 : Hid (w.heap.size + 3 ≤ w1.heap.size) := z1
  have T0 : Hid (ORows w1 73 6 (OEx w1 d) u e.kids fA) := r0
  have NA : Hid (fA.Nodup) := ndA
  have GA : Hid (∀ a ∈ fA, w.heap.size + 1 + 1 + 1 ≤ a ∧ a < w1.heap.size) := rgA
  clear hal hb z1 ndA rgA
  obtain ⟨p0', c0', hu, _⟩ := r0.shape
  subst hu
  clear r0
  have a5 := bA.cell 5 _ rfl
  have o4 := bO.cell 4 _ rfl
  have g4 := bO.frozen 4
  have HA : Hid (Blk w1 w.heap.size #[.int .i64 e.kind, .int .i64 e.n, .string e.text, .string e.mod, .slice p0 e.kids.length c0, .slice p1 e.clauses.length c1] 156) := bA
  have HR : Hid (Blk w1 (w.heap.size + 1) #[.int .i64 0, .int .i64 0, .string ⟨#[]⟩, .string ⟨#[]⟩, .slice none 0 0, .slice none 0 0] 73) := bR
  have HO : Hid (Blk w1 (w.heap.size + 1 + 1) #[.int .i64 e.kind, .int .i64 e.n, .string e.text, .string e.mod, .slice none 0 0, .slice none 0 0] 73) := bO
  have HB1 : Hid (Below w.heap.size w w1) := B1
  clear bA bR bO B1
  go_wp2_with fail
  have hp : Below w.heap.size w (w1.setCell ⟨w.heap.size + 1 + 1, 4, none⟩ (.slice p0' e.kids.length c0')) := HB1.out.setCell (by show _ ≤ w.heap.size + 1 + 1; omega) _
  refine (h1 _ _ e.clauses (E1 _ (SameOn.of_below hp)) hw1).mono ?_
  rintro ex w2 ⟨u, fB, rfl, r1, ndB, rgB, hb⟩
  have bA := ((HA.out.other (p := ⟨w.heap.size + 1 + 1, 4, none⟩) (v := (.slice p0' e.kids.length c0')) (by show w.heap.size ≠ w.heap.size + 1 + 1; omega)).below hb (by have := Z1.out; simp only [setCell_hs]; omega))
  have bR := ((HR.out.other (p := ⟨w.heap.size + 1 + 1, 4, none⟩) (v := (.slice p0' e.kids.length c0')) (by show w.heap.size + 1 ≠ w.heap.size + 1 + 1; omega)).below hb (by have := Z1.out; simp only [setCell_hs]; omega))
  have bO := ((HO.out.same (j := 4) (v := (.slice p0' e.kids.length c0')) (cs' := #[.int .i64 e.kind, .int .i64 e.n, .string e.text, .string e.mod, .slice p0' e.kids.length c0', .slice none 0 0]) rfl).below hb (by have := Z1.out; simp only [setCell_hs]; omega))
  have B2 : Below w.heap.size w w2 := hp.trans (hb.mono hp.size)
  simp only [setCell_hs] at rgB
  have k01 : KeepOn fA w1 w2 := fun a ha => by
    have h := GA.out a ha
    exact (hb.block a (by simp only [setCell_hs]; exact h.2)).trans (Below.heap_setCell _ _ _ _ (by show a ≠ w.heap.size + 1 + 1; omega))
  have T0 : Hid (ORows w2 73 6 (OEx w2 d) (.slice p0' e.kids.length c0') e.kids fA) := by have h := T0.out; exact h.keep k01 (fun cs x f _ hs h => h.keep (k01.sub hs))
  have T1 : Hid (ORows w2 45 2 (OCls w2 d) u e.clauses fB) := r1
  have sz2 : w1.heap.size ≤ w2.heap.size := by have := hb.size; simp only [setCell_hs] at this; exact this
  have HND : Hid ((fA ++ fB).Nodup) := by
    show List.Nodup _
    rw [List.nodup_append]
    exact ⟨NA.out, ndB, fun a ha b hb => by have := GA.out a ha; have := rgB b hb; omega⟩
  have HRG : Hid (∀ a ∈ fA ++ fB, w.heap.size + 1 + 1 + 1 ≤ a ∧ a < w2.heap.size) := fun a ha => by
    rcases List.mem_append.1 ha with ha | ha
    · have := GA.out a ha; omega
    · have := rgB a ha; have := Z1.out; omega
  have HB2 : Hid (Below w.heap.size w w2) := B2
  obtain ⟨p1', c1', hu, _⟩ := r1.shape
  subst hu
  clear hp hb r1 HA HR HO HB1 k01 ndB rgB NA GA sz2 B2
  have o0 := bO.cell 0 _ rfl
  have q0 := bR.cell 0 _ rfl
  have k0 := bR.frozen 0
  have o1 := bO.cell 1 _ rfl
  have q1 := bR.cell 1 _ rfl
  have k1 := bR.frozen 1
  have o2 := bO.cell 2 _ rfl
  have q2 := bR.cell 2 _ rfl
  have k2 := bR.frozen 2
  have o3 := bO.cell 3 _ rfl
  have q3 := bR.cell 3 _ rfl
  have k3 := bR.frozen 3
  have o4 := bO.cell 4 _ rfl
  have q4 := bR.cell 4 _ rfl
  have k4 := bR.frozen 4
  have o5 := bO.cell 5 _ rfl
  have q5 := bR.cell 5 _ rfl
  have k5 := bR.frozen 5
  have g5 := bO.frozen 5
  clear bA bR bO
  go_wp2_with fail
  have sf : SameOn (fun g => w.heap.size + 1 + 1 + 1 ≤ g) w2 (((((((w2.setCell ⟨w.heap.size + 1 + 1, 5, none⟩ (.slice p1' e.clauses.length c1')).setCell ⟨w.heap.size + 1, 0, none⟩ (.int .i64 e.kind)).setCell ⟨w.heap.size + 1, 1, none⟩ (.int .i64 e.n)).setCell ⟨w.heap.size + 1, 2, none⟩ (.string e.text)).setCell ⟨w.heap.size + 1, 3, none⟩ (.string e.mod)).setCell ⟨w.heap.size + 1, 4, none⟩ (.slice p0' e.kids.length c0')).setCell ⟨w.heap.size + 1, 5, none⟩ (.slice p1' e.clauses.length c1')) := SameOn.setCell (SameOn.setCell (SameOn.setCell (SameOn.setCell (SameOn.setCell (SameOn.setCell (SameOn.setCell (SameOn.of_below (Below.refl _ _)) (by show ¬ (_ ≤ w.heap.size + 1 + 1); omega) _) (by show ¬ (_ ≤ w.heap.size + 1); omega) _) (by show ¬ (_ ≤ w.heap.size + 1); omega) _) (by show ¬ (_ ≤ w.heap.size + 1); omega) _) (by show ¬ (_ ≤ w.heap.size + 1); omega) _) (by show ¬ (_ ≤ w.heap.size + 1); omega) _) (by show ¬ (_ ≤ w.heap.size + 1); omega) _
  have bf : Below w.heap.size w (((((((w2.setCell ⟨w.heap.size + 1 + 1, 5, none⟩ (.slice p1' e.clauses.length c1')).setCell ⟨w.heap.size + 1, 0, none⟩ (.int .i64 e.kind)).setCell ⟨w.heap.size + 1, 1, none⟩ (.int .i64 e.n)).setCell ⟨w.heap.size + 1, 2, none⟩ (.string e.text)).setCell ⟨w.heap.size + 1, 3, none⟩ (.string e.mod)).setCell ⟨w.heap.size + 1, 4, none⟩ (.slice p0' e.kids.length c0')).setCell ⟨w.heap.size + 1, 5, none⟩ (.slice p1' e.clauses.length c1')) := Below.setCell (Below.setCell (Below.setCell (Below.setCell (Below.setCell (Below.setCell (Below.setCell (HB2.out) (by show _ ≤ w.heap.size + 1 + 1; omega) _) (by show _ ≤ w.heap.size + 1; omega) _) (by show _ ≤ w.heap.size + 1; omega) _) (by show _ ≤ w.heap.size + 1; omega) _) (by show _ ≤ w.heap.size + 1; omega) _) (by show _ ≤ w.heap.size + 1; omega) _) (by show _ ≤ w.heap.size + 1; omega) _
  have kf : KeepOn (fA ++ fB) w2 (((((((w2.setCell ⟨w.heap.size + 1 + 1, 5, none⟩ (.slice p1' e.clauses.length c1')).setCell ⟨w.heap.size + 1, 0, none⟩ (.int .i64 e.kind)).setCell ⟨w.heap.size + 1, 1, none⟩ (.int .i64 e.n)).setCell ⟨w.heap.size + 1, 2, none⟩ (.string e.text)).setCell ⟨w.heap.size + 1, 3, none⟩ (.string e.mod)).setCell ⟨w.heap.size + 1, 4, none⟩ (.slice p0' e.kids.length c0')).setCell ⟨w.heap.size + 1, 5, none⟩ (.slice p1' e.clauses.length c1')) := fun a ha => sf.2 a (HRG.out a ha).1 (HRG.out a ha).2
  have kA := kf.sub (fp' := fA) (fun a ha => by simp [ha])
  have kB := kf.sub (fp' := fB) (fun a ha => by simp [ha])
  have U0 := T0.out.keep kA (fun cs x f _ hs h => h.keep (kA.sub hs))
  have U1 := T1.out.keep kB (fun cs x f _ hs h => OCls.keep h (kB.sub hs))
  exact bodyPost_ret (v := .agg #[.int .i64 e.kind, .int .i64 e.n, .string e.text, .string e.mod, .slice p0' e.kids.length c0', .slice p1' e.clauses.length c1']) (by simp [results, Tryz.results117, go_sem, q0, q1, q2, q3, q4, q5]) rfl
    ⟨_, fA ++ fB, rfl, ⟨_, rfl, _, _, fA, fB, rfl, rfl, s0, s1, s2, s3, U0, U1⟩, HND.out, fun a ha => ⟨by have := (HRG.out a ha).1; omega, Nat.lt_of_lt_of_le (HRG.out a ha).2 sf.1⟩, bf⟩

theorem toExp_own : ∀ d, ToO 117 (fun w v e => ∃ cs, v = .agg cs.toArray ∧ HEx w All d cs e) (fun w v e fp => ∃ cs, v = .agg cs.toArray ∧ OEx w d cs e fp) (wtEx d)
  | 0 => fun w v x ⟨_, _, h⟩ _ => h.elim
  | d + 1 => toExp_ofO (toExpS_ofO (toExp_own d)) (toClauseS_ofO (toClause_ofO (toExpS_ofO (toExp_own d)) (toExpS_ofO (toExp_own d))))
theorem toClause_own (d : Nat) : ToO 90 (fun w v e => ∃ cs, v = .agg cs.toArray ∧ HCl w All (HEx w All d) cs e) (fun w v e fp => ∃ cs, v = .agg cs.toArray ∧ OCl w (OEx w d) cs e fp) (wtCl (wtEx d)) :=
  toClause_ofO (toExpS_ofO (toExp_own d)) (toExpS_ofO (toExp_own d))
theorem toExpS_own (d : Nat) : ToO 106 (fun w v es => Rows w All 6 (HEx w All d) v es) (fun w v es fp => ORows w 73 6 (OEx w d) v es fp) (wtS (wtEx d)) := toExpS_ofO (toExp_own d)
theorem toClauseS_own (d : Nat) : ToO 74 (fun w v es => Rows w All 2 (HCl w All (HEx w All d)) v es) (fun w v es fp => ORows w 45 2 (OCl w (OEx w d)) v es fp) (wtS (wtCl (wtEx d))) := toClauseS_ofO (toClause_own d)
end Go.Proofs.YtoknolophmhlgaaGreatDoor
