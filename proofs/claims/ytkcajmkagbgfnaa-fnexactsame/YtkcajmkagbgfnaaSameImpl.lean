/-
  The program's Same and what it calls: it tells whether two trees in memory are one.
-/
import Derived.Test.YtkcajmkagbgfnaaSameSpec
import Derived.Test.YtkcajmkagbgfnaaCopy
namespace Go.Proofs.Ytkcajmkagbgfnaa
open Go.ChangeShapes Go.WideShapes Go.ChangeAt Go.RowKit
set_option linter.unusedVariables false

/-- A function of two values and of a function. -/
def CmpF {α : Type} (F G : FuncId) (H : World → Value → α → Prop) : Prop :=
  ∀ (w : World) (v1 v2 : Value) (x y : α), H w v1 x → H w v2 y → Calls Try.prog F #[v1, v2, .func (.func G) #[] #[]] w fun e w' => e = .returned (.bool (sameB x y)) ∧ Below w.heap.size w w'

set_option maxHeartbeats 4000000 in
theorem eqfExp_of {d : Nat} (hE : CmpC 96 (fun w v e => ∃ cs, v = .agg cs.toArray ∧ HEx w All d cs e)) :
    CmpF 95 96 (fun w v es => Rows w All 6 (HEx w All d) v es) := by
  intro w v1 v2 es fs h1 h2
  obtain ⟨p, cap, rfl, hcl, hcm, hx⟩ := h1
  obtain ⟨q, cap', rfl, hcl', hcm', hy⟩ := h2
  by_cases hlen : es.length = fs.length
  · generalize hm : fs.length = m at *
    have HM : Hid (fs.length = m) := hm
    generalize hn : es.length = n at *
    have HN : Hid (es.length = n) := hn
    clear hm hn
    subst hlen
    have HX : Hid (es ≠ [] → ∃ g off, p = some ⟨g, off, none⟩ ∧ All g ∧ g < w.heap.size ∧ ∀ i x, es[i]? = some x → ∃ cs, cs.length = 6 ∧ (∀ j, j < 6 → w.cell? ⟨g, off + i * 6 + j, none⟩ = cs[j]?) ∧ HEx w All d cs x) := hx
    have HY : Hid (fs ≠ [] → ∃ g off, q = some ⟨g, off, none⟩ ∧ All g ∧ g < w.heap.size ∧ ∀ i x, fs[i]? = some x → ∃ cs, cs.length = 6 ∧ (∀ j, j < 6 → w.cell? ⟨g, off + i * 6 + j, none⟩ = cs[j]?) ∧ HEx w All d cs x) := hy
    have hnb : n ≤ 9223372036854775807 := by unfold maxLen at hcm; omega
    clear hx hy
    go_enter Try.func95, Try.ntmps95
    go_wp2
    go_loopw [17] (fun iv wr => ∃ k : Nat, k ≤ n ∧ iv = .int .i64 k ∧ Hid (es.take k = fs.take k) ∧ Below w.heap.size w wr) (fun iv _ => n - (intOf iv).toNat)
    case atStart => exact ⟨0, Nat.zero_le _, rfl, rfl, Below.refl _ _⟩
    case round =>
      obtain ⟨k, hk, rfl, hsame, hb⟩ := hrel
      have HB : Hid (Below w.heap.size w wr) := hb
      by_cases hlt : k < n
      · obtain ⟨x, hxk⟩ : ∃ x, es[k]? = some x := ⟨es[k]'(by rw [HN.out]; exact hlt), List.getElem?_eq_getElem _⟩
        obtain ⟨y, hyk⟩ : ∃ y, fs[k]? = some y := ⟨fs[k]'(by rw [HM.out]; exact hlt), List.getElem?_eq_getElem _⟩
        obtain ⟨g, off, rfl, _, hgl, hat⟩ := HX.out (by intro h; rw [h] at hxk; simp at hxk)
        obtain ⟨g', off', rfl, _, hgl', hat'⟩ := HY.out (by intro h; rw [h] at hyk; simp at hyk)
        obtain ⟨cs, hcl6, hcs, hex⟩ := hat k x hxk
        obtain ⟨cs', hcl6', hcs', hex'⟩ := hat' k y hyk
        have E1 : ∀ w', SameOn All wr w' → HEx w' All d cs x := fun w' hw => hex.mono (SameOn.trans (SameOn.of_below hb) hw) (fun _ h => h)
        have E2 : ∀ w', SameOn All wr w' → HEx w' All d cs' y := fun w' hw => hex'.mono (SameOn.trans (SameOn.of_below hb) hw) (fun _ h => h)
        obtain ⟨c0, c1, c2, c3, c4, c5, rfl⟩ := len6 hcl6
        obtain ⟨d0, d1, d2, d3, d4, d5, rfl⟩ := len6 hcl6'
        have a0 := hcs 0 (by omega)
        have b0 := hcs' 0 (by omega)
        have a1 := hcs 1 (by omega)
        have b1 := hcs' 1 (by omega)
        have a2 := hcs 2 (by omega)
        have b2 := hcs' 2 (by omega)
        have a3 := hcs 3 (by omega)
        have b3 := hcs' 3 (by omega)
        have a4 := hcs 4 (by omega)
        have b4 := hcs' 4 (by omega)
        have a5 := hcs 5 (by omega)
        have b5 := hcs' 5 (by omega)
        rw [← hb.cell (p := ⟨g, _, none⟩) hgl] at a0 a1 a2 a3 a4 a5
        rw [← hb.cell (p := ⟨g', _, none⟩) hgl'] at b0 b1 b2 b3 b4 b5
        simp at a0 a1 a2 a3 a4 a5 b0 b1 b2 b3 b4 b5
        clear hb hcs hat hex hcl6 hcs' hat' hex' hcl6'
        have hki : (k : Int) < (n : Int) := by omega
        have hk0 : (0 : Int) ≤ (k : Int) := by omega
        obtain ⟨sk, sn, st, se, p1, n1, q1, p2, n2, q2, hsh⟩ := (E1 wr ⟨Nat.le_refl _, fun _ _ _ => rfl⟩).shape
        cases hsh
        obtain ⟨sk', sn', st', se', p1', n1', q1', p2', n2', q2', hsh⟩ := (E2 wr ⟨Nat.le_refl _, fun _ _ _ => rfl⟩).shape
        cases hsh
        have hgw : g < wr.heap.size := Nat.lt_of_lt_of_le hgl HB.out.size
        have hgw' : g' < wr.heap.size := Nat.lt_of_lt_of_le hgl' HB.out.size
        have hal : Below wr.heap.size wr ((wr.alloc (.cells #[.int .i64 sk, .int .i64 sn, .string st, .string se, .slice p1 n1 q1, .slice p2 n2 q2] 58)).alloc (.cells #[.int .i64 sk', .int .i64 sn', .string st', .string se', .slice p1' n1' q1', .slice p2' n2' q2'] 58)) := ((Below.refl _ _).alloc (Nat.le_refl _) _).alloc (by simp) _
        have HA : Hid (Below wr.heap.size wr ((wr.alloc (.cells #[.int .i64 sk, .int .i64 sn, .string st, .string se, .slice p1 n1 q1, .slice p2 n2 q2] 58)).alloc (.cells #[.int .i64 sk', .int .i64 sn', .string st', .string se', .slice p1' n1' q1', .slice p2' n2' q2'] 58))) := hal
        clear hal
        by_cases hxy : x = y
        · have hs : sameB x y = true := sameB_true hxy
          go_wp2_with (first | (go_at_call 96; refine (hE _ _ _ x y ⟨_, rfl, E1 _ (SameOn.of_below HA.out)⟩ ⟨_, rfl, E2 _ (SameOn.of_below HA.out)⟩).mono ?_; rintro e w1 ⟨rfl, hb1⟩; rw [hs]; have HB1 : Hid _ := hb1; clear hb1))
          have hbe : Below w.heap.size w w1 := (HB.out.trans (HA.out.mono HB.out.size)).trans (HB1.out.mono (HB.out.trans (HA.out.mono HB.out.size)).size)
          exact ⟨⟨k + 1, by omega, by go_num, take_succ_same hsame.out hxk (hxy ▸ hyk), hbe⟩, by simp [intOf]; omega⟩
        · have hs : sameB x y = false := sameB_false hxy
          have HS : Hid (sameB es fs = false) := sameB_false (ne_at hxk hyk hxy)
          go_wp2_with (first | (go_at_call 96; refine (hE _ _ _ x y ⟨_, rfl, E1 _ (SameOn.of_below HA.out)⟩ ⟨_, rfl, E2 _ (SameOn.of_below HA.out)⟩).mono ?_; rintro e w1 ⟨rfl, hb1⟩; rw [hs]; have HB1 : Hid _ := hb1; clear hb1))
          go_ret
          have hbe : Below w.heap.size w w1 := (HB.out.trans (HA.out.mono HB.out.size)).trans (HB1.out.mono (HB.out.trans (HA.out.mono HB.out.size)).size)
          exact ⟨by rw [HS.out]; rfl, hbe⟩
      · have hs : sameB es fs = true := sameB_true (take_all_same hsame.out (by rw [HN.out]; omega) (by rw [HM.out]; omega))
        have HS : Hid (sameB es fs = true) := hs
        clear hs
        go_wp2
        go_ret
        exact ⟨by rw [HS.out]; rfl, HB.out⟩
  · have hs : sameB es fs = false := sameB_false (fun h => hlen (by rw [h]))
    have HS : Hid (sameB es fs = false) := hs
    have hnb : es.length ≤ 9223372036854775807 := by unfold maxLen at hcm; omega
    have hnb' : fs.length ≤ 9223372036854775807 := by unfold maxLen at hcm'; omega
    clear hs hx hy
    generalize fs.length = m at *
    generalize es.length = n at *
    go_enter Try.func95, Try.ntmps95
    go_wp2
    go_ret
    exact ⟨by rw [HS.out]; rfl, Below.refl _ _⟩

set_option maxHeartbeats 4000000 in
theorem eqfClause_of {d : Nat} (hE : CmpC 78 (fun w v e => ∃ cs, v = .agg cs.toArray ∧ HCl w All (HEx w All d) cs e)) :
    CmpF 77 78 (fun w v es => Rows w All 2 (HCl w All (HEx w All d)) v es) := by
  intro w v1 v2 es fs h1 h2
  obtain ⟨p, cap, rfl, hcl, hcm, hx⟩ := h1
  obtain ⟨q, cap', rfl, hcl', hcm', hy⟩ := h2
  by_cases hlen : es.length = fs.length
  · generalize hm : fs.length = m at *
    have HM : Hid (fs.length = m) := hm
    generalize hn : es.length = n at *
    have HN : Hid (es.length = n) := hn
    clear hm hn
    subst hlen
    have HX : Hid (es ≠ [] → ∃ g off, p = some ⟨g, off, none⟩ ∧ All g ∧ g < w.heap.size ∧ ∀ i x, es[i]? = some x → ∃ cs, cs.length = 2 ∧ (∀ j, j < 2 → w.cell? ⟨g, off + i * 2 + j, none⟩ = cs[j]?) ∧ HCl w All (HEx w All d) cs x) := hx
    have HY : Hid (fs ≠ [] → ∃ g off, q = some ⟨g, off, none⟩ ∧ All g ∧ g < w.heap.size ∧ ∀ i x, fs[i]? = some x → ∃ cs, cs.length = 2 ∧ (∀ j, j < 2 → w.cell? ⟨g, off + i * 2 + j, none⟩ = cs[j]?) ∧ HCl w All (HEx w All d) cs x) := hy
    have hnb : n ≤ 9223372036854775807 := by unfold maxLen at hcm; omega
    clear hx hy
    go_enter Try.func77, Try.ntmps77
    go_wp2
    go_loopw [17] (fun iv wr => ∃ k : Nat, k ≤ n ∧ iv = .int .i64 k ∧ Hid (es.take k = fs.take k) ∧ Below w.heap.size w wr) (fun iv _ => n - (intOf iv).toNat)
    case atStart => exact ⟨0, Nat.zero_le _, rfl, rfl, Below.refl _ _⟩
    case round =>
      obtain ⟨k, hk, rfl, hsame, hb⟩ := hrel
      have HB : Hid (Below w.heap.size w wr) := hb
      by_cases hlt : k < n
      · obtain ⟨x, hxk⟩ : ∃ x, es[k]? = some x := ⟨es[k]'(by rw [HN.out]; exact hlt), List.getElem?_eq_getElem _⟩
        obtain ⟨y, hyk⟩ : ∃ y, fs[k]? = some y := ⟨fs[k]'(by rw [HM.out]; exact hlt), List.getElem?_eq_getElem _⟩
        obtain ⟨g, off, rfl, _, hgl, hat⟩ := HX.out (by intro h; rw [h] at hxk; simp at hxk)
        obtain ⟨g', off', rfl, _, hgl', hat'⟩ := HY.out (by intro h; rw [h] at hyk; simp at hyk)
        obtain ⟨cs, hcl6, hcs, hex⟩ := hat k x hxk
        obtain ⟨cs', hcl6', hcs', hex'⟩ := hat' k y hyk
        have E1 : ∀ w', SameOn All wr w' → HCl w' All (HEx w' All d) cs x := fun w' hw => hex.mono (SameOn.trans (SameOn.of_below hb) hw) (fun _ h => h) (fun _ _ => HEx.mono (SameOn.trans (SameOn.of_below hb) hw) (fun _ h => h))
        have E2 : ∀ w', SameOn All wr w' → HCl w' All (HEx w' All d) cs' y := fun w' hw => hex'.mono (SameOn.trans (SameOn.of_below hb) hw) (fun _ h => h) (fun _ _ => HEx.mono (SameOn.trans (SameOn.of_below hb) hw) (fun _ h => h))
        obtain ⟨c0, c1, rfl⟩ := len2 hcl6
        obtain ⟨d0, d1, rfl⟩ := len2 hcl6'
        have a0 := hcs 0 (by omega)
        have b0 := hcs' 0 (by omega)
        have a1 := hcs 1 (by omega)
        have b1 := hcs' 1 (by omega)
        rw [← hb.cell (p := ⟨g, _, none⟩) hgl] at a0 a1
        rw [← hb.cell (p := ⟨g', _, none⟩) hgl'] at b0 b1
        simp at a0 a1 b0 b1
        clear hb hcs hat hex hcl6 hcs' hat' hex' hcl6'
        have hki : (k : Int) < (n : Int) := by omega
        have hk0 : (0 : Int) ≤ (k : Int) := by omega
        obtain ⟨p1, n1, q1, p2, n2, q2, hsh⟩ := (E1 wr ⟨Nat.le_refl _, fun _ _ _ => rfl⟩).shape
        cases hsh
        obtain ⟨p1', n1', q1', p2', n2', q2', hsh⟩ := (E2 wr ⟨Nat.le_refl _, fun _ _ _ => rfl⟩).shape
        cases hsh
        have hgw : g < wr.heap.size := Nat.lt_of_lt_of_le hgl HB.out.size
        have hgw' : g' < wr.heap.size := Nat.lt_of_lt_of_le hgl' HB.out.size
        have hal : Below wr.heap.size wr ((wr.alloc (.cells #[.slice p1 n1 q1, .slice p2 n2 q2] 114)).alloc (.cells #[.slice p1' n1' q1', .slice p2' n2' q2'] 114)) := ((Below.refl _ _).alloc (Nat.le_refl _) _).alloc (by simp) _
        have HA : Hid (Below wr.heap.size wr ((wr.alloc (.cells #[.slice p1 n1 q1, .slice p2 n2 q2] 114)).alloc (.cells #[.slice p1' n1' q1', .slice p2' n2' q2'] 114))) := hal
        clear hal
        by_cases hxy : x = y
        · have hs : sameB x y = true := sameB_true hxy
          go_wp2_with (first | (go_at_call 78; refine (hE _ _ _ x y ⟨_, rfl, E1 _ (SameOn.of_below HA.out)⟩ ⟨_, rfl, E2 _ (SameOn.of_below HA.out)⟩).mono ?_; rintro e w1 ⟨rfl, hb1⟩; rw [hs]; have HB1 : Hid _ := hb1; clear hb1))
          have hbe : Below w.heap.size w w1 := (HB.out.trans (HA.out.mono HB.out.size)).trans (HB1.out.mono (HB.out.trans (HA.out.mono HB.out.size)).size)
          exact ⟨⟨k + 1, by omega, by go_num, take_succ_same hsame.out hxk (hxy ▸ hyk), hbe⟩, by simp [intOf]; omega⟩
        · have hs : sameB x y = false := sameB_false hxy
          have HS : Hid (sameB es fs = false) := sameB_false (ne_at hxk hyk hxy)
          go_wp2_with (first | (go_at_call 78; refine (hE _ _ _ x y ⟨_, rfl, E1 _ (SameOn.of_below HA.out)⟩ ⟨_, rfl, E2 _ (SameOn.of_below HA.out)⟩).mono ?_; rintro e w1 ⟨rfl, hb1⟩; rw [hs]; have HB1 : Hid _ := hb1; clear hb1))
          go_ret
          have hbe : Below w.heap.size w w1 := (HB.out.trans (HA.out.mono HB.out.size)).trans (HB1.out.mono (HB.out.trans (HA.out.mono HB.out.size)).size)
          exact ⟨by rw [HS.out]; rfl, hbe⟩
      · have hs : sameB es fs = true := sameB_true (take_all_same hsame.out (by rw [HN.out]; omega) (by rw [HM.out]; omega))
        have HS : Hid (sameB es fs = true) := hs
        clear hs
        go_wp2
        go_ret
        exact ⟨by rw [HS.out]; rfl, HB.out⟩
  · have hs : sameB es fs = false := sameB_false (fun h => hlen (by rw [h]))
    have HS : Hid (sameB es fs = false) := hs
    have hnb : es.length ≤ 9223372036854775807 := by unfold maxLen at hcm; omega
    have hnb' : fs.length ≤ 9223372036854775807 := by unfold maxLen at hcm'; omega
    clear hs hx hy
    generalize fs.length = m at *
    generalize es.length = n at *
    go_enter Try.func77, Try.ntmps77
    go_wp2
    go_ret
    exact ⟨by rw [HS.out]; rfl, Below.refl _ _⟩

set_option maxHeartbeats 4000000 in
theorem eqfFun_of {d : Nat} (hE : CmpC 39 (fun w v e => ∃ cs, v = .agg cs.toArray ∧ HFn w All d cs e)) :
    CmpF 38 39 (fun w v es => Rows w All 3 (HFn w All d) v es) := by
  intro w v1 v2 es fs h1 h2
  obtain ⟨p, cap, rfl, hcl, hcm, hx⟩ := h1
  obtain ⟨q, cap', rfl, hcl', hcm', hy⟩ := h2
  by_cases hlen : es.length = fs.length
  · generalize hm : fs.length = m at *
    have HM : Hid (fs.length = m) := hm
    generalize hn : es.length = n at *
    have HN : Hid (es.length = n) := hn
    clear hm hn
    subst hlen
    have HX : Hid (es ≠ [] → ∃ g off, p = some ⟨g, off, none⟩ ∧ All g ∧ g < w.heap.size ∧ ∀ i x, es[i]? = some x → ∃ cs, cs.length = 3 ∧ (∀ j, j < 3 → w.cell? ⟨g, off + i * 3 + j, none⟩ = cs[j]?) ∧ HFn w All d cs x) := hx
    have HY : Hid (fs ≠ [] → ∃ g off, q = some ⟨g, off, none⟩ ∧ All g ∧ g < w.heap.size ∧ ∀ i x, fs[i]? = some x → ∃ cs, cs.length = 3 ∧ (∀ j, j < 3 → w.cell? ⟨g, off + i * 3 + j, none⟩ = cs[j]?) ∧ HFn w All d cs x) := hy
    have hnb : n ≤ 9223372036854775807 := by unfold maxLen at hcm; omega
    clear hx hy
    go_enter Try.func38, Try.ntmps38
    go_wp2
    go_loopw [17] (fun iv wr => ∃ k : Nat, k ≤ n ∧ iv = .int .i64 k ∧ Hid (es.take k = fs.take k) ∧ Below w.heap.size w wr) (fun iv _ => n - (intOf iv).toNat)
    case atStart => exact ⟨0, Nat.zero_le _, rfl, rfl, Below.refl _ _⟩
    case round =>
      obtain ⟨k, hk, rfl, hsame, hb⟩ := hrel
      have HB : Hid (Below w.heap.size w wr) := hb
      by_cases hlt : k < n
      · obtain ⟨x, hxk⟩ : ∃ x, es[k]? = some x := ⟨es[k]'(by rw [HN.out]; exact hlt), List.getElem?_eq_getElem _⟩
        obtain ⟨y, hyk⟩ : ∃ y, fs[k]? = some y := ⟨fs[k]'(by rw [HM.out]; exact hlt), List.getElem?_eq_getElem _⟩
        obtain ⟨g, off, rfl, _, hgl, hat⟩ := HX.out (by intro h; rw [h] at hxk; simp at hxk)
        obtain ⟨g', off', rfl, _, hgl', hat'⟩ := HY.out (by intro h; rw [h] at hyk; simp at hyk)
        obtain ⟨cs, hcl6, hcs, hex⟩ := hat k x hxk
        obtain ⟨cs', hcl6', hcs', hex'⟩ := hat' k y hyk
        have E1 : ∀ w', SameOn All wr w' → HFn w' All d cs x := fun w' hw => hex.mono (SameOn.trans (SameOn.of_below hb) hw) (fun _ h => h)
        have E2 : ∀ w', SameOn All wr w' → HFn w' All d cs' y := fun w' hw => hex'.mono (SameOn.trans (SameOn.of_below hb) hw) (fun _ h => h)
        obtain ⟨c0, c1, c2, rfl⟩ := len3 hcl6
        obtain ⟨d0, d1, d2, rfl⟩ := len3 hcl6'
        have a0 := hcs 0 (by omega)
        have b0 := hcs' 0 (by omega)
        have a1 := hcs 1 (by omega)
        have b1 := hcs' 1 (by omega)
        have a2 := hcs 2 (by omega)
        have b2 := hcs' 2 (by omega)
        rw [← hb.cell (p := ⟨g, _, none⟩) hgl] at a0 a1 a2
        rw [← hb.cell (p := ⟨g', _, none⟩) hgl'] at b0 b1 b2
        simp at a0 a1 a2 b0 b1 b2
        clear hb hcs hat hex hcl6 hcs' hat' hex' hcl6'
        have hki : (k : Int) < (n : Int) := by omega
        have hk0 : (0 : Int) ≤ (k : Int) := by omega
        obtain ⟨st, sk, p1, n1, q1, hsh⟩ := (E1 wr ⟨Nat.le_refl _, fun _ _ _ => rfl⟩).shape
        cases hsh
        obtain ⟨st', sk', p1', n1', q1', hsh⟩ := (E2 wr ⟨Nat.le_refl _, fun _ _ _ => rfl⟩).shape
        cases hsh
        have hgw : g < wr.heap.size := Nat.lt_of_lt_of_le hgl HB.out.size
        have hgw' : g' < wr.heap.size := Nat.lt_of_lt_of_le hgl' HB.out.size
        have hal : Below wr.heap.size wr ((wr.alloc (.cells #[.string st, .int .i64 sk, .slice p1 n1 q1] 75)).alloc (.cells #[.string st', .int .i64 sk', .slice p1' n1' q1'] 75)) := ((Below.refl _ _).alloc (Nat.le_refl _) _).alloc (by simp) _
        have HA : Hid (Below wr.heap.size wr ((wr.alloc (.cells #[.string st, .int .i64 sk, .slice p1 n1 q1] 75)).alloc (.cells #[.string st', .int .i64 sk', .slice p1' n1' q1'] 75))) := hal
        clear hal
        by_cases hxy : x = y
        · have hs : sameB x y = true := sameB_true hxy
          go_wp2_with (first | (go_at_call 39; refine (hE _ _ _ x y ⟨_, rfl, E1 _ (SameOn.of_below HA.out)⟩ ⟨_, rfl, E2 _ (SameOn.of_below HA.out)⟩).mono ?_; rintro e w1 ⟨rfl, hb1⟩; rw [hs]; have HB1 : Hid _ := hb1; clear hb1))
          have hbe : Below w.heap.size w w1 := (HB.out.trans (HA.out.mono HB.out.size)).trans (HB1.out.mono (HB.out.trans (HA.out.mono HB.out.size)).size)
          exact ⟨⟨k + 1, by omega, by go_num, take_succ_same hsame.out hxk (hxy ▸ hyk), hbe⟩, by simp [intOf]; omega⟩
        · have hs : sameB x y = false := sameB_false hxy
          have HS : Hid (sameB es fs = false) := sameB_false (ne_at hxk hyk hxy)
          go_wp2_with (first | (go_at_call 39; refine (hE _ _ _ x y ⟨_, rfl, E1 _ (SameOn.of_below HA.out)⟩ ⟨_, rfl, E2 _ (SameOn.of_below HA.out)⟩).mono ?_; rintro e w1 ⟨rfl, hb1⟩; rw [hs]; have HB1 : Hid _ := hb1; clear hb1))
          go_ret
          have hbe : Below w.heap.size w w1 := (HB.out.trans (HA.out.mono HB.out.size)).trans (HB1.out.mono (HB.out.trans (HA.out.mono HB.out.size)).size)
          exact ⟨by rw [HS.out]; rfl, hbe⟩
      · have hs : sameB es fs = true := sameB_true (take_all_same hsame.out (by rw [HN.out]; omega) (by rw [HM.out]; omega))
        have HS : Hid (sameB es fs = true) := hs
        clear hs
        go_wp2
        go_ret
        exact ⟨by rw [HS.out]; rfl, HB.out⟩
  · have hs : sameB es fs = false := sameB_false (fun h => hlen (by rw [h]))
    have HS : Hid (sameB es fs = false) := hs
    have hnb : es.length ≤ 9223372036854775807 := by unfold maxLen at hcm; omega
    have hnb' : fs.length ≤ 9223372036854775807 := by unfold maxLen at hcm'; omega
    clear hs hx hy
    generalize fs.length = m at *
    generalize es.length = n at *
    go_enter Try.func38, Try.ntmps38
    go_wp2
    go_ret
    exact ⟨by rw [HS.out]; rfl, Below.refl _ _⟩

set_option maxHeartbeats 4000000 in
theorem sameExp_of {d : Nat} (h0 : CmpF 95 96 (fun w v es => Rows w All 6 (HEx w All d) v es)) (h1 : CmpF 77 78 (fun w v es => Rows w All 2 (HCl w All (HEx w All d)) v es)) :
    CmpC 96 (fun w v e => ∃ cs, v = .agg cs.toArray ∧ HEx w All (d + 1) cs e) := by
  intro w v1 v2 x y i1 i2
  obtain ⟨cs, rfl, kv, cv, rfl, _, _, _, _, f0, f1⟩ := i1
  obtain ⟨cs, rfl, kv', cv', rfl, _, _, _, _, f0', f1'⟩ := i2
  obtain ⟨k, n, t, m, ks, cl⟩ := x
  obtain ⟨k', n', t', m', ks', cl'⟩ := y
  simp only [Ex.kind, Ex.n, Ex.text, Ex.mod, Ex.kids, Ex.clauses] at *
  have g0 : ∀ w', SameOn All w w' → Rows w' All 6 (HEx w' All d) kv ks := fun w' hw => f0.mono hw (fun _ h => h) (fun _ _ _ => HEx.mono hw (fun _ h => h))
  have g1 : ∀ w', SameOn All w w' → Rows w' All 2 (HCl w' All (HEx w' All d)) cv cl := fun w' hw => f1.mono hw (fun _ h => h) (fun _ _ _ h => h.mono hw (fun _ h => h) (fun _ _ => HEx.mono hw (fun _ h => h)))
  have g0' : ∀ w', SameOn All w w' → Rows w' All 6 (HEx w' All d) kv' ks' := fun w' hw => f0'.mono hw (fun _ h => h) (fun _ _ _ => HEx.mono hw (fun _ h => h))
  have g1' : ∀ w', SameOn All w w' → Rows w' All 2 (HCl w' All (HEx w' All d)) cv' cl' := fun w' hw => f1'.mono hw (fun _ h => h) (fun _ _ _ h => h.mono hw (fun _ h => h) (fun _ _ => HEx.mono hw (fun _ h => h)))
  clear f0 f1 f0' f1'
  by_cases hk : k = k'
  · subst hk
    by_cases hn : n = n'
    · subst hn
      by_cases ht : t = t'
      · subst ht
        by_cases hm : m = m'
        · subst hm
          by_cases hks : ks = ks'
          · by_cases hcl : cl = cl'
            · have HS : Hid (sameB (Ex.mk k n t m ks cl) (Ex.mk k n t m ks' cl') = true) := sameB_true (by rw [hks, hcl])
              have hal : Below w.heap.size w ((w.alloc (.cells #[.int .i64 k, .int .i64 n, .string t, .string m, kv, cv] 58)).alloc (.cells #[.int .i64 k, .int .i64 n, .string t, .string m, kv', cv'] 58)) := ((Below.refl _ _).alloc (Nat.le_refl _) _).alloc (by simp) _
              have HA : Hid (Below w.heap.size w ((w.alloc (.cells #[.int .i64 k, .int .i64 n, .string t, .string m, kv, cv] 58)).alloc (.cells #[.int .i64 k, .int .i64 n, .string t, .string m, kv', cv'] 58))) := hal
              clear hal
              have hs1 : sameB cl cl' = true := sameB_true hcl
              have hs0 : sameB ks ks' = true := sameB_true hks
              go_enter Try.func96, Try.ntmps96
              go_wp2_with (first | (go_at_call 77; refine (h1 _ _ _ cl cl' (g1 _ (SameOn.of_below (HA.out.trans (HB0.out.mono HA.out.size)))) (g1' _ (SameOn.of_below (HA.out.trans (HB0.out.mono HA.out.size))))).mono ?_; rintro e w1 ⟨rfl, hb1⟩; rw [hs1]; have HB1 : Hid _ := hb1; clear hb1) | (go_at_call 95; refine (h0 _ _ _ ks ks' (g0 _ (SameOn.of_below HA.out)) (g0' _ (SameOn.of_below HA.out))).mono ?_; rintro e w0 ⟨rfl, hb0⟩; rw [hs0]; have HB0 : Hid _ := hb0; have k0 := (hb0.cell (p := ⟨w.heap.size, 5, none⟩) (by simp only [alloc_hs]; omega)).trans ((World.cell?_of_block (a := ⟨w.heap.size, 5, none⟩) (Below.heap_alloc _ _ _ (by simp))).trans (cell_new _ _ _ 5 cv rfl)); have m0 := (hb0.cell (p := ⟨(w.alloc (.cells #[.int .i64 k, .int .i64 n, .string t, .string m, kv, cv] 58)).heap.size, 5, none⟩) (by simp)).trans (cell_new _ _ _ 5 cv' rfl); simp only [alloc_hs] at m0; clear hb0))
              go_ret
              exact ⟨by rw [HS.out]; first | rfl | simp [*], ((HA.out.trans (HB0.out.mono HA.out.size)).trans (HB1.out.mono (HA.out.trans (HB0.out.mono HA.out.size)).size))⟩
            · have HS : Hid (sameB (Ex.mk k n t m ks cl) (Ex.mk k n t m ks' cl') = false) := sameB_false (fun h => by simp only [Ex.mk.injEq] at h; exact hcl h.2.2.2.2.2)
              have hal : Below w.heap.size w ((w.alloc (.cells #[.int .i64 k, .int .i64 n, .string t, .string m, kv, cv] 58)).alloc (.cells #[.int .i64 k, .int .i64 n, .string t, .string m, kv', cv'] 58)) := ((Below.refl _ _).alloc (Nat.le_refl _) _).alloc (by simp) _
              have HA : Hid (Below w.heap.size w ((w.alloc (.cells #[.int .i64 k, .int .i64 n, .string t, .string m, kv, cv] 58)).alloc (.cells #[.int .i64 k, .int .i64 n, .string t, .string m, kv', cv'] 58))) := hal
              clear hal
              have hs1 : sameB cl cl' = false := sameB_false hcl
              have hs0 : sameB ks ks' = true := sameB_true hks
              go_enter Try.func96, Try.ntmps96
              go_wp2_with (first | (go_at_call 77; refine (h1 _ _ _ cl cl' (g1 _ (SameOn.of_below (HA.out.trans (HB0.out.mono HA.out.size)))) (g1' _ (SameOn.of_below (HA.out.trans (HB0.out.mono HA.out.size))))).mono ?_; rintro e w1 ⟨rfl, hb1⟩; rw [hs1]; have HB1 : Hid _ := hb1; clear hb1) | (go_at_call 95; refine (h0 _ _ _ ks ks' (g0 _ (SameOn.of_below HA.out)) (g0' _ (SameOn.of_below HA.out))).mono ?_; rintro e w0 ⟨rfl, hb0⟩; rw [hs0]; have HB0 : Hid _ := hb0; have k0 := (hb0.cell (p := ⟨w.heap.size, 5, none⟩) (by simp only [alloc_hs]; omega)).trans ((World.cell?_of_block (a := ⟨w.heap.size, 5, none⟩) (Below.heap_alloc _ _ _ (by simp))).trans (cell_new _ _ _ 5 cv rfl)); have m0 := (hb0.cell (p := ⟨(w.alloc (.cells #[.int .i64 k, .int .i64 n, .string t, .string m, kv, cv] 58)).heap.size, 5, none⟩) (by simp)).trans (cell_new _ _ _ 5 cv' rfl); simp only [alloc_hs] at m0; clear hb0))
              go_ret
              exact ⟨by rw [HS.out]; first | rfl | simp [*], ((HA.out.trans (HB0.out.mono HA.out.size)).trans (HB1.out.mono (HA.out.trans (HB0.out.mono HA.out.size)).size))⟩
          · have HS : Hid (sameB (Ex.mk k n t m ks cl) (Ex.mk k n t m ks' cl') = false) := sameB_false (fun h => by simp only [Ex.mk.injEq] at h; exact hks h.2.2.2.2.1)
            have hal : Below w.heap.size w ((w.alloc (.cells #[.int .i64 k, .int .i64 n, .string t, .string m, kv, cv] 58)).alloc (.cells #[.int .i64 k, .int .i64 n, .string t, .string m, kv', cv'] 58)) := ((Below.refl _ _).alloc (Nat.le_refl _) _).alloc (by simp) _
            have HA : Hid (Below w.heap.size w ((w.alloc (.cells #[.int .i64 k, .int .i64 n, .string t, .string m, kv, cv] 58)).alloc (.cells #[.int .i64 k, .int .i64 n, .string t, .string m, kv', cv'] 58))) := hal
            clear hal
            have hs0 : sameB ks ks' = false := sameB_false hks
            go_enter Try.func96, Try.ntmps96
            go_wp2_with (first | (go_at_call 95; refine (h0 _ _ _ ks ks' (g0 _ (SameOn.of_below HA.out)) (g0' _ (SameOn.of_below HA.out))).mono ?_; rintro e w0 ⟨rfl, hb0⟩; rw [hs0]; have HB0 : Hid _ := hb0; have k0 := (hb0.cell (p := ⟨w.heap.size, 5, none⟩) (by simp only [alloc_hs]; omega)).trans ((World.cell?_of_block (a := ⟨w.heap.size, 5, none⟩) (Below.heap_alloc _ _ _ (by simp))).trans (cell_new _ _ _ 5 cv rfl)); have m0 := (hb0.cell (p := ⟨(w.alloc (.cells #[.int .i64 k, .int .i64 n, .string t, .string m, kv, cv] 58)).heap.size, 5, none⟩) (by simp)).trans (cell_new _ _ _ 5 cv' rfl); simp only [alloc_hs] at m0; clear hb0))
            go_ret
            exact ⟨by rw [HS.out]; first | rfl | simp [*], (HA.out.trans (HB0.out.mono HA.out.size))⟩
        · have HS : Hid (sameB (Ex.mk k n t m ks cl) (Ex.mk k n t m' ks' cl') = false) := sameB_false (fun h => by simp only [Ex.mk.injEq] at h; exact hm h.2.2.2.1)
          have hal : Below w.heap.size w ((w.alloc (.cells #[.int .i64 k, .int .i64 n, .string t, .string m, kv, cv] 58)).alloc (.cells #[.int .i64 k, .int .i64 n, .string t, .string m', kv', cv'] 58)) := ((Below.refl _ _).alloc (Nat.le_refl _) _).alloc (by simp) _
          have HA : Hid (Below w.heap.size w ((w.alloc (.cells #[.int .i64 k, .int .i64 n, .string t, .string m, kv, cv] 58)).alloc (.cells #[.int .i64 k, .int .i64 n, .string t, .string m', kv', cv'] 58))) := hal
          clear hal
          have hq1 := str_ne hm
          have hq2 := str_neB hm
          go_enter Try.func96, Try.ntmps96
          go_wp2
          go_ret
          exact ⟨by rw [HS.out]; first | rfl | simp [*], HA.out⟩
      · have HS : Hid (sameB (Ex.mk k n t m ks cl) (Ex.mk k n t' m' ks' cl') = false) := sameB_false (fun h => by simp only [Ex.mk.injEq] at h; exact ht h.2.2.1)
        have hal : Below w.heap.size w ((w.alloc (.cells #[.int .i64 k, .int .i64 n, .string t, .string m, kv, cv] 58)).alloc (.cells #[.int .i64 k, .int .i64 n, .string t', .string m', kv', cv'] 58)) := ((Below.refl _ _).alloc (Nat.le_refl _) _).alloc (by simp) _
        have HA : Hid (Below w.heap.size w ((w.alloc (.cells #[.int .i64 k, .int .i64 n, .string t, .string m, kv, cv] 58)).alloc (.cells #[.int .i64 k, .int .i64 n, .string t', .string m', kv', cv'] 58))) := hal
        clear hal
        have hq1 := str_ne ht
        have hq2 := str_neB ht
        go_enter Try.func96, Try.ntmps96
        go_wp2
        go_ret
        exact ⟨by rw [HS.out]; first | rfl | simp [*], HA.out⟩
    · have HS : Hid (sameB (Ex.mk k n t m ks cl) (Ex.mk k n' t' m' ks' cl') = false) := sameB_false (fun h => by simp only [Ex.mk.injEq] at h; exact hn h.2.1)
      have hal : Below w.heap.size w ((w.alloc (.cells #[.int .i64 k, .int .i64 n, .string t, .string m, kv, cv] 58)).alloc (.cells #[.int .i64 k, .int .i64 n', .string t', .string m', kv', cv'] 58)) := ((Below.refl _ _).alloc (Nat.le_refl _) _).alloc (by simp) _
      have HA : Hid (Below w.heap.size w ((w.alloc (.cells #[.int .i64 k, .int .i64 n, .string t, .string m, kv, cv] 58)).alloc (.cells #[.int .i64 k, .int .i64 n', .string t', .string m', kv', cv'] 58))) := hal
      clear hal
      go_enter Try.func96, Try.ntmps96
      go_wp2
      go_ret
      exact ⟨by rw [HS.out]; first | rfl | simp [*], HA.out⟩
  · have HS : Hid (sameB (Ex.mk k n t m ks cl) (Ex.mk k' n' t' m' ks' cl') = false) := sameB_false (fun h => by simp only [Ex.mk.injEq] at h; exact hk h.1)
    have hal : Below w.heap.size w ((w.alloc (.cells #[.int .i64 k, .int .i64 n, .string t, .string m, kv, cv] 58)).alloc (.cells #[.int .i64 k', .int .i64 n', .string t', .string m', kv', cv'] 58)) := ((Below.refl _ _).alloc (Nat.le_refl _) _).alloc (by simp) _
    have HA : Hid (Below w.heap.size w ((w.alloc (.cells #[.int .i64 k, .int .i64 n, .string t, .string m, kv, cv] 58)).alloc (.cells #[.int .i64 k', .int .i64 n', .string t', .string m', kv', cv'] 58))) := hal
    clear hal
    go_enter Try.func96, Try.ntmps96
    go_wp2
    go_ret
    exact ⟨by rw [HS.out]; first | rfl | simp [*], HA.out⟩

set_option maxHeartbeats 4000000 in
theorem sameClause_of {d : Nat} (h0 : CmpF 95 96 (fun w v es => Rows w All 6 (HEx w All d) v es)) :
    CmpC 78 (fun w v e => ∃ cs, v = .agg cs.toArray ∧ HCl w All (HEx w All d) cs e) := by
  intro w v1 v2 x y i1 i2
  obtain ⟨cs, rfl, kv, cv, rfl, f0, f1⟩ := i1
  obtain ⟨cs, rfl, kv', cv', rfl, f0', f1'⟩ := i2
  have g0 : ∀ w', SameOn All w w' → Rows w' All 6 (HEx w' All d) kv x.1 := fun w' hw => f0.mono hw (fun _ h => h) (fun _ _ _ => HEx.mono hw (fun _ h => h))
  have g1 : ∀ w', SameOn All w w' → Rows w' All 6 (HEx w' All d) cv x.2 := fun w' hw => f1.mono hw (fun _ h => h) (fun _ _ _ => HEx.mono hw (fun _ h => h))
  have g0' : ∀ w', SameOn All w w' → Rows w' All 6 (HEx w' All d) kv' y.1 := fun w' hw => f0'.mono hw (fun _ h => h) (fun _ _ _ => HEx.mono hw (fun _ h => h))
  have g1' : ∀ w', SameOn All w w' → Rows w' All 6 (HEx w' All d) cv' y.2 := fun w' hw => f1'.mono hw (fun _ h => h) (fun _ _ _ => HEx.mono hw (fun _ h => h))
  have hal : Below w.heap.size w ((w.alloc (.cells #[kv, cv] 114)).alloc (.cells #[kv', cv'] 114)) := ((Below.refl _ _).alloc (Nat.le_refl _) _).alloc (by simp) _
  have HA : Hid (Below w.heap.size w ((w.alloc (.cells #[kv, cv] 114)).alloc (.cells #[kv', cv'] 114))) := hal
  clear hal f0 f1 f0' f1'
  by_cases hx0 : x.1 = y.1
  · have hs0 : sameB x.1 y.1 = true := sameB_true hx0
    by_cases hx1 : x.2 = y.2
    · have hs1 : sameB x.2 y.2 = true := sameB_true hx1
      have HS : Hid (sameB x y = true) := sameB_true (Prod.ext hx0 hx1)
      go_enter Try.func78, Try.ntmps78
      go_wp2_with (first | (go_at_call_of 95 cv; have _s := HB0; refine (h0 _ _ _ x.2 y.2 (g1 _ (SameOn.of_below (HA.out.trans (HB0.out.mono HA.out.size)))) (g1' _ (SameOn.of_below (HA.out.trans (HB0.out.mono HA.out.size))))).mono ?_; rintro e w1 ⟨rfl, hb1⟩; rw [hs1]; have HB1 : Hid _ := hb1; clear hb1) | (go_at_call_of 95 kv; refine (h0 _ _ _ x.1 y.1 (g0 _ (SameOn.of_below HA.out)) (g0' _ (SameOn.of_below HA.out))).mono ?_; rintro e w0 ⟨rfl, hb0⟩; rw [hs0]; have HB0 : Hid _ := hb0; have k0 := (hb0.cell (p := ⟨w.heap.size, 1, none⟩) (by simp only [alloc_hs]; omega)).trans ((World.cell?_of_block (a := ⟨w.heap.size, 1, none⟩) (Below.heap_alloc _ _ _ (by simp))).trans (cell_new _ _ _ 1 cv rfl)); have m0 := (hb0.cell (p := ⟨(w.alloc (.cells #[kv, cv] 114)).heap.size, 1, none⟩) (by simp)).trans (cell_new _ _ _ 1 cv' rfl); simp only [alloc_hs] at m0; clear hb0))
      go_ret
      exact ⟨by rw [HS.out]; first | rfl | simp [*], ((HA.out.trans (HB0.out.mono HA.out.size)).trans (HB1.out.mono (HA.out.trans (HB0.out.mono HA.out.size)).size))⟩
    · have hs1 : sameB x.2 y.2 = false := sameB_false hx1
      have HS : Hid (sameB x y = false) := sameB_false (fun h => hx1 (by rw [h]))
      go_enter Try.func78, Try.ntmps78
      go_wp2_with (first | (go_at_call_of 95 cv; have _s := HB0; refine (h0 _ _ _ x.2 y.2 (g1 _ (SameOn.of_below (HA.out.trans (HB0.out.mono HA.out.size)))) (g1' _ (SameOn.of_below (HA.out.trans (HB0.out.mono HA.out.size))))).mono ?_; rintro e w1 ⟨rfl, hb1⟩; rw [hs1]; have HB1 : Hid _ := hb1; clear hb1) | (go_at_call_of 95 kv; refine (h0 _ _ _ x.1 y.1 (g0 _ (SameOn.of_below HA.out)) (g0' _ (SameOn.of_below HA.out))).mono ?_; rintro e w0 ⟨rfl, hb0⟩; rw [hs0]; have HB0 : Hid _ := hb0; have k0 := (hb0.cell (p := ⟨w.heap.size, 1, none⟩) (by simp only [alloc_hs]; omega)).trans ((World.cell?_of_block (a := ⟨w.heap.size, 1, none⟩) (Below.heap_alloc _ _ _ (by simp))).trans (cell_new _ _ _ 1 cv rfl)); have m0 := (hb0.cell (p := ⟨(w.alloc (.cells #[kv, cv] 114)).heap.size, 1, none⟩) (by simp)).trans (cell_new _ _ _ 1 cv' rfl); simp only [alloc_hs] at m0; clear hb0))
      go_ret
      exact ⟨by rw [HS.out]; first | rfl | simp [*], ((HA.out.trans (HB0.out.mono HA.out.size)).trans (HB1.out.mono (HA.out.trans (HB0.out.mono HA.out.size)).size))⟩
  · have hs0 : sameB x.1 y.1 = false := sameB_false hx0
    have hdum := True.intro
    have HS : Hid (sameB x y = false) := sameB_false (fun h => hx0 (by rw [h]))
    go_enter Try.func78, Try.ntmps78
    go_wp2_with (first | (go_at_call_of 95 kv; refine (h0 _ _ _ x.1 y.1 (g0 _ (SameOn.of_below HA.out)) (g0' _ (SameOn.of_below HA.out))).mono ?_; rintro e w0 ⟨rfl, hb0⟩; rw [hs0]; have HB0 : Hid _ := hb0; have k0 := (hb0.cell (p := ⟨w.heap.size, 1, none⟩) (by simp only [alloc_hs]; omega)).trans ((World.cell?_of_block (a := ⟨w.heap.size, 1, none⟩) (Below.heap_alloc _ _ _ (by simp))).trans (cell_new _ _ _ 1 cv rfl)); have m0 := (hb0.cell (p := ⟨(w.alloc (.cells #[kv, cv] 114)).heap.size, 1, none⟩) (by simp)).trans (cell_new _ _ _ 1 cv' rfl); simp only [alloc_hs] at m0; clear hb0))
    go_ret
    exact ⟨by rw [HS.out]; first | rfl | simp [*], (HA.out.trans (HB0.out.mono HA.out.size))⟩

theorem refOf_any (a : ByteArray) (b : Int) (v : Value) (w : World) :
    Calls Try.prog 76 #[.agg #[.string a, .int .i64 b, v]] w fun e w' => e = .returned (.agg #[.string a, .int .i64 b]) ∧ Below w.heap.size w w' := by
  go_enter Try.func76, Try.ntmps76
  go_wp2
  refine bodyPost_ret (v := .agg #[.string a, .int .i64 b]) (by simp [results, Try.results76, go_sem]) rfl ⟨rfl, ?_⟩
  exact ((Below.refl _ _).alloc (Nat.le_refl _) _).alloc (by simp) _

set_option maxHeartbeats 4000000 in
theorem equalRefs_any :
    CmpC 37 (fun w v es => Rows w All 2 HRf v es) := by
  intro w v1 v2 es fs h1 h2
  obtain ⟨p, cap, rfl, hcl, hcm, hx⟩ := h1
  obtain ⟨q, cap', rfl, hcl', hcm', hy⟩ := h2
  by_cases hlen : es.length = fs.length
  · generalize hm : fs.length = m at *
    have HM : Hid (fs.length = m) := hm
    generalize hn : es.length = n at *
    have HN : Hid (es.length = n) := hn
    clear hm hn
    subst hlen
    have HX : Hid (es ≠ [] → ∃ g off, p = some ⟨g, off, none⟩ ∧ All g ∧ g < w.heap.size ∧ ∀ i x, es[i]? = some x → ∃ cs, cs.length = 2 ∧ (∀ j, j < 2 → w.cell? ⟨g, off + i * 2 + j, none⟩ = cs[j]?) ∧ HRf cs x) := hx
    have HY : Hid (fs ≠ [] → ∃ g off, q = some ⟨g, off, none⟩ ∧ All g ∧ g < w.heap.size ∧ ∀ i x, fs[i]? = some x → ∃ cs, cs.length = 2 ∧ (∀ j, j < 2 → w.cell? ⟨g, off + i * 2 + j, none⟩ = cs[j]?) ∧ HRf cs x) := hy
    have hnb : n ≤ 9223372036854775807 := by unfold maxLen at hcm; omega
    clear hx hy
    go_enter Try.func37, Try.ntmps37
    go_wp2
    go_loopw [13] (fun iv wr => ∃ k : Nat, k ≤ n ∧ iv = .int .i64 k ∧ Hid (es.take k = fs.take k) ∧ Below w.heap.size w wr) (fun iv _ => n - (intOf iv).toNat)
    case atStart => exact ⟨0, Nat.zero_le _, rfl, rfl, Below.refl _ _⟩
    case round =>
      obtain ⟨k, hk, rfl, hsame, hb⟩ := hrel
      have HB : Hid (Below w.heap.size w wr) := hb
      by_cases hlt : k < n
      · obtain ⟨x, hxk⟩ : ∃ x, es[k]? = some x := ⟨es[k]'(by rw [HN.out]; exact hlt), List.getElem?_eq_getElem _⟩
        obtain ⟨y, hyk⟩ : ∃ y, fs[k]? = some y := ⟨fs[k]'(by rw [HM.out]; exact hlt), List.getElem?_eq_getElem _⟩
        obtain ⟨g, off, rfl, _, hgl, hat⟩ := HX.out (by intro h; rw [h] at hxk; simp at hxk)
        obtain ⟨g', off', rfl, _, hgl', hat'⟩ := HY.out (by intro h; rw [h] at hyk; simp at hyk)
        obtain ⟨cs, hcl6, hcs, rfl, _⟩ := hat k x hxk
        obtain ⟨cs', hcl6', hcs', rfl, _⟩ := hat' k y hyk
        obtain ⟨nx, ax⟩ := x
        obtain ⟨ny, ay⟩ := y
        have a0 := hcs 0 (by omega)
        have a1 := hcs 1 (by omega)
        have b0 := hcs' 0 (by omega)
        have b1 := hcs' 1 (by omega)
        rw [← hb.cell (p := ⟨g, _, none⟩) hgl] at a0 a1
        rw [← hb.cell (p := ⟨g', _, none⟩) hgl'] at b0 b1
        simp at a0 a1 b0 b1
        clear hb hcs hat hcl6 hcs' hat' hcl6'
        have hki : (k : Int) < (n : Int) := by omega
        have hk0 : (0 : Int) ≤ (k : Int) := by omega
        by_cases hxy : nx = ny ∧ ax = ay
        · obtain ⟨rfl, rfl⟩ := hxy
          go_wp2
          go_quiet (fail)
          go_wp2
          exact ⟨⟨k + 1, by omega, by go_num, take_succ_same hsame.out hxk hyk, ⟨HB.out.os, HB.out.tape, HB.out.output, HB.out.size, HB.out.block⟩⟩, by simp [intOf]; omega⟩
        · have HS : Hid (sameB es fs = false) := sameB_false (ne_at hxk hyk (fun h => hxy (by simpa using h)))
          by_cases hn1 : nx = ny
          · have ha1 : ¬ ax = ay := fun h => hxy ⟨hn1, h⟩
            subst hn1
            go_wp2
            go_quiet (fail)
            go_wp2
            go_ret
            exact ⟨by rw [HS.out]; rfl, ⟨HB.out.os, HB.out.tape, HB.out.output, HB.out.size, HB.out.block⟩⟩
          · have hq1 := str_ne hn1
            have hq2 := str_neB hn1
            go_wp2
            go_quiet (fail)
            go_wp2
            go_ret
            exact ⟨by rw [HS.out]; rfl, ⟨HB.out.os, HB.out.tape, HB.out.output, HB.out.size, HB.out.block⟩⟩
      · have hs : sameB es fs = true := sameB_true (take_all_same hsame.out (by rw [HN.out]; omega) (by rw [HM.out]; omega))
        have HS : Hid (sameB es fs = true) := hs
        clear hs
        go_wp2
        go_ret
        exact ⟨by rw [HS.out]; rfl, HB.out⟩
  · have hs : sameB es fs = false := sameB_false (fun h => hlen (by rw [h]))
    have HS : Hid (sameB es fs = false) := hs
    have hnb : es.length ≤ 9223372036854775807 := by unfold maxLen at hcm; omega
    have hnb' : fs.length ≤ 9223372036854775807 := by unfold maxLen at hcm'; omega
    clear hs hx hy
    generalize fs.length = m at *
    generalize es.length = n at *
    go_enter Try.func37, Try.ntmps37
    go_wp2
    go_ret
    exact ⟨by rw [HS.out]; rfl, Below.refl _ _⟩

set_option maxHeartbeats 4000000 in
theorem sameFun_of {d : Nat} (h0 : CmpF 77 78 (fun w v es => Rows w All 2 (HCl w All (HEx w All d)) v es)) :
    CmpC 39 (fun w v e => ∃ cs, v = .agg cs.toArray ∧ HFn w All d cs e) := by
  intro w v1 v2 x y i1 i2
  obtain ⟨cs, rfl, cv, rfl, _, _, f1⟩ := i1
  obtain ⟨cs, rfl, cv', rfl, _, _, f1'⟩ := i2
  obtain ⟨nx, ax, cx⟩ := x
  obtain ⟨ny, ay, cy⟩ := y
  simp only at *
  have g1 : ∀ w', SameOn All w w' → Rows w' All 2 (HCl w' All (HEx w' All d)) cv cx := fun w' hw => f1.mono hw (fun _ h => h) (fun _ _ _ h => h.mono hw (fun _ h => h) (fun _ _ => HEx.mono hw (fun _ h => h)))
  have g1' : ∀ w', SameOn All w w' → Rows w' All 2 (HCl w' All (HEx w' All d)) cv' cy := fun w' hw => f1'.mono hw (fun _ h => h) (fun _ _ _ h => h.mono hw (fun _ h => h) (fun _ _ => HEx.mono hw (fun _ h => h)))
  clear f1 f1'
  obtain ⟨W2, hW2⟩ : ∃ W2, W2 = (w.alloc (.cells #[.string nx, .int .i64 ax, cv] 75)).alloc (.cells #[.string ny, .int .i64 ay, cv'] 75) := ⟨_, rfl⟩
  have bA : Blk W2 w.heap.size #[.string nx, .int .i64 ax, cv] 75 := by rw [hW2]; exact Blk.new.alloc
  have bB : Blk W2 (w.heap.size + 1) #[.string ny, .int .i64 ay, cv'] 75 := by rw [hW2]; have := Blk.new (w := w.alloc (.cells #[.string nx, .int .i64 ax, cv] 75)) (cs := #[.string ny, .int .i64 ay, cv']) (t := 75); rwa [alloc_hs] at this
  have hal : Below w.heap.size w W2 := by rw [hW2]; exact ((Below.refl _ _).alloc (Nat.le_refl _) _).alloc (by simp) _
  have hz : w.heap.size + 2 ≤ W2.heap.size := by rw [hW2]; simp only [alloc_hs]; omega
  have qa0 : ∀ m : Wd (fun w' => SameOn All W2 w' ∧ Below w.heap.size w w'), m.val.cell? ⟨w.heap.size, 0, none⟩ = some (.string nx) := fun m => (World.cell?_of_block (m.ok.1.2 w.heap.size trivial (by omega))).trans (bA.cell 0 _ rfl)
  have qa1 : ∀ m : Wd (fun w' => SameOn All W2 w' ∧ Below w.heap.size w w'), m.val.cell? ⟨w.heap.size, 1, none⟩ = some (.int .i64 ax) := fun m => (World.cell?_of_block (m.ok.1.2 w.heap.size trivial (by omega))).trans (bA.cell 1 _ rfl)
  have qa2 : ∀ m : Wd (fun w' => SameOn All W2 w' ∧ Below w.heap.size w w'), m.val.cell? ⟨w.heap.size, 2, none⟩ = some (cv) := fun m => (World.cell?_of_block (m.ok.1.2 w.heap.size trivial (by omega))).trans (bA.cell 2 _ rfl)
  have qb0 : ∀ m : Wd (fun w' => SameOn All W2 w' ∧ Below w.heap.size w w'), m.val.cell? ⟨w.heap.size + 1, 0, none⟩ = some (.string ny) := fun m => (World.cell?_of_block (m.ok.1.2 (w.heap.size + 1) trivial (by omega))).trans (bB.cell 0 _ rfl)
  have qb1 : ∀ m : Wd (fun w' => SameOn All W2 w' ∧ Below w.heap.size w w'), m.val.cell? ⟨w.heap.size + 1, 1, none⟩ = some (.int .i64 ay) := fun m => (World.cell?_of_block (m.ok.1.2 (w.heap.size + 1) trivial (by omega))).trans (bB.cell 1 _ rfl)
  have qb2 : ∀ m : Wd (fun w' => SameOn All W2 w' ∧ Below w.heap.size w w'), m.val.cell? ⟨w.heap.size + 1, 2, none⟩ = some (cv') := fun m => (World.cell?_of_block (m.ok.1.2 (w.heap.size + 1) trivial (by omega))).trans (bB.cell 2 _ rfl)
  have HAL : Hid (Below w.heap.size w W2) := hal
  have HW2 : Hid (W2 = (w.alloc (.cells #[.string nx, .int .i64 ax, cv] 75)).alloc (.cells #[.string ny, .int .i64 ay, cv'] 75)) := hW2
  clear bA bB hal hz hW2
  by_cases hn1 : nx = ny
  · have hn2 : (nx.toList == ny.toList) = true := by rw [hn1]; simp
    by_cases ha1 : ax = ay
    · by_cases hc : cx = cy
      · have hs : sameB cx cy = true := sameB_true hc
        have HS : Hid (sameB (Fn'.mk nx ax cx) (Fn'.mk ny ay cy) = true) := sameB_true (by rw [hn1, ha1, hc])
        subst hn1
        subst ha1
        clear hn2
        go_enter Try.func39, Try.ntmps39
        go_wp2_with fail
        rw [← HW2.out]
        have hCne : Nonempty (Wd (fun w' => SameOn All W2 w' ∧ Below w.heap.size w w')) := ⟨⟨W2.drew, ⟨⟨Nat.le_refl _, fun _ _ _ => rfl⟩, HAL.out.drew⟩⟩⟩
        refine wp_region_class (fun w' => SameOn All W2 w' ∧ Below w.heap.size w w') (by kernel_rfl) (by kernel_rfl) ⟨⟨Nat.le_refl _, fun _ _ _ => rfl⟩, HAL.out.drew⟩ ?_
        repeat (go_big_quiet_step (first | (rename_i m; go_at_call 76; refine (refOf_any _ _ _ _).mono ?_; rintro e w1 ⟨rfl, hb1⟩; exact ⟨rfl, ⟨⟨w1, ⟨(SameOn.trans m.ok.1 (SameOn.of_below hb1)), m.ok.2.trans (hb1.mono m.ok.2.size)⟩⟩, rfl⟩⟩) | (rename_i m; go_at_call 77; refine (h0 _ _ _ cx cy (g1 _ ((SameOn.of_below HAL.out).trans m.ok.1)) (g1' _ ((SameOn.of_below HAL.out).trans m.ok.1))).mono ?_; rintro e w1 ⟨rfl, hb1⟩; exact ⟨by rw [hs], ⟨⟨w1, ⟨(SameOn.trans m.ok.1 (SameOn.of_below hb1)), m.ok.2.trans (hb1.mono m.ok.2.size)⟩⟩, rfl⟩⟩)))
        refine wpQuiet_nil ?_
        rintro _ ⟨mq, rfl⟩
        have hbe := mq.ok.2
        generalize mq.val = wq at hbe ⊢
        go_wp2
        go_ret
        exact ⟨by rw [HS.out]; first | rfl | simp [*], hbe⟩
      · have hs : sameB cx cy = false := sameB_false hc
        have HS : Hid (sameB (Fn'.mk nx ax cx) (Fn'.mk ny ay cy) = false) := sameB_false (fun h => hc (by injection h))
        subst hn1
        subst ha1
        clear hn2
        go_enter Try.func39, Try.ntmps39
        go_wp2_with fail
        rw [← HW2.out]
        have hCne : Nonempty (Wd (fun w' => SameOn All W2 w' ∧ Below w.heap.size w w')) := ⟨⟨W2.drew, ⟨⟨Nat.le_refl _, fun _ _ _ => rfl⟩, HAL.out.drew⟩⟩⟩
        refine wp_region_class (fun w' => SameOn All W2 w' ∧ Below w.heap.size w w') (by kernel_rfl) (by kernel_rfl) ⟨⟨Nat.le_refl _, fun _ _ _ => rfl⟩, HAL.out.drew⟩ ?_
        repeat (go_big_quiet_step (first | (rename_i m; go_at_call 76; refine (refOf_any _ _ _ _).mono ?_; rintro e w1 ⟨rfl, hb1⟩; exact ⟨rfl, ⟨⟨w1, ⟨(SameOn.trans m.ok.1 (SameOn.of_below hb1)), m.ok.2.trans (hb1.mono m.ok.2.size)⟩⟩, rfl⟩⟩) | (rename_i m; go_at_call 77; refine (h0 _ _ _ cx cy (g1 _ ((SameOn.of_below HAL.out).trans m.ok.1)) (g1' _ ((SameOn.of_below HAL.out).trans m.ok.1))).mono ?_; rintro e w1 ⟨rfl, hb1⟩; exact ⟨by rw [hs], ⟨⟨w1, ⟨(SameOn.trans m.ok.1 (SameOn.of_below hb1)), m.ok.2.trans (hb1.mono m.ok.2.size)⟩⟩, rfl⟩⟩)))
        refine wpQuiet_nil ?_
        rintro _ ⟨mq, rfl⟩
        have hbe := mq.ok.2
        generalize mq.val = wq at hbe ⊢
        go_wp2
        go_ret
        exact ⟨by rw [HS.out]; first | rfl | simp [*], hbe⟩
    · have hs := True.intro
      have HS : Hid (sameB (Fn'.mk nx ax cx) (Fn'.mk ny ay cy) = false) := sameB_false (fun h => ha1 (by injection h))
      subst hn1
      clear hn2
      go_enter Try.func39, Try.ntmps39
      go_wp2_with fail
      rw [← HW2.out]
      have hCne : Nonempty (Wd (fun w' => SameOn All W2 w' ∧ Below w.heap.size w w')) := ⟨⟨W2.drew, ⟨⟨Nat.le_refl _, fun _ _ _ => rfl⟩, HAL.out.drew⟩⟩⟩
      refine wp_region_class (fun w' => SameOn All W2 w' ∧ Below w.heap.size w w') (by kernel_rfl) (by kernel_rfl) ⟨⟨Nat.le_refl _, fun _ _ _ => rfl⟩, HAL.out.drew⟩ ?_
      repeat (go_big_quiet_step (first | (rename_i m; go_at_call 76; refine (refOf_any _ _ _ _).mono ?_; rintro e w1 ⟨rfl, hb1⟩; exact ⟨rfl, ⟨⟨w1, ⟨(SameOn.trans m.ok.1 (SameOn.of_below hb1)), m.ok.2.trans (hb1.mono m.ok.2.size)⟩⟩, rfl⟩⟩) | (rename_i m; go_at_call 77; refine (h0 _ _ _ cx cy (g1 _ ((SameOn.of_below HAL.out).trans m.ok.1)) (g1' _ ((SameOn.of_below HAL.out).trans m.ok.1))).mono ?_; rintro e w1 ⟨rfl, hb1⟩; exact ⟨by rw [hs], ⟨⟨w1, ⟨(SameOn.trans m.ok.1 (SameOn.of_below hb1)), m.ok.2.trans (hb1.mono m.ok.2.size)⟩⟩, rfl⟩⟩)))
      refine wpQuiet_nil ?_
      rintro _ ⟨mq, rfl⟩
      have hbe := mq.ok.2
      generalize mq.val = wq at hbe ⊢
      go_wp2
      go_ret
      exact ⟨by rw [HS.out]; first | rfl | simp [*], hbe⟩
  · have hs := True.intro
    have hq1 := str_ne hn1
    have hq2 := str_neB hn1
    have HS : Hid (sameB (Fn'.mk nx ax cx) (Fn'.mk ny ay cy) = false) := sameB_false (fun h => hn1 (by injection h))
    go_enter Try.func39, Try.ntmps39
    go_wp2_with fail
    rw [← HW2.out]
    have hCne : Nonempty (Wd (fun w' => SameOn All W2 w' ∧ Below w.heap.size w w')) := ⟨⟨W2.drew, ⟨⟨Nat.le_refl _, fun _ _ _ => rfl⟩, HAL.out.drew⟩⟩⟩
    refine wp_region_class (fun w' => SameOn All W2 w' ∧ Below w.heap.size w w') (by kernel_rfl) (by kernel_rfl) ⟨⟨Nat.le_refl _, fun _ _ _ => rfl⟩, HAL.out.drew⟩ ?_
    repeat (go_big_quiet_step (first | (rename_i m; go_at_call 76; refine (refOf_any _ _ _ _).mono ?_; rintro e w1 ⟨rfl, hb1⟩; exact ⟨rfl, ⟨⟨w1, ⟨(SameOn.trans m.ok.1 (SameOn.of_below hb1)), m.ok.2.trans (hb1.mono m.ok.2.size)⟩⟩, rfl⟩⟩) | (rename_i m; go_at_call 77; refine (h0 _ _ _ cx cy (g1 _ ((SameOn.of_below HAL.out).trans m.ok.1)) (g1' _ ((SameOn.of_below HAL.out).trans m.ok.1))).mono ?_; rintro e w1 ⟨rfl, hb1⟩; exact ⟨by rw [hs], ⟨⟨w1, ⟨(SameOn.trans m.ok.1 (SameOn.of_below hb1)), m.ok.2.trans (hb1.mono m.ok.2.size)⟩⟩, rfl⟩⟩)))
    refine wpQuiet_nil ?_
    rintro _ ⟨mq, rfl⟩
    have hbe := mq.ok.2
    generalize mq.val = wq at hbe ⊢
    go_wp2
    go_ret
    exact ⟨by rw [HS.out]; first | rfl | simp [*], hbe⟩

set_option maxHeartbeats 4000000 in
theorem implSame_of {d : Nat} (h0 : CmpF 38 39 (fun w v es => Rows w All 3 (HFn w All d) v es)) :
    CmpC 10 (fun w v m => ∃ cs, v = .agg cs.toArray ∧ HMd w All d cs m) := by
  intro w v1 v2 x y i1 i2
  obtain ⟨cs, rfl, kv, cv, rfl, _, f0, f1⟩ := i1
  obtain ⟨cs, rfl, kv', cv', rfl, _, f0', f1'⟩ := i2
  obtain ⟨nx, ex, fx⟩ := x
  obtain ⟨ny, ey, fy⟩ := y
  simp only at *
  have g0 : ∀ w', SameOn All w w' → Rows w' All 2 HRf kv ex := fun w' hw => f0.mono hw (fun _ h => h) (fun _ _ _ h => h)
  have g0' : ∀ w', SameOn All w w' → Rows w' All 2 HRf kv' ey := fun w' hw => f0'.mono hw (fun _ h => h) (fun _ _ _ h => h)
  have g1 : ∀ w', SameOn All w w' → Rows w' All 3 (HFn w' All d) cv fx := fun w' hw => f1.mono hw (fun _ h => h) (fun _ _ _ h => h.mono hw (fun _ h => h))
  have g1' : ∀ w', SameOn All w w' → Rows w' All 3 (HFn w' All d) cv' fy := fun w' hw => f1'.mono hw (fun _ h => h) (fun _ _ _ h => h.mono hw (fun _ h => h))
  clear f0 f1 f0' f1'
  by_cases hn1 : nx = ny
  · by_cases he : ex = ey
    · have hs0 : sameB ex ey = true := sameB_true he
      by_cases hf : fx = fy
      · have hs1 : sameB fx fy = true := sameB_true hf
        have HS : Hid (sameB (Md.mk nx ex fx) (Md.mk ny ey fy) = true) := sameB_true (by rw [hn1, he, hf])
        subst hn1
        have hal : Below w.heap.size w ((w.alloc (.cells #[.string nx, kv, cv] 31)).alloc (.cells #[.string nx, kv', cv'] 31)) := ((Below.refl _ _).alloc (Nat.le_refl _) _).alloc (by simp) _
        have HA : Hid (Below w.heap.size w ((w.alloc (.cells #[.string nx, kv, cv] 31)).alloc (.cells #[.string nx, kv', cv'] 31))) := hal
        clear hal
        go_enter Try.func10, Try.ntmps10
        go_wp2_with (first | (go_at_call 38; have _s := HB0; refine (h0 _ _ _ fx fy (g1 _ (SameOn.of_below (HA.out.trans (HB0.out.mono HA.out.size)))) (g1' _ (SameOn.of_below (HA.out.trans (HB0.out.mono HA.out.size))))).mono ?_; rintro e w1 ⟨rfl, hb1⟩; rw [hs1]; have HB1 : Hid _ := hb1; clear hb1) | (go_at_call 37; refine (equalRefs_any _ _ _ ex ey (g0 _ (SameOn.of_below HA.out)) (g0' _ (SameOn.of_below HA.out))).mono ?_; rintro e w0 ⟨rfl, hb0⟩; rw [hs0]; have HB0 : Hid _ := hb0; have k0 := (hb0.cell (p := ⟨w.heap.size, 2, none⟩) (by simp only [alloc_hs]; omega)).trans ((World.cell?_of_block (a := ⟨w.heap.size, 2, none⟩) (Below.heap_alloc _ _ _ (by simp))).trans (cell_new _ _ _ 2 cv rfl)); have m0 := (hb0.cell (p := ⟨(w.alloc (.cells #[.string nx, kv, cv] 31)).heap.size, 2, none⟩) (by simp)).trans (cell_new _ _ _ 2 cv' rfl); simp only [alloc_hs] at m0; clear hb0))
        go_ret
        exact ⟨by rw [HS.out]; first | rfl | simp [*], ((HA.out.trans (HB0.out.mono HA.out.size)).trans (HB1.out.mono (HA.out.trans (HB0.out.mono HA.out.size)).size))⟩
      · have hs1 : sameB fx fy = false := sameB_false hf
        have HS : Hid (sameB (Md.mk nx ex fx) (Md.mk ny ey fy) = false) := sameB_false (fun h => hf (by injection h))
        subst hn1
        have hal : Below w.heap.size w ((w.alloc (.cells #[.string nx, kv, cv] 31)).alloc (.cells #[.string nx, kv', cv'] 31)) := ((Below.refl _ _).alloc (Nat.le_refl _) _).alloc (by simp) _
        have HA : Hid (Below w.heap.size w ((w.alloc (.cells #[.string nx, kv, cv] 31)).alloc (.cells #[.string nx, kv', cv'] 31))) := hal
        clear hal
        go_enter Try.func10, Try.ntmps10
        go_wp2_with (first | (go_at_call 38; have _s := HB0; refine (h0 _ _ _ fx fy (g1 _ (SameOn.of_below (HA.out.trans (HB0.out.mono HA.out.size)))) (g1' _ (SameOn.of_below (HA.out.trans (HB0.out.mono HA.out.size))))).mono ?_; rintro e w1 ⟨rfl, hb1⟩; rw [hs1]; have HB1 : Hid _ := hb1; clear hb1) | (go_at_call 37; refine (equalRefs_any _ _ _ ex ey (g0 _ (SameOn.of_below HA.out)) (g0' _ (SameOn.of_below HA.out))).mono ?_; rintro e w0 ⟨rfl, hb0⟩; rw [hs0]; have HB0 : Hid _ := hb0; have k0 := (hb0.cell (p := ⟨w.heap.size, 2, none⟩) (by simp only [alloc_hs]; omega)).trans ((World.cell?_of_block (a := ⟨w.heap.size, 2, none⟩) (Below.heap_alloc _ _ _ (by simp))).trans (cell_new _ _ _ 2 cv rfl)); have m0 := (hb0.cell (p := ⟨(w.alloc (.cells #[.string nx, kv, cv] 31)).heap.size, 2, none⟩) (by simp)).trans (cell_new _ _ _ 2 cv' rfl); simp only [alloc_hs] at m0; clear hb0))
        go_ret
        exact ⟨by rw [HS.out]; first | rfl | simp [*], ((HA.out.trans (HB0.out.mono HA.out.size)).trans (HB1.out.mono (HA.out.trans (HB0.out.mono HA.out.size)).size))⟩
    · have hs0 : sameB ex ey = false := sameB_false he
      have HS : Hid (sameB (Md.mk nx ex fx) (Md.mk ny ey fy) = false) := sameB_false (fun h => he (by injection h))
      subst hn1
      have hal : Below w.heap.size w ((w.alloc (.cells #[.string nx, kv, cv] 31)).alloc (.cells #[.string nx, kv', cv'] 31)) := ((Below.refl _ _).alloc (Nat.le_refl _) _).alloc (by simp) _
      have HA : Hid (Below w.heap.size w ((w.alloc (.cells #[.string nx, kv, cv] 31)).alloc (.cells #[.string nx, kv', cv'] 31))) := hal
      clear hal
      go_enter Try.func10, Try.ntmps10
      go_wp2_with (first | (go_at_call 37; refine (equalRefs_any _ _ _ ex ey (g0 _ (SameOn.of_below HA.out)) (g0' _ (SameOn.of_below HA.out))).mono ?_; rintro e w0 ⟨rfl, hb0⟩; rw [hs0]; have HB0 : Hid _ := hb0; have k0 := (hb0.cell (p := ⟨w.heap.size, 2, none⟩) (by simp only [alloc_hs]; omega)).trans ((World.cell?_of_block (a := ⟨w.heap.size, 2, none⟩) (Below.heap_alloc _ _ _ (by simp))).trans (cell_new _ _ _ 2 cv rfl)); have m0 := (hb0.cell (p := ⟨(w.alloc (.cells #[.string nx, kv, cv] 31)).heap.size, 2, none⟩) (by simp)).trans (cell_new _ _ _ 2 cv' rfl); simp only [alloc_hs] at m0; clear hb0))
      go_ret
      exact ⟨by rw [HS.out]; first | rfl | simp [*], (HA.out.trans (HB0.out.mono HA.out.size))⟩
  · have hq1 := str_ne hn1
    have hq2 := str_neB hn1
    have HS : Hid (sameB (Md.mk nx ex fx) (Md.mk ny ey fy) = false) := sameB_false (fun h => hn1 (by injection h))
    have hal : Below w.heap.size w ((w.alloc (.cells #[.string nx, kv, cv] 31)).alloc (.cells #[.string ny, kv', cv'] 31)) := ((Below.refl _ _).alloc (Nat.le_refl _) _).alloc (by simp) _
    have HA : Hid (Below w.heap.size w ((w.alloc (.cells #[.string nx, kv, cv] 31)).alloc (.cells #[.string ny, kv', cv'] 31))) := hal
    clear hal
    go_enter Try.func10, Try.ntmps10
    go_wp2
    go_ret
    exact ⟨by rw [HS.out]; first | rfl | simp [*], HA.out⟩

theorem sameExp_all : ∀ d, CmpC 96 (fun w v e => ∃ cs, v = .agg cs.toArray ∧ HEx w All d cs e)
  | 0 => fun w v v' x y ⟨_, _, h⟩ _ => h.elim
  | d + 1 => sameExp_of (eqfExp_of (sameExp_all d)) (eqfClause_of (sameClause_of (eqfExp_of (sameExp_all d))))

/-- THE PROGRAM's Same. -/
theorem implSame_all (d : Nat) : CmpC 10 (fun w v m => ∃ cs, v = .agg cs.toArray ∧ HMd w All d cs m) :=
  implSame_of (eqfFun_of (sameFun_of (eqfClause_of (sameClause_of (eqfExp_of (sameExp_all d))))))
end Go.Proofs.Ytkcajmkagbgfnaa
