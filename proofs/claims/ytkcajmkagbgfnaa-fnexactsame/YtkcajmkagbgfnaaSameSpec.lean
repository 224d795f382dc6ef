/-
  The specification's Same and what it calls: it tells whether two trees in memory are one.
-/
import Derived.Test.YtkcajmkagbgfnaaTree
import Derived.Test.YtkcajmkagbgfnaaProg
import Derived.Deep.QuietTactic
import Derived.BigQuiet
import Derived.Deep.RegionWith
import Derived.WalkSmall
import Derived.Deep.DeepMust
import Derived.Deep.RegionHeld3
namespace Go.Proofs.Ytkcajmkagbgfnaa
open Go.ChangeShapes Go.WideShapes Go.ChangeAt Go.RowKit
set_option linter.unusedVariables false

/-- Whether two trees are one. -/
noncomputable def sameB {α : Type} (x y : α) : Bool := @decide (x = y) (Classical.propDecidable _)
theorem sameB_true {α : Type} {x y : α} (h : x = y) : sameB x y = true := by exact @decide_eq_true _ (Classical.propDecidable _) h
theorem sameB_false {α : Type} {x y : α} (h : x ≠ y) : sameB x y = false := by exact @decide_eq_false _ (Classical.propDecidable _) h

theorem str_ne {a b : ByteArray} (h : ¬ a = b) : ¬ a.toList = b.toList := fun e => h (bytes_inj (by rw [← ByteArray.toList_eq, ← ByteArray.toList_eq, e]))
theorem str_neB {a b : ByteArray} (h : ¬ a = b) : (a.toList == b.toList) = false := by simpa using str_ne h

/-- A function of two values tells whether their trees are one, and makes memory alone. -/
def CmpC {α : Type} (F : FuncId) (H : World → Value → α → Prop) : Prop :=
  ∀ (w : World) (v1 v2 : Value) (x y : α), H w v1 x → H w v2 y → Calls Try.prog F #[v1, v2] w fun e w' => e = .returned (.bool (sameB x y)) ∧ Below w.heap.size w w'

theorem take_succ_same {α : Type} {xs ys : List α} {k : Nat} {x : α} (h : xs.take k = ys.take k) (hx : xs[k]? = some x) (hy : ys[k]? = some x) : xs.take (k + 1) = ys.take (k + 1) := by
  rw [List.take_add_one, List.take_add_one, h, hx, hy]
theorem take_all_same {α : Type} {xs ys : List α} {k : Nat} (h : xs.take k = ys.take k) (hx : xs.length ≤ k) (hy : ys.length ≤ k) : xs = ys := by
  rwa [List.take_of_length_le hx, List.take_of_length_le hy] at h
theorem ne_at {α : Type} {xs ys : List α} {k : Nat} {x y : α} (hx : xs[k]? = some x) (hy : ys[k]? = some y) (h : x ≠ y) : xs ≠ ys := by
  intro e; rw [e, hy] at hx; exact h (Option.some.inj hx).symm

set_option maxHeartbeats 4000000 in
theorem l02SameExps_of {d : Nat} (hE : CmpC 94 (fun w v e => ∃ cs, v = .agg cs.toArray ∧ HEx w All d cs e)) :
    CmpC 73 (fun w v es => Rows w All 6 (HEx w All d) v es) := by
  intro w v1 v2 es fs h1 h2
  obtain ⟨p, cap, rfl, hcl, hcm, hx⟩ := h1
  obtain ⟨q, cap', rfl, hcl', hcm', hy⟩ := h2
  by_cases hlen : es.length = fs.length
  · generalize hm : fs.length = m at *
    have HM : Hid (fs.length = m) := hm
    generalize hn : es.length = n at *
    have HN : Hid (es.length = n) := hn
    clear hm hn
    subst hlen
    have HX : Hid (es ≠ [] → ∃ g off, p = some ⟨g, off, none⟩ ∧ All g ∧ g < w.heap.size ∧ ∀ i x, es[i]? = some x → ∃ cs, cs.length = 6 ∧ (∀ j, j < 6 → w.cell? ⟨g, off + i * 6 + j, none⟩ = cs[j]?) ∧ HEx w All d cs x) := hx
    have HY : Hid (fs ≠ [] → ∃ g off, q = some ⟨g, off, none⟩ ∧ All g ∧ g < w.heap.size ∧ ∀ i x, fs[i]? = some x → ∃ cs, cs.length = 6 ∧ (∀ j, j < 6 → w.cell? ⟨g, off + i * 6 + j, none⟩ = cs[j]?) ∧ HEx w All d cs x) := hy
    have hnb : n ≤ 9223372036854775807 := by unfold maxLen at hcm; omega
    clear hx hy
    go_enter Try.func73, Try.ntmps73
    go_wp2
    go_loopw [5] (fun iv wr => ∃ k : Nat, k ≤ n ∧ iv = .int .i64 k ∧ Hid (es.take k = fs.take k) ∧ Below w.heap.size w wr) (fun iv _ => n - (intOf iv).toNat)
    case atStart => exact ⟨0, Nat.zero_le _, rfl, rfl, Below.refl _ _⟩
    case round =>
      obtain ⟨k, hk, rfl, hsame, hb⟩ := hrel
      have HB : Hid (Below w.heap.size w wr) := hb
      by_cases hlt : k < n
      · obtain ⟨x, hxk⟩ : ∃ x, es[k]? = some x := ⟨es[k]'(by rw [HN.out]; exact hlt), List.getElem?_eq_getElem _⟩
        obtain ⟨y, hyk⟩ : ∃ y, fs[k]? = some y := ⟨fs[k]'(by rw [HM.out]; exact hlt), List.getElem?_eq_getElem _⟩
        obtain ⟨g, off, rfl, _, hgl, hat⟩ := HX.out (by intro h; rw [h] at hxk; simp at hxk)
        obtain ⟨g', off', rfl, _, hgl', hat'⟩ := HY.out (by intro h; rw [h] at hyk; simp at hyk)
        obtain ⟨cs, hcl6, hcs, hex⟩ := hat k x hxk
        obtain ⟨cs', hcl6', hcs', hex'⟩ := hat' k y hyk
        have E1 : ∀ w', SameOn All wr w' → HEx w' All d cs x := fun w' hw => hex.mono (SameOn.trans (SameOn.of_below hb) hw) (fun _ h => h)
        have E2 : ∀ w', SameOn All wr w' → HEx w' All d cs' y := fun w' hw => hex'.mono (SameOn.trans (SameOn.of_below hb) hw) (fun _ h => h)
        obtain ⟨c0, c1, c2, c3, c4, c5, rfl⟩ := len6 hcl6
        obtain ⟨d0, d1, d2, d3, d4, d5, rfl⟩ := len6 hcl6'
        have a0 := hcs 0 (by omega)
        have b0 := hcs' 0 (by omega)
        have a1 := hcs 1 (by omega)
        have b1 := hcs' 1 (by omega)
        have a2 := hcs 2 (by omega)
        have b2 := hcs' 2 (by omega)
        have a3 := hcs 3 (by omega)
        have b3 := hcs' 3 (by omega)
        have a4 := hcs 4 (by omega)
        have b4 := hcs' 4 (by omega)
        have a5 := hcs 5 (by omega)
        have b5 := hcs' 5 (by omega)
        rw [← hb.cell (p := ⟨g, _, none⟩) hgl] at a0 a1 a2 a3 a4 a5
        rw [← hb.cell (p := ⟨g', _, none⟩) hgl'] at b0 b1 b2 b3 b4 b5
        simp at a0 a1 a2 a3 a4 a5 b0 b1 b2 b3 b4 b5
        clear hb hcs hat hex hcl6 hcs' hat' hex' hcl6'
        have hki : (k : Int) < (n : Int) := by omega
        have hk0 : (0 : Int) ≤ (k : Int) := by omega
        have hgw : g < wr.heap.size := Nat.lt_of_lt_of_le hgl HB.out.size
        have hgw' : g' < wr.heap.size := Nat.lt_of_lt_of_le hgl' HB.out.size
        have qa0 : ∀ m : Wd (fun w' => SameOn All wr w' ∧ Below w.heap.size w w'), m.val.cell? ⟨g, off + k * 6, none⟩ = some c0 := fun m => (World.cell?_of_block (m.ok.1.2 g trivial hgw)).trans a0
        have qa1 : ∀ m : Wd (fun w' => SameOn All wr w' ∧ Below w.heap.size w w'), m.val.cell? ⟨g, off + k * 6 + 1, none⟩ = some c1 := fun m => (World.cell?_of_block (m.ok.1.2 g trivial hgw)).trans a1
        have qa2 : ∀ m : Wd (fun w' => SameOn All wr w' ∧ Below w.heap.size w w'), m.val.cell? ⟨g, off + k * 6 + 2, none⟩ = some c2 := fun m => (World.cell?_of_block (m.ok.1.2 g trivial hgw)).trans a2
        have qa3 : ∀ m : Wd (fun w' => SameOn All wr w' ∧ Below w.heap.size w w'), m.val.cell? ⟨g, off + k * 6 + 3, none⟩ = some c3 := fun m => (World.cell?_of_block (m.ok.1.2 g trivial hgw)).trans a3
        have qa4 : ∀ m : Wd (fun w' => SameOn All wr w' ∧ Below w.heap.size w w'), m.val.cell? ⟨g, off + k * 6 + 4, none⟩ = some c4 := fun m => (World.cell?_of_block (m.ok.1.2 g trivial hgw)).trans a4
        have qa5 : ∀ m : Wd (fun w' => SameOn All wr w' ∧ Below w.heap.size w w'), m.val.cell? ⟨g, off + k * 6 + 5, none⟩ = some c5 := fun m => (World.cell?_of_block (m.ok.1.2 g trivial hgw)).trans a5
        have qb0 : ∀ m : Wd (fun w' => SameOn All wr w' ∧ Below w.heap.size w w'), m.val.cell? ⟨g', off' + k * 6, none⟩ = some d0 := fun m => (World.cell?_of_block (m.ok.1.2 g' trivial hgw')).trans b0
        have qb1 : ∀ m : Wd (fun w' => SameOn All wr w' ∧ Below w.heap.size w w'), m.val.cell? ⟨g', off' + k * 6 + 1, none⟩ = some d1 := fun m => (World.cell?_of_block (m.ok.1.2 g' trivial hgw')).trans b1
        have qb2 : ∀ m : Wd (fun w' => SameOn All wr w' ∧ Below w.heap.size w w'), m.val.cell? ⟨g', off' + k * 6 + 2, none⟩ = some d2 := fun m => (World.cell?_of_block (m.ok.1.2 g' trivial hgw')).trans b2
        have qb3 : ∀ m : Wd (fun w' => SameOn All wr w' ∧ Below w.heap.size w w'), m.val.cell? ⟨g', off' + k * 6 + 3, none⟩ = some d3 := fun m => (World.cell?_of_block (m.ok.1.2 g' trivial hgw')).trans b3
        have qb4 : ∀ m : Wd (fun w' => SameOn All wr w' ∧ Below w.heap.size w w'), m.val.cell? ⟨g', off' + k * 6 + 4, none⟩ = some d4 := fun m => (World.cell?_of_block (m.ok.1.2 g' trivial hgw')).trans b4
        have qb5 : ∀ m : Wd (fun w' => SameOn All wr w' ∧ Below w.heap.size w w'), m.val.cell? ⟨g', off' + k * 6 + 5, none⟩ = some d5 := fun m => (World.cell?_of_block (m.ok.1.2 g' trivial hgw')).trans b5
        by_cases hxy : x = y
        · have hs : sameB x y = true := sameB_true hxy
          go_wp2
          have hCne : Nonempty (Wd (fun w' => SameOn All wr w' ∧ Below w.heap.size w w')) := ⟨⟨wr.drew, ⟨⟨Nat.le_refl _, fun _ _ _ => rfl⟩, HB.out.drew⟩⟩⟩
          refine wp_region_class (fun w' => SameOn All wr w' ∧ Below w.heap.size w w') (by kernel_rfl) (by kernel_rfl) ⟨⟨Nat.le_refl _, fun _ _ _ => rfl⟩, HB.out.drew⟩ ?_
          repeat (go_big_quiet_step (first | (rename_i m; go_at_call 94; refine (hE _ _ _ x y ⟨_, rfl, E1 _ m.ok.1⟩ ⟨_, rfl, E2 _ m.ok.1⟩).mono ?_; rintro e w1 ⟨rfl, hb1⟩; exact ⟨by rw [hs], ⟨⟨w1, ⟨(SameOn.trans m.ok.1 (SameOn.of_below hb1)), m.ok.2.trans (hb1.mono m.ok.2.size)⟩⟩, rfl⟩⟩)))
          refine wpQuiet_nil ?_
          rintro _ ⟨mq, rfl⟩
          have hbe := mq.ok.2
          have hse := mq.ok.1
          generalize mq.val = wq at hbe hse ⊢
          go_wp2
          exact ⟨⟨k + 1, by omega, by go_num, take_succ_same hsame.out hxk (hxy ▸ hyk), hbe⟩, by simp [intOf]; omega⟩
        · have hs : sameB x y = false := sameB_false hxy
          have HS : Hid (sameB es fs = false) := sameB_false (ne_at hxk hyk hxy)
          go_wp2
          have hCne : Nonempty (Wd (fun w' => SameOn All wr w' ∧ Below w.heap.size w w')) := ⟨⟨wr.drew, ⟨⟨Nat.le_refl _, fun _ _ _ => rfl⟩, HB.out.drew⟩⟩⟩
          refine wp_region_class (fun w' => SameOn All wr w' ∧ Below w.heap.size w w') (by kernel_rfl) (by kernel_rfl) ⟨⟨Nat.le_refl _, fun _ _ _ => rfl⟩, HB.out.drew⟩ ?_
          repeat (go_big_quiet_step (first | (rename_i m; go_at_call 94; refine (hE _ _ _ x y ⟨_, rfl, E1 _ m.ok.1⟩ ⟨_, rfl, E2 _ m.ok.1⟩).mono ?_; rintro e w1 ⟨rfl, hb1⟩; exact ⟨by rw [hs], ⟨⟨w1, ⟨(SameOn.trans m.ok.1 (SameOn.of_below hb1)), m.ok.2.trans (hb1.mono m.ok.2.size)⟩⟩, rfl⟩⟩)))
          refine wpQuiet_nil ?_
          rintro _ ⟨mq, rfl⟩
          have hbe := mq.ok.2
          have hse := mq.ok.1
          generalize mq.val = wq at hbe hse ⊢
          go_wp2
          go_ret
          exact ⟨by rw [HS.out]; rfl, hbe⟩
      · have hs : sameB es fs = true := sameB_true (take_all_same hsame.out (by rw [HN.out]; omega) (by rw [HM.out]; omega))
        have HS : Hid (sameB es fs = true) := hs
        clear hs
        go_wp2
        go_ret
        exact ⟨by rw [HS.out]; rfl, HB.out⟩
  · have hs : sameB es fs = false := sameB_false (fun h => hlen (by rw [h]))
    have HS : Hid (sameB es fs = false) := hs
    have hnb : es.length ≤ 9223372036854775807 := by unfold maxLen at hcm; omega
    have hnb' : fs.length ≤ 9223372036854775807 := by unfold maxLen at hcm'; omega
    clear hs hx hy
    generalize fs.length = m at *
    generalize es.length = n at *
    go_enter Try.func73, Try.ntmps73
    go_wp2
    go_ret
    exact ⟨by rw [HS.out]; rfl, Below.refl _ _⟩

set_option maxHeartbeats 4000000 in
theorem l02SameClauses_of {d : Nat} (h1 : CmpC 73 (fun w v es => Rows w All 6 (HEx w All d) v es)) (h2 : CmpC 73 (fun w v es => Rows w All 6 (HEx w All d) v es)) :
    CmpC 34 (fun w v es => Rows w All 2 (HCl w All (HEx w All d)) v es) := by
  intro w v1 v2 es fs h1 h2
  obtain ⟨p, cap, rfl, hcl, hcm, hx⟩ := h1
  obtain ⟨q, cap', rfl, hcl', hcm', hy⟩ := h2
  by_cases hlen : es.length = fs.length
  · generalize hm : fs.length = m at *
    have HM : Hid (fs.length = m) := hm
    generalize hn : es.length = n at *
    have HN : Hid (es.length = n) := hn
    clear hm hn
    subst hlen
    have HX : Hid (es ≠ [] → ∃ g off, p = some ⟨g, off, none⟩ ∧ All g ∧ g < w.heap.size ∧ ∀ i x, es[i]? = some x → ∃ cs, cs.length = 2 ∧ (∀ j, j < 2 → w.cell? ⟨g, off + i * 2 + j, none⟩ = cs[j]?) ∧ HCl w All (HEx w All d) cs x) := hx
    have HY : Hid (fs ≠ [] → ∃ g off, q = some ⟨g, off, none⟩ ∧ All g ∧ g < w.heap.size ∧ ∀ i x, fs[i]? = some x → ∃ cs, cs.length = 2 ∧ (∀ j, j < 2 → w.cell? ⟨g, off + i * 2 + j, none⟩ = cs[j]?) ∧ HCl w All (HEx w All d) cs x) := hy
    have hnb : n ≤ 9223372036854775807 := by unfold maxLen at hcm; omega
    clear hx hy
    go_enter Try.func34, Try.ntmps34
    go_wp2
    go_loopw [5] (fun iv wr => ∃ k : Nat, k ≤ n ∧ iv = .int .i64 k ∧ Hid (es.take k = fs.take k) ∧ Below w.heap.size w wr) (fun iv _ => n - (intOf iv).toNat)
    case atStart => exact ⟨0, Nat.zero_le _, rfl, rfl, Below.refl _ _⟩
    case round =>
      obtain ⟨k, hk, rfl, hsame, hb⟩ := hrel
      have HB : Hid (Below w.heap.size w wr) := hb
      by_cases hlt : k < n
      · obtain ⟨x, hxk⟩ : ∃ x, es[k]? = some x := ⟨es[k]'(by rw [HN.out]; exact hlt), List.getElem?_eq_getElem _⟩
        obtain ⟨y, hyk⟩ : ∃ y, fs[k]? = some y := ⟨fs[k]'(by rw [HM.out]; exact hlt), List.getElem?_eq_getElem _⟩
        obtain ⟨g, off, rfl, _, hgl, hat⟩ := HX.out (by intro h; rw [h] at hxk; simp at hxk)
        obtain ⟨g', off', rfl, _, hgl', hat'⟩ := HY.out (by intro h; rw [h] at hyk; simp at hyk)
        obtain ⟨cs, hcl6, hcs, hex⟩ := hat k x hxk
        obtain ⟨cs', hcl6', hcs', hex'⟩ := hat' k y hyk
        have E1 : ∀ w', SameOn All wr w' → HCl w' All (HEx w' All d) cs x := fun w' hw => hex.mono (SameOn.trans (SameOn.of_below hb) hw) (fun _ h => h) (fun _ _ => HEx.mono (SameOn.trans (SameOn.of_below hb) hw) (fun _ h => h))
        have E2 : ∀ w', SameOn All wr w' → HCl w' All (HEx w' All d) cs' y := fun w' hw => hex'.mono (SameOn.trans (SameOn.of_below hb) hw) (fun _ h => h) (fun _ _ => HEx.mono (SameOn.trans (SameOn.of_below hb) hw) (fun _ h => h))
        obtain ⟨c0, c1, rfl⟩ := len2 hcl6
        obtain ⟨d0, d1, rfl⟩ := len2 hcl6'
        have a0 := hcs 0 (by omega)
        have b0 := hcs' 0 (by omega)
        have a1 := hcs 1 (by omega)
        have b1 := hcs' 1 (by omega)
        rw [← hb.cell (p := ⟨g, _, none⟩) hgl] at a0 a1
        rw [← hb.cell (p := ⟨g', _, none⟩) hgl'] at b0 b1
        simp at a0 a1 b0 b1
        clear hb hcs hat hex hcl6 hcs' hat' hex' hcl6'
        have hki : (k : Int) < (n : Int) := by omega
        have hk0 : (0 : Int) ≤ (k : Int) := by omega
        have hgw : g < wr.heap.size := Nat.lt_of_lt_of_le hgl HB.out.size
        have hgw' : g' < wr.heap.size := Nat.lt_of_lt_of_le hgl' HB.out.size
        have E1_1 : ∀ w', SameOn All wr w' → Rows w' All 6 (HEx w' All d) c0 x.1 := fun w' hw => by obtain ⟨_, _, h, r, _⟩ := E1 w' hw; cases h; exact r
        have E1_2 : ∀ w', SameOn All wr w' → Rows w' All 6 (HEx w' All d) c1 x.2 := fun w' hw => by obtain ⟨_, _, h, _, r⟩ := E1 w' hw; cases h; exact r
        have E2_1 : ∀ w', SameOn All wr w' → Rows w' All 6 (HEx w' All d) d0 y.1 := fun w' hw => by obtain ⟨_, _, h, r, _⟩ := E2 w' hw; cases h; exact r
        have E2_2 : ∀ w', SameOn All wr w' → Rows w' All 6 (HEx w' All d) d1 y.2 := fun w' hw => by obtain ⟨_, _, h, _, r⟩ := E2 w' hw; cases h; exact r
        have qa0 : ∀ m : Wd (fun w' => SameOn All wr w' ∧ Below w.heap.size w w'), m.val.cell? ⟨g, off + k * 2, none⟩ = some c0 := fun m => (World.cell?_of_block (m.ok.1.2 g trivial hgw)).trans a0
        have qb0 : ∀ m : Wd (fun w' => SameOn All wr w' ∧ Below w.heap.size w w'), m.val.cell? ⟨g', off' + k * 2, none⟩ = some d0 := fun m => (World.cell?_of_block (m.ok.1.2 g' trivial hgw')).trans b0
        have qa1 : ∀ m : Wd (fun w' => SameOn All wr w' ∧ Below w.heap.size w w'), m.val.cell? ⟨g, off + k * 2 + 1, none⟩ = some c1 := fun m => (World.cell?_of_block (m.ok.1.2 g trivial hgw)).trans a1
        have qb1 : ∀ m : Wd (fun w' => SameOn All wr w' ∧ Below w.heap.size w w'), m.val.cell? ⟨g', off' + k * 2 + 1, none⟩ = some d1 := fun m => (World.cell?_of_block (m.ok.1.2 g' trivial hgw')).trans b1
        clear E1 E2
        by_cases hx1 : x.1 = y.1
        · have hs1 : sameB x.1 y.1 = true := sameB_true hx1
          by_cases hx2 : x.2 = y.2
          · have hs2 : sameB x.2 y.2 = true := sameB_true hx2
            go_wp2
            have hCne : Nonempty (Wd (fun w' => SameOn All wr w' ∧ Below w.heap.size w w')) := ⟨⟨wr.drew, ⟨⟨Nat.le_refl _, fun _ _ _ => rfl⟩, HB.out.drew⟩⟩⟩
            refine wp_region_class (fun w' => SameOn All wr w' ∧ Below w.heap.size w w') (by kernel_rfl) (by kernel_rfl) ⟨⟨Nat.le_refl _, fun _ _ _ => rfl⟩, HB.out.drew⟩ ?_
            repeat (go_big_quiet_step (first | (rename_i m; go_at_call_of 73 c0; refine (h1 _ _ _ x.1 y.1 (E1_1 _ m.ok.1) (E2_1 _ m.ok.1)).mono ?_; rintro e w1 ⟨rfl, hb1⟩; exact ⟨by rw [hs1], ⟨⟨w1, ⟨(SameOn.trans m.ok.1 (SameOn.of_below hb1)), m.ok.2.trans (hb1.mono m.ok.2.size)⟩⟩, rfl⟩⟩) | (rename_i m; go_at_call_of 73 c1; refine (h2 _ _ _ x.2 y.2 (E1_2 _ m.ok.1) (E2_2 _ m.ok.1)).mono ?_; rintro e w1 ⟨rfl, hb1⟩; exact ⟨by rw [hs2], ⟨⟨w1, ⟨(SameOn.trans m.ok.1 (SameOn.of_below hb1)), m.ok.2.trans (hb1.mono m.ok.2.size)⟩⟩, rfl⟩⟩)))
            refine wpQuiet_nil ?_
            rintro _ ⟨mq, rfl⟩
            have hbe := mq.ok.2
            have hse := mq.ok.1
            generalize mq.val = wq at hbe hse ⊢
            go_wp2
            exact ⟨⟨k + 1, by omega, by go_num, take_succ_same hsame.out hxk ((Prod.ext hx1 hx2 : x = y) ▸ hyk), hbe⟩, by simp [intOf]; omega⟩
          · have hs2 : sameB x.2 y.2 = false := sameB_false hx2
            have HS : Hid (sameB es fs = false) := sameB_false (ne_at hxk hyk (fun h => hx2 (by rw [h])))
            go_wp2
            have hCne : Nonempty (Wd (fun w' => SameOn All wr w' ∧ Below w.heap.size w w')) := ⟨⟨wr.drew, ⟨⟨Nat.le_refl _, fun _ _ _ => rfl⟩, HB.out.drew⟩⟩⟩
            refine wp_region_class (fun w' => SameOn All wr w' ∧ Below w.heap.size w w') (by kernel_rfl) (by kernel_rfl) ⟨⟨Nat.le_refl _, fun _ _ _ => rfl⟩, HB.out.drew⟩ ?_
            repeat (go_big_quiet_step (first | (rename_i m; go_at_call_of 73 c0; refine (h1 _ _ _ x.1 y.1 (E1_1 _ m.ok.1) (E2_1 _ m.ok.1)).mono ?_; rintro e w1 ⟨rfl, hb1⟩; exact ⟨by rw [hs1], ⟨⟨w1, ⟨(SameOn.trans m.ok.1 (SameOn.of_below hb1)), m.ok.2.trans (hb1.mono m.ok.2.size)⟩⟩, rfl⟩⟩) | (rename_i m; go_at_call_of 73 c1; refine (h2 _ _ _ x.2 y.2 (E1_2 _ m.ok.1) (E2_2 _ m.ok.1)).mono ?_; rintro e w1 ⟨rfl, hb1⟩; exact ⟨by rw [hs2], ⟨⟨w1, ⟨(SameOn.trans m.ok.1 (SameOn.of_below hb1)), m.ok.2.trans (hb1.mono m.ok.2.size)⟩⟩, rfl⟩⟩)))
            refine wpQuiet_nil ?_
            rintro _ ⟨mq, rfl⟩
            have hbe := mq.ok.2
            have hse := mq.ok.1
            generalize mq.val = wq at hbe hse ⊢
            go_wp2
            go_ret
            exact ⟨by rw [HS.out]; rfl, hbe⟩
        · have hs1 : sameB x.1 y.1 = false := sameB_false hx1
          have HS : Hid (sameB es fs = false) := sameB_false (ne_at hxk hyk (fun h => hx1 (by rw [h])))
          go_wp2
          have hCne : Nonempty (Wd (fun w' => SameOn All wr w' ∧ Below w.heap.size w w')) := ⟨⟨wr.drew, ⟨⟨Nat.le_refl _, fun _ _ _ => rfl⟩, HB.out.drew⟩⟩⟩
          refine wp_region_class (fun w' => SameOn All wr w' ∧ Below w.heap.size w w') (by kernel_rfl) (by kernel_rfl) ⟨⟨Nat.le_refl _, fun _ _ _ => rfl⟩, HB.out.drew⟩ ?_
          repeat (go_big_quiet_step (first | (rename_i m; go_at_call_of 73 c0; refine (h1 _ _ _ x.1 y.1 (E1_1 _ m.ok.1) (E2_1 _ m.ok.1)).mono ?_; rintro e w1 ⟨rfl, hb1⟩; exact ⟨by rw [hs1], ⟨⟨w1, ⟨(SameOn.trans m.ok.1 (SameOn.of_below hb1)), m.ok.2.trans (hb1.mono m.ok.2.size)⟩⟩, rfl⟩⟩)))
          refine wpQuiet_nil ?_
          rintro _ ⟨mq, rfl⟩
          have hbe := mq.ok.2
          have hse := mq.ok.1
          generalize mq.val = wq at hbe hse ⊢
          go_wp2
          go_ret
          exact ⟨by rw [HS.out]; rfl, hbe⟩
      · have hs : sameB es fs = true := sameB_true (take_all_same hsame.out (by rw [HN.out]; omega) (by rw [HM.out]; omega))
        have HS : Hid (sameB es fs = true) := hs
        clear hs
        go_wp2
        go_ret
        exact ⟨by rw [HS.out]; rfl, HB.out⟩
  · have hs : sameB es fs = false := sameB_false (fun h => hlen (by rw [h]))
    have HS : Hid (sameB es fs = false) := hs
    have hnb : es.length ≤ 9223372036854775807 := by unfold maxLen at hcm; omega
    have hnb' : fs.length ≤ 9223372036854775807 := by unfold maxLen at hcm'; omega
    clear hs hx hy
    generalize fs.length = m at *
    generalize es.length = n at *
    go_enter Try.func34, Try.ntmps34
    go_wp2
    go_ret
    exact ⟨by rw [HS.out]; rfl, Below.refl _ _⟩

set_option maxHeartbeats 4000000 in
theorem l02SameExp_of {d : Nat} (h0 : CmpC 73 (fun w v es => Rows w All 6 (HEx w All d) v es)) (h1 : CmpC 34 (fun w v es => Rows w All 2 (HCl w All (HEx w All d)) v es)) :
    CmpC 94 (fun w v e => ∃ cs, v = .agg cs.toArray ∧ HEx w All (d + 1) cs e) := by
  intro w v1 v2 x y i1 i2
  obtain ⟨cs, rfl, kv, cv, rfl, _, _, _, _, f0, f1⟩ := i1
  obtain ⟨cs, rfl, kv', cv', rfl, _, _, _, _, f0', f1'⟩ := i2
  obtain ⟨k, n, t, m, ks, cl⟩ := x
  obtain ⟨k', n', t', m', ks', cl'⟩ := y
  simp only [Ex.kind, Ex.n, Ex.text, Ex.mod, Ex.kids, Ex.clauses] at *
  have g0 : ∀ w', SameOn All w w' → Rows w' All 6 (HEx w' All d) kv ks := fun w' hw => f0.mono hw (fun _ h => h) (fun _ _ _ => HEx.mono hw (fun _ h => h))
  have g1 : ∀ w', SameOn All w w' → Rows w' All 2 (HCl w' All (HEx w' All d)) cv cl := fun w' hw => f1.mono hw (fun _ h => h) (fun _ _ _ h => h.mono hw (fun _ h => h) (fun _ _ => HEx.mono hw (fun _ h => h)))
  have g0' : ∀ w', SameOn All w w' → Rows w' All 6 (HEx w' All d) kv' ks' := fun w' hw => f0'.mono hw (fun _ h => h) (fun _ _ _ => HEx.mono hw (fun _ h => h))
  have g1' : ∀ w', SameOn All w w' → Rows w' All 2 (HCl w' All (HEx w' All d)) cv' cl' := fun w' hw => f1'.mono hw (fun _ h => h) (fun _ _ _ h => h.mono hw (fun _ h => h) (fun _ _ => HEx.mono hw (fun _ h => h)))
  clear f0 f1 f0' f1'
  by_cases hk : k = k'
  · subst hk
    by_cases hn : n = n'
    · subst hn
      by_cases ht : t = t'
      · subst ht
        by_cases hm : m = m'
        · subst hm
          by_cases hks : ks = ks'
          · by_cases hcl : cl = cl'
            · have HS : Hid (sameB (Ex.mk k n t m ks cl) (Ex.mk k n t m ks' cl') = true) := sameB_true (by rw [hks, hcl])
              have hal : Below w.heap.size w ((w.alloc (.cells #[.int .i64 k, .int .i64 n, .string t, .string m, kv, cv] 58)).alloc (.cells #[.int .i64 k, .int .i64 n, .string t, .string m, kv', cv'] 58)) := ((Below.refl _ _).alloc (Nat.le_refl _) _).alloc (by simp) _
              have HA : Hid (Below w.heap.size w ((w.alloc (.cells #[.int .i64 k, .int .i64 n, .string t, .string m, kv, cv] 58)).alloc (.cells #[.int .i64 k, .int .i64 n, .string t, .string m, kv', cv'] 58))) := hal
              clear hal
              have hs1 : sameB cl cl' = true := sameB_true hcl
              have hs0 : sameB ks ks' = true := sameB_true hks
              go_enter Try.func94, Try.ntmps94
              go_wp2_with (first | (go_at_call 34; refine (h1 _ _ _ cl cl' (g1 _ (SameOn.of_below (HA.out.trans (HB0.out.mono HA.out.size)))) (g1' _ (SameOn.of_below (HA.out.trans (HB0.out.mono HA.out.size))))).mono ?_; rintro e w1 ⟨rfl, hb1⟩; rw [hs1]; have HB1 : Hid _ := hb1; clear hb1) | (go_at_call 73; refine (h0 _ _ _ ks ks' (g0 _ (SameOn.of_below HA.out)) (g0' _ (SameOn.of_below HA.out))).mono ?_; rintro e w0 ⟨rfl, hb0⟩; rw [hs0]; have HB0 : Hid _ := hb0; have k0 := (hb0.cell (p := ⟨w.heap.size, 5, none⟩) (by simp only [alloc_hs]; omega)).trans ((World.cell?_of_block (a := ⟨w.heap.size, 5, none⟩) (Below.heap_alloc _ _ _ (by simp))).trans (cell_new _ _ _ 5 cv rfl)); have m0 := (hb0.cell (p := ⟨(w.alloc (.cells #[.int .i64 k, .int .i64 n, .string t, .string m, kv, cv] 58)).heap.size, 5, none⟩) (by simp)).trans (cell_new _ _ _ 5 cv' rfl); simp only [alloc_hs] at m0; clear hb0))
              go_ret
              exact ⟨by rw [HS.out]; first | rfl | simp [*], ((HA.out.trans (HB0.out.mono HA.out.size)).trans (HB1.out.mono (HA.out.trans (HB0.out.mono HA.out.size)).size))⟩
            · have HS : Hid (sameB (Ex.mk k n t m ks cl) (Ex.mk k n t m ks' cl') = false) := sameB_false (fun h => by simp only [Ex.mk.injEq] at h; exact hcl h.2.2.2.2.2)
              have hal : Below w.heap.size w ((w.alloc (.cells #[.int .i64 k, .int .i64 n, .string t, .string m, kv, cv] 58)).alloc (.cells #[.int .i64 k, .int .i64 n, .string t, .string m, kv', cv'] 58)) := ((Below.refl _ _).alloc (Nat.le_refl _) _).alloc (by simp) _
              have HA : Hid (Below w.heap.size w ((w.alloc (.cells #[.int .i64 k, .int .i64 n, .string t, .string m, kv, cv] 58)).alloc (.cells #[.int .i64 k, .int .i64 n, .string t, .string m, kv', cv'] 58))) := hal
              clear hal
              have hs1 : sameB cl cl' = false := sameB_false hcl
              have hs0 : sameB ks ks' = true := sameB_true hks
              go_enter Try.func94, Try.ntmps94
              go_wp2_with (first | (go_at_call 34; refine (h1 _ _ _ cl cl' (g1 _ (SameOn.of_below (HA.out.trans (HB0.out.mono HA.out.size)))) (g1' _ (SameOn.of_below (HA.out.trans (HB0.out.mono HA.out.size))))).mono ?_; rintro e w1 ⟨rfl, hb1⟩; rw [hs1]; have HB1 : Hid _ := hb1; clear hb1) | (go_at_call 73; refine (h0 _ _ _ ks ks' (g0 _ (SameOn.of_below HA.out)) (g0' _ (SameOn.of_below HA.out))).mono ?_; rintro e w0 ⟨rfl, hb0⟩; rw [hs0]; have HB0 : Hid _ := hb0; have k0 := (hb0.cell (p := ⟨w.heap.size, 5, none⟩) (by simp only [alloc_hs]; omega)).trans ((World.cell?_of_block (a := ⟨w.heap.size, 5, none⟩) (Below.heap_alloc _ _ _ (by simp))).trans (cell_new _ _ _ 5 cv rfl)); have m0 := (hb0.cell (p := ⟨(w.alloc (.cells #[.int .i64 k, .int .i64 n, .string t, .string m, kv, cv] 58)).heap.size, 5, none⟩) (by simp)).trans (cell_new _ _ _ 5 cv' rfl); simp only [alloc_hs] at m0; clear hb0))
              go_ret
              exact ⟨by rw [HS.out]; first | rfl | simp [*], ((HA.out.trans (HB0.out.mono HA.out.size)).trans (HB1.out.mono (HA.out.trans (HB0.out.mono HA.out.size)).size))⟩
          · have HS : Hid (sameB (Ex.mk k n t m ks cl) (Ex.mk k n t m ks' cl') = false) := sameB_false (fun h => by simp only [Ex.mk.injEq] at h; exact hks h.2.2.2.2.1)
            have hal : Below w.heap.size w ((w.alloc (.cells #[.int .i64 k, .int .i64 n, .string t, .string m, kv, cv] 58)).alloc (.cells #[.int .i64 k, .int .i64 n, .string t, .string m, kv', cv'] 58)) := ((Below.refl _ _).alloc (Nat.le_refl _) _).alloc (by simp) _
            have HA : Hid (Below w.heap.size w ((w.alloc (.cells #[.int .i64 k, .int .i64 n, .string t, .string m, kv, cv] 58)).alloc (.cells #[.int .i64 k, .int .i64 n, .string t, .string m, kv', cv'] 58))) := hal
            clear hal
            have hs0 : sameB ks ks' = false := sameB_false hks
            go_enter Try.func94, Try.ntmps94
            go_wp2_with (first | (go_at_call 73; refine (h0 _ _ _ ks ks' (g0 _ (SameOn.of_below HA.out)) (g0' _ (SameOn.of_below HA.out))).mono ?_; rintro e w0 ⟨rfl, hb0⟩; rw [hs0]; have HB0 : Hid _ := hb0; have k0 := (hb0.cell (p := ⟨w.heap.size, 5, none⟩) (by simp only [alloc_hs]; omega)).trans ((World.cell?_of_block (a := ⟨w.heap.size, 5, none⟩) (Below.heap_alloc _ _ _ (by simp))).trans (cell_new _ _ _ 5 cv rfl)); have m0 := (hb0.cell (p := ⟨(w.alloc (.cells #[.int .i64 k, .int .i64 n, .string t, .string m, kv, cv] 58)).heap.size, 5, none⟩) (by simp)).trans (cell_new _ _ _ 5 cv' rfl); simp only [alloc_hs] at m0; clear hb0))
            go_ret
            exact ⟨by rw [HS.out]; first | rfl | simp [*], (HA.out.trans (HB0.out.mono HA.out.size))⟩
        · have HS : Hid (sameB (Ex.mk k n t m ks cl) (Ex.mk k n t m' ks' cl') = false) := sameB_false (fun h => by simp only [Ex.mk.injEq] at h; exact hm h.2.2.2.1)
          have hal : Below w.heap.size w ((w.alloc (.cells #[.int .i64 k, .int .i64 n, .string t, .string m, kv, cv] 58)).alloc (.cells #[.int .i64 k, .int .i64 n, .string t, .string m', kv', cv'] 58)) := ((Below.refl _ _).alloc (Nat.le_refl _) _).alloc (by simp) _
          have HA : Hid (Below w.heap.size w ((w.alloc (.cells #[.int .i64 k, .int .i64 n, .string t, .string m, kv, cv] 58)).alloc (.cells #[.int .i64 k, .int .i64 n, .string t, .string m', kv', cv'] 58))) := hal
          clear hal
          have hq1 := str_ne hm
          have hq2 := str_neB hm
          go_enter Try.func94, Try.ntmps94
          go_wp2
          go_ret
          exact ⟨by rw [HS.out]; first | rfl | simp [*], HA.out⟩
      · have HS : Hid (sameB (Ex.mk k n t m ks cl) (Ex.mk k n t' m' ks' cl') = false) := sameB_false (fun h => by simp only [Ex.mk.injEq] at h; exact ht h.2.2.1)
        have hal : Below w.heap.size w ((w.alloc (.cells #[.int .i64 k, .int .i64 n, .string t, .string m, kv, cv] 58)).alloc (.cells #[.int .i64 k, .int .i64 n, .string t', .string m', kv', cv'] 58)) := ((Below.refl _ _).alloc (Nat.le_refl _) _).alloc (by simp) _
        have HA : Hid (Below w.heap.size w ((w.alloc (.cells #[.int .i64 k, .int .i64 n, .string t, .string m, kv, cv] 58)).alloc (.cells #[.int .i64 k, .int .i64 n, .string t', .string m', kv', cv'] 58))) := hal
        clear hal
        have hq1 := str_ne ht
        have hq2 := str_neB ht
        go_enter Try.func94, Try.ntmps94
        go_wp2
        go_ret
        exact ⟨by rw [HS.out]; first | rfl | simp [*], HA.out⟩
    · have HS : Hid (sameB (Ex.mk k n t m ks cl) (Ex.mk k n' t' m' ks' cl') = false) := sameB_false (fun h => by simp only [Ex.mk.injEq] at h; exact hn h.2.1)
      have hal : Below w.heap.size w ((w.alloc (.cells #[.int .i64 k, .int .i64 n, .string t, .string m, kv, cv] 58)).alloc (.cells #[.int .i64 k, .int .i64 n', .string t', .string m', kv', cv'] 58)) := ((Below.refl _ _).alloc (Nat.le_refl _) _).alloc (by simp) _
      have HA : Hid (Below w.heap.size w ((w.alloc (.cells #[.int .i64 k, .int .i64 n, .string t, .string m, kv, cv] 58)).alloc (.cells #[.int .i64 k, .int .i64 n', .string t', .string m', kv', cv'] 58))) := hal
      clear hal
      go_enter Try.func94, Try.ntmps94
      go_wp2
      go_ret
      exact ⟨by rw [HS.out]; first | rfl | simp [*], HA.out⟩
  · have HS : Hid (sameB (Ex.mk k n t m ks cl) (Ex.mk k' n' t' m' ks' cl') = false) := sameB_false (fun h => by simp only [Ex.mk.injEq] at h; exact hk h.1)
    have hal : Below w.heap.size w ((w.alloc (.cells #[.int .i64 k, .int .i64 n, .string t, .string m, kv, cv] 58)).alloc (.cells #[.int .i64 k', .int .i64 n', .string t', .string m', kv', cv'] 58)) := ((Below.refl _ _).alloc (Nat.le_refl _) _).alloc (by simp) _
    have HA : Hid (Below w.heap.size w ((w.alloc (.cells #[.int .i64 k, .int .i64 n, .string t, .string m, kv, cv] 58)).alloc (.cells #[.int .i64 k', .int .i64 n', .string t', .string m', kv', cv'] 58))) := hal
    clear hal
    go_enter Try.func94, Try.ntmps94
    go_wp2
    go_ret
    exact ⟨by rw [HS.out]; first | rfl | simp [*], HA.out⟩
end Go.Proofs.Ytkcajmkagbgfnaa
