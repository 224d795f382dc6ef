/-
  Texts of the proof, packed: CheckImplD, CheckImplE, CheckImplF, CheckImplG, RangeBound, Backward, RangeIdx, NameImplA, SetAt, SetOps, EachRem, CopyN, StepAll, StepSmall, StepImpl, StepTop, ExOwn, ModOwn, RefRow, LooseImpl, CheckImplH, CheckEq, CheckTop.
-/
import Derived.Test.YtigfmdfgioccjaaGreatDoorPackC
import Derived.Test.YtigfmdfgioccjaaGreatDoorPackB
import Derived.RangeFuncNested
import Derived.RangeFuncBound
import Derived.RangeFuncCalls
import Derived.RangeFuncLeaves
import Derived.Shelf.Abstract
import Derived.Shelf.RegionOpen
import Derived.WalkKit
import Derived.OwnWalkIn
import Derived.TacticsInMore
import Derived.LoopNIn
import Derived.LoopIn
import Derived.Maps.OwnIn
import Derived.Maps.AppendAt
import Derived.Maps.Own
import Derived.Maps.OwnSet
import Derived.StringKeys
import Derived.Lib.SlMapMerge
import Derived.Maps.Ext
import Derived.Maps.RangeWalk
import Derived.Laws.IdiomRangeMap
/-
  The program's problems of a function's calls.
-/
namespace Go.Proofs.YtigfmdfgioccjaaGreatDoor
open Go.ChangeShapes Go.WideShapes Go.ChangeAt Go.RowKit
set_option linter.unusedVariables false
set_option maxRecDepth 100000

section
variable (d b0 tb : Nat) (pv : Value) (pe : Option Addr) (ne ce : Nat) (pf : Option Addr) (nf cf : Nat) (fs : ByteArray) (fn : Int) (pc : Option Addr) (nc cc : Nat) (ms : List Md) (m : Md)
/-- What is held while calls are told. -/
def CallI (w : World) (M : Nat → Prop) (s : List Pb) : Prop :=
  ∃ v, M = MvB b0 v ∧ CbI d b0 pv #[.string m.name, .slice pe ne ce, .slice pf nf cf] #[.string fs, .int .i64 fn, .slice pc nc cc] ms m w v s ∧ Blk w tb #[(.func (.func 68) #[] #[.pointer (some ⟨b0, 0, none⟩), .pointer (some ⟨b0 + 1, 0, none⟩), .pointer (some ⟨b0 + 1 + 1, 0, none⟩), .pointer (some ⟨b0 + 1 + 1 + 1 + 1, 0, none⟩)])] 114 ∧ b0 + 1 + 1 + 1 + 1 < tb
def stK (s : List Pb) (x : Ex) : List Pb := if x.kind = 8 then stC ms m fs fn s x else s

set_option maxHeartbeats 8000000 in
theorem tells_call (hok : okS m.name ∧ okS fs ∧ okI fn) (w : World) (s : List Pb) (dx : Nat) (cs : List Value) (x : Ex) (v : Value) (h : CbI d b0 pv #[.string m.name, .slice pe ne ce, .slice pf nf cf] #[.string fs, .int .i64 fn, .slice pc nc cc] ms m w v s) (hb : Blk w tb #[(.func (.func 68) #[] #[.pointer (some ⟨b0, 0, none⟩), .pointer (some ⟨b0 + 1, 0, none⟩), .pointer (some ⟨b0 + 1 + 1, 0, none⟩), .pointer (some ⟨b0 + 1 + 1 + 1 + 1, 0, none⟩)])] 114) (hlt : b0 + 1 + 1 + 1 + 1 < tb) (hx : HEx w (fun g => g < b0) dx cs x) (hl : s.length + 1 ≤ 1048576) :
    Calls Tryz.prog 94 #[.agg cs.toArray, .pointer (some ⟨tb, 0, none⟩)] w fun e w' => e = .returned (.tuple #[]) ∧ ∃ M', CallI d b0 tb pv pe ne ce pf nf cf fs fn pc nc cc ms m w' M' (stK fs fn ms m s x) ∧ Mv (MvB b0 v) M' w w' := by
  have hxA : HEx w All dx cs x := hx.mono ⟨Nat.le_refl _, fun _ _ _ => rfl⟩ (fun _ _ => trivial)
  cases dx with
  | zero => exact hx.elim
  | succ dx =>
  have HXX : Hid (∀ w', Below w.heap.size w w' → HEx w' All (dx + 1) cs x) := fun w' hw => hxA.mono (SameOn.of_below hw) (fun _ h => h)
  obtain ⟨kx, nx, tx, mx, ks, cl⟩ := x
  obtain ⟨kv, cv, rfl, -, -, -, -, ⟨p1, q1, rfl, -⟩, ⟨p2, q2, rfl, -⟩⟩ := hxA
  have HSa : Hid (kx = 8 → stK fs fn ms m s (.mk kx nx tx mx ks cl) = stC ms m fs fn s (.mk kx nx tx mx ks cl)) := fun h => if_pos h
  have HSb : Hid (¬ kx = 8 → stK fs fn ms m s (.mk kx nx tx mx ks cl) = s) := fun h => if_neg h
  simp only [Ex.kind, Ex.n, Ex.text, Ex.mod, Ex.kids, Ex.clauses] at *
  clear hx
  have hl' : s.length + 1 ≤ 1048576 := hl
  clear hl
  generalize hX : Ex.mk kx nx tx mx ks cl = X at *
  generalize ks.length = nk at *
  generalize cl.length = nd at *
  obtain ⟨W1, hW1⟩ : ∃ W1, W1 = w.alloc (.cells #[.int .i64 kx, .int .i64 nx, .string tx, .string mx, .slice p1 nk q1, .slice p2 nd q2] 73) := ⟨_, rfl⟩
  have B1 : Hid (Below w.heap.size w W1) := by show Below _ _ _; rw [hW1]; exact (Below.refl _ _).alloc (Nat.le_refl _) _
  have I1 : Hid (CbI d b0 pv #[.string m.name, .slice pe ne ce, .slice pf nf cf] #[.string fs, .int .i64 fn, .slice pc nc cc] ms m W1 v s) := h.next B1.out
  have T1 : Hid (Blk W1 tb #[(.func (.func 68) #[] #[.pointer (some ⟨b0, 0, none⟩), .pointer (some ⟨b0 + 1, 0, none⟩), .pointer (some ⟨b0 + 1 + 1, 0, none⟩), .pointer (some ⟨b0 + 1 + 1 + 1 + 1, 0, none⟩)])] 114) := hb.next B1.out
  have HW1 : Hid (W1 = w.alloc (.cells #[.int .i64 kx, .int .i64 nx, .string tx, .string mx, .slice p1 nk q1, .slice p2 nd q2] 73)) := hW1
  have HOK : Hid (okS m.name ∧ okS fs ∧ okI fn) := hok
  have HLT : Hid (b0 + 1 + 1 + 1 + 1 < tb) := hlt
  have t0 : W1.cell? ⟨tb, 0, none⟩ = some (.func (.func 68) #[] #[.pointer (some ⟨b0, 0, none⟩), .pointer (some ⟨b0 + 1, 0, none⟩), .pointer (some ⟨b0 + 1 + 1, 0, none⟩), .pointer (some ⟨b0 + 1 + 1 + 1 + 1, 0, none⟩)]) := T1.out.cell 0 _ rfl
  have HOW : Hid (∀ g, v.ownBlock = some g → w.heap[tb]? ≠ w.heap[g]?) := fun g hg e => by
    obtain ⟨⟨cells, g1, g2⟩, g3⟩ := h.own
    rcases g1.2 with ⟨rfl, _⟩ | ⟨g2', cap2, cur2, rfl, _, hh2, _⟩
    · simp [Value.ownBlock] at hg
    · simp [Value.ownBlock] at hg
      subst hg
      rw [hh2, show w.heap[tb]? = _ from hb] at e
      simp at e
  have HNT : Hid (¬ MvB b0 v tb) := fun e => by
    rcases e with e | e
    · omega
    · exact HOW.out tb e rfl
  have HHB : Hid (Blk w tb #[(.func (.func 68) #[] #[.pointer (some ⟨b0, 0, none⟩), .pointer (some ⟨b0 + 1, 0, none⟩), .pointer (some ⟨b0 + 1 + 1, 0, none⟩), .pointer (some ⟨b0 + 1 + 1 + 1 + 1, 0, none⟩)])] 114) := hb
  rw [hW1] at t0
  clear h hb hX hW1
  by_cases hk : kx = 8
  · subst hk
    have hkb : ((8 : Int) == 8) = true := by simp
    have HS2 : Hid (stK fs fn ms m s X = stC ms m fs fn s X) := HSa.out rfl
    go_enter Tryz.func94, Tryz.ntmps94
    go_wp2_with fail
    rw [← HW1.out]
    refine (cb_any d (dx + 1) b0 pv pe ne ce pf nf cf fs fn pc nc cc ms m W1 v s _ X I1.out (HXX.out _ B1.out) HOK.out hl').mono ?_
    rintro e w2 ⟨rfl, v2, i2, m2⟩
    have HR : Hid (∃ M', CallI d b0 tb pv pe ne ce pf nf cf fs fn pc nc cc ms m w2 M' (stK fs fn ms m s X) ∧ Mv (MvB b0 v) M' w w2) := ⟨_, ⟨v2, rfl, by rw [HS2.out]; exact i2, m2.blk T1.out HNT.out, HLT.out⟩, (Mv.of_below B1.out).trans m2⟩
    clear i2 m2 t0
    go_wp2_with fail
    go_end0
    exact ⟨rfl, HR.out⟩
  · have hkb : (kx == 8) = false := by simpa using hk
    have HS2 : Hid (stK fs fn ms m s X = s) := HSb.out hk
    clear t0
    go_enter Tryz.func94, Tryz.ntmps94
    go_wp2_with fail
    rw [← HW1.out]
    go_end0
    exact ⟨rfl, _, ⟨v, rfl, by rw [HS2.out]; exact I1.out, T1.out, HLT.out⟩, Mv.of_below B1.out⟩

set_option maxHeartbeats 8000000 in
theorem tells (hok : okS m.name ∧ okS fs ∧ okI fn) : Tells 94 tb (CallI d b0 tb pv pe ne ce pf nf cf fs fn pc nc cc ms m) (fun s _ => s.length + 1 ≤ 1048576) (stK fs fn ms m) (fun g => g < b0) where
  off := by
    rintro w M s ⟨v, rfl, h, hb, hlt⟩
    refine ⟨fun g hg e => ?_, fun g e => ?_, fun g hg => ?_⟩
    · have hg' : g < b0 := hg
      rcases e with e | e
      · omega
      · obtain ⟨⟨cells, g1, g2⟩, g3⟩ := h.own
        have := (owns_own_lt g1 e).1
        omega
    · rcases e with e | e
      · have := h.l.lt; omega
      · obtain ⟨⟨cells, g1, g2⟩, g3⟩ := h.own
        exact (owns_own_lt g1 e).2
    · have hg' : g < b0 := hg
      have := h.p.lt
      omega
  next := by
    rintro w w' M s ⟨v, rfl, h, hb, hlt⟩ hbel
    exact ⟨v, rfl, h.next hbel, hb.next hbel, hlt⟩
  call := by
    rintro w M s dx cs x ⟨v, rfl, h, hb, hlt⟩ hx hl
    exact tells_call d b0 tb pv pe ne ce pf nf cf fs fn pc nc cc ms m hok w s dx cs x v h hb hlt hx hl
end
end Go.Proofs.YtigfmdfgioccjaaGreatDoor
/-
  The program's problems of a function's calls.
-/
namespace Go.Proofs.YtigfmdfgioccjaaGreatDoor
open Go.ChangeShapes Go.WideShapes Go.ChangeAt Go.RowKit
set_option linter.unusedVariables false
set_option maxRecDepth 100000

section
variable (d b0 : Nat) (pv : Value) (pe : Option Addr) (ne ce : Nat) (pf : Option Addr) (nf cf : Nat) (fs : ByteArray) (fn : Int) (pc : Option Addr) (nc cc : Nat) (ms : List Md) (m : Md)

set_option maxHeartbeats 8000000 in
theorem eachCall_any (hok : okS m.name ∧ okS fs ∧ okI fn) (w : World) (s : List Pb) (v : Value) (cl : List Cl) (h : CbI d b0 pv #[.string m.name, .slice pe ne ce, .slice pf nf cf] #[.string fs, .int .i64 fn, .slice pc nc cc] ms m w v s) (hr : Rows w (fun g => g < b0) 2 (HCl w (fun g => g < b0) (HEx w (fun g => g < b0) d)) (.slice pc nc cc) cl)
    (hR : Runs (fun (s : List Pb) _ => s.length + 1 ≤ 1048576) (stK fs fn ms m) s (cl.flatMap fun c => c.2.flatMap (preX d))) :
    Calls Tryz.prog 67 #[.agg #[.string fs, .int .i64 fn, .slice pc nc cc], (.func (.func 68) #[] #[.pointer (some ⟨b0, 0, none⟩), .pointer (some ⟨b0 + 1, 0, none⟩), .pointer (some ⟨b0 + 1 + 1, 0, none⟩), .pointer (some ⟨b0 + 1 + 1 + 1 + 1, 0, none⟩)])] w fun e w' => e = .returned (.tuple #[]) ∧ ∃ v', CbI d b0 pv #[.string m.name, .slice pe ne ce, .slice pf nf cf] #[.string fs, .int .i64 fn, .slice pc nc cc] ms m w' v' ((cl.flatMap fun c => c.2.flatMap (preX d)).foldl (stK fs fn ms m) s) ∧ Mv (MvB b0 v) (MvB b0 v') w w' := by
  obtain ⟨W2, hW2⟩ : ∃ W2, W2 = ((w.alloc (.cells #[.string fs, .int .i64 fn, .slice pc nc cc] 52)).alloc (.cells #[(.func (.func 68) #[] #[.pointer (some ⟨b0, 0, none⟩), .pointer (some ⟨b0 + 1, 0, none⟩), .pointer (some ⟨b0 + 1 + 1, 0, none⟩), .pointer (some ⟨b0 + 1 + 1 + 1 + 1, 0, none⟩)])] 114)) := ⟨_, rfl⟩
  have B2 : Hid (Below w.heap.size w W2) := by show Below _ _ _; rw [hW2]; exact ((Below.refl _ _).alloc (Nat.le_refl _) _).alloc (by simp only [alloc_hs]; omega) _
  have TT := tells d b0 (w.heap.size + 1) pv pe ne ce pf nf cf fs fn pc nc cc ms m hok
  have HT : Hid (Tells 94 (w.heap.size + 1) (CallI d b0 (w.heap.size + 1) pv pe ne ce pf nf cf fs fn pc nc cc ms m) (fun s _ => s.length + 1 ≤ 1048576) (stK fs fn ms m) (fun g => g < b0)) := TT
  have bT : Blk W2 (w.heap.size + 1) #[(.func (.func 68) #[] #[.pointer (some ⟨b0, 0, none⟩), .pointer (some ⟨b0 + 1, 0, none⟩), .pointer (some ⟨b0 + 1 + 1, 0, none⟩), .pointer (some ⟨b0 + 1 + 1 + 1 + 1, 0, none⟩)])] 114 := by
    rw [hW2]
    have := Blk.new (w := w.alloc (.cells #[.string fs, .int .i64 fn, .slice pc nc cc] 52)) (cs := #[(.func (.func 68) #[] #[.pointer (some ⟨b0, 0, none⟩), .pointer (some ⟨b0 + 1, 0, none⟩), .pointer (some ⟨b0 + 1 + 1, 0, none⟩), .pointer (some ⟨b0 + 1 + 1 + 1 + 1, 0, none⟩)])]) (t := 114)
    rw [alloc_hs] at this
    exact this
  have I2 : Hid (CallI d b0 (w.heap.size + 1) pv pe ne ce pf nf cf fs fn pc nc cc ms m W2 (MvB b0 v) s) := ⟨v, rfl, h.next B2.out, bT, by have := h.l.lt; omega⟩
  have HOF : Hid (∀ g, g < b0 → ¬ MvB b0 v g) := (TT.off _ _ _ I2.out).1
  obtain ⟨p, cap, hv, hcl, hcm, hx⟩ := hr
  simp only [Value.slice.injEq] at hv
  obtain ⟨rfl, hnc, rfl⟩ := hv
  have hnb : nc ≤ 9223372036854775807 := by unfold maxLen at hcm; omega
  have HN : Hid (cl.length = nc) := hnc.symm
  have HX : Hid (cl ≠ [] → ∃ g off, pc = some ⟨g, off, none⟩ ∧ g < b0 ∧ g < w.heap.size ∧ ∀ i x, cl[i]? = some x → ∃ cs, cs.length = 2 ∧ (∀ j, j < 2 → w.cell? ⟨g, off + i * 2 + j, none⟩ = cs[j]?) ∧ HCl w (fun g => g < b0) (HEx w (fun g => g < b0) d) cs x) := hx
  have HR : Hid (Runs (fun (s : List Pb) _ => s.length + 1 ≤ 1048576) (stK fs fn ms m) s (cl.flatMap fun c => c.2.flatMap (preX d))) := hR
  have HW2 : Hid (W2 = ((w.alloc (.cells #[.string fs, .int .i64 fn, .slice pc nc cc] 52)).alloc (.cells #[(.func (.func 68) #[] #[.pointer (some ⟨b0, 0, none⟩), .pointer (some ⟨b0 + 1, 0, none⟩), .pointer (some ⟨b0 + 1 + 1, 0, none⟩), .pointer (some ⟨b0 + 1 + 1 + 1 + 1, 0, none⟩)])] 114))) := hW2
  clear hx hR hW2 bT TT h hnc hcl
  go_enter Tryz.func67, Tryz.ntmps67
  go_wp2_with fail
  rw [← HW2.out]
  go_loopw [9] (fun iv wr => ∃ k : Nat, k ≤ nc ∧ iv = .int .i64 k ∧ Hid (∃ M', CallI d b0 (w.heap.size + 1) pv pe ne ce pf nf cf fs fn pc nc cc ms m wr M' (((cl.take k).flatMap fun c => c.2.flatMap (preX d)).foldl (stK fs fn ms m) s) ∧ Mv (MvB b0 v) M' w wr)) (fun iv _ => nc - (intOf iv).toNat)
  case atStart => exact ⟨0, Nat.zero_le _, rfl, ⟨_, by simpa using I2.out, Mv.of_below B2.out⟩⟩
  case round =>
    obtain ⟨k, hk, rfl, HVk⟩ := hrel
    obtain ⟨Mk, ik, mk⟩ := HVk.out
    have IK : Hid (CallI d b0 (w.heap.size + 1) pv pe ne ce pf nf cf fs fn pc nc cc ms m wr Mk (((cl.take k).flatMap fun c => c.2.flatMap (preX d)).foldl (stK fs fn ms m) s)) := ik
    have MK : Hid (Mv (MvB b0 v) Mk w wr) := mk
    clear HVk ik mk
    by_cases hlt : k < nc
    · obtain ⟨c, hck⟩ : ∃ c, cl[k]? = some c := ⟨cl[k]'(by rw [HN.out]; exact hlt), List.getElem?_eq_getElem _⟩
      obtain ⟨g, off, rfl, hgm, hgl, hat⟩ := HX.out (by intro h; rw [h] at hck; simp at hck)
      obtain ⟨cs, hcsl, hcs, pv', bv, rfl, rp, rb⟩ := hat k c hck
      have SK : Hid (SameOn (fun g => g < b0) w wr) := MK.out.sameOn HOF.out
      have RB : Hid (Rows wr (fun g => g < b0) 6 (HEx wr (fun g => g < b0) d) bv c.2) := Rows.mono rb SK.out (fun _ h => h) (fun _ _ _ h => h.mono SK.out (fun _ h => h))
      obtain ⟨pp, capp, rfl, -⟩ := rp
      obtain ⟨pb, capb, rfl, -⟩ := rb
      have hge : wr.heap[g]? = w.heap[g]? := SK.out.2 g hgm hgl
      have a0 := (World.cell?_of_block (a := ⟨g, off + k * 2 + 0, none⟩) hge).trans (hcs 0 (by omega))
      have a1 := (World.cell?_of_block (a := ⟨g, off + k * 2 + 1, none⟩) hge).trans (hcs 1 (by omega))
      simp at a0 a1
      obtain ⟨hr1, hj1⟩ := Runs.take k c HR.out hck
      generalize ((cl.take k).flatMap fun c => c.2.flatMap (preX d)).foldl (stK fs fn ms m) s = sk at *
      have HR1 : Hid (Runs (fun (s : List Pb) _ => s.length + 1 ≤ 1048576) (stK fs fn ms m) sk (c.2.flatMap (preX d))) := hr1
      have HJ1 : Hid (((cl.take (k + 1)).flatMap fun c => c.2.flatMap (preX d)).foldl (stK fs fn ms m) s = (c.2.flatMap (preX d)).foldl (stK fs fn ms m) sk) := hj1
      have hki : (k : Int) < (nc : Int) := by omega
      have hk0 : (0 : Int) ≤ (k : Int) := by omega
      have HBC : Hid (Below wr.heap.size wr (wr.alloc (.cells #[.slice pp c.1.length capp, .slice pb c.2.length capb] 69))) := (Below.refl _ _).alloc (Nat.le_refl _) _
      clear hat hcs hcsl hge hr1 hj1
      go_wp2_with fail
      refine (eachOfC_all HT.out d _ Mk sk _ c.2 (Rows.mono RB.out (SameOn.of_below HBC.out) (fun _ h => h) (fun _ _ _ h => h.mono (SameOn.of_below HBC.out) (fun _ h => h))) (HT.out.next _ _ _ _ IK.out HBC.out) HR1.out).mono ?_
      rintro e w3 ⟨rfl, M3, i3, m3⟩
      have HI4 : Hid (∃ M', CallI d b0 (w.heap.size + 1) pv pe ne ce pf nf cf fs fn (some ⟨g, off, none⟩) nc cc ms m w3 M' (((cl.take (k + 1)).flatMap fun c => c.2.flatMap (preX d)).foldl (stK fs fn ms m) s) ∧ Mv (MvB b0 v) M' w w3) := ⟨M3, by rw [HJ1.out]; exact i3, (MK.out.trans (Mv.of_below HBC.out)).trans m3⟩
      clear i3 m3 a0 a1
      go_wp2_with fail
      exact ⟨⟨k + 1, by omega, by go_num, HI4⟩, by simp [intOf]; omega⟩
    · have HS : Hid (∃ v', CbI d b0 pv #[.string m.name, .slice pe ne ce, .slice pf nf cf] #[.string fs, .int .i64 fn, .slice pc nc cc] ms m wr v' ((cl.flatMap fun c => c.2.flatMap (preX d)).foldl (stK fs fn ms m) s) ∧ Mv (MvB b0 v) (MvB b0 v') w wr) := by
        have h1 := IK.out
        rw [show cl.take k = cl from List.take_of_length_le (by rw [HN.out]; omega)] at h1
        obtain ⟨v', rfl, h2, -, -⟩ := h1
        exact ⟨v', h2, MK.out⟩
      go_wp2_with fail
      go_end0
      exact ⟨rfl, HS.out⟩
end
end Go.Proofs.YtigfmdfgioccjaaGreatDoor
/-
  The program's problems of a function's calls.
-/
namespace Go.Proofs.YtigfmdfgioccjaaGreatDoor
open Go.ChangeShapes Go.WideShapes Go.ChangeAt Go.RowKit
set_option linter.unusedVariables false
set_option maxRecDepth 100000

theorem fn_tight {w : World} {S : Nat → Prop} {d : Nat} {cs : List Value} {f : Fn'} (h : HFn w S d cs f) : HFn w (fun g => g < w.heap.size) d cs f := by
  obtain ⟨cv, rfl, h1, h2, hc⟩ := h
  refine ⟨cv, rfl, h1, h2, hc.tight (fun _ _ h => ?_)⟩
  obtain ⟨p, b, rfl, g1, g2⟩ := h
  exact ⟨p, b, rfl, g1.tight (fun _ _ h => h.tight), g2.tight (fun _ _ h => h.tight)⟩
theorem md_tight {w : World} {S : Nat → Prop} {d : Nat} {cs : List Value} {m : Md} (h : HMd w S d cs m) : HMd w (fun g => g < w.heap.size) d cs m := by
  obtain ⟨ev, fv, rfl, h1, he, hf⟩ := h
  exact ⟨ev, fv, rfl, h1, he.tight (fun _ _ h => h), hf.tight (fun _ _ h => fn_tight h)⟩

set_option maxHeartbeats 8000000 in
theorem callProblems_any (d : Nat) (w : World) (pv : Value) (ms : List Md) (mc : List Value) (m : Md) (cs : List Value) (f : Fn') (h : Rows w All 3 (HMd w All d) pv ms) (hm : HMd w All d mc m) (hf : HFn w All d cs f)
    (hR : Runs (fun (s : List Pb) _ => s.length + 1 ≤ 1048576) (stK f.name f.arity ms m) [] (f.clauses.flatMap fun c => c.2.flatMap (preX d))) :
    Calls Tryz.prog 42 #[.agg #[pv], .agg mc.toArray, .agg cs.toArray] w fun e w' => ∃ u, e = .returned u ∧ OwnP w' w.heap.size u ((f.clauses.flatMap fun c => c.2.flatMap (preX d)).foldl (stK f.name f.arity ms m) []) ∧ Below w.heap.size w w' := by
  have hmT : HMd w (fun g => g < w.heap.size) d mc m := md_tight hm
  have hrT : Rows w (fun g => g < w.heap.size) 3 (HMd w (fun g => g < w.heap.size) d) pv ms := Rows.tight h (fun _ _ h => md_tight h)
  have hfT : HFn w (fun g => g < w.heap.size) d cs f := fn_tight hf
  obtain ⟨p, cap, rfl, -⟩ := id h
  obtain ⟨ev, fv, rfl, hms, ⟨pe, ce, rfl, -⟩, ⟨pf, cf, rfl, -⟩⟩ := id hm
  obtain ⟨cv, rfl, hfs, hfn, hcl⟩ := hfT
  obtain ⟨pc, cc, rfl, -⟩ := id hcl
  generalize ms.length = n at *
  generalize m.exports.length = ne at *
  generalize m.funs.length = nf at *
  generalize f.clauses = cl at *
  generalize cl.length = nc at *
  generalize f.name = fs at *
  generalize f.arity = fn at *
  obtain ⟨W5, hW5⟩ : ∃ W5, W5 = (((((w.alloc (.cells #[.slice p n cap] 56)).alloc (.cells #[.string m.name, .slice pe ne ce, .slice pf nf cf] 42)).alloc (.cells #[.string fs, .int .i64 fn, .slice pc nc cc] 52)).alloc (.cells #[] 47)).alloc (.cells #[(.slice (some ⟨w.heap.size + 1 + 1 + 1, 0, none⟩) 0 0)] 24)) := ⟨_, rfl⟩
  have B5 : Hid (Below w.heap.size w W5) := by
    show Below _ _ _
    rw [hW5]
    exact (((((Below.refl _ _).alloc (Nat.le_refl _) _).alloc (by simp only [alloc_hs]; omega) _).alloc (by simp only [alloc_hs]; omega) _).alloc (by simp only [alloc_hs]; omega) _).alloc (by simp only [alloc_hs]; omega) _
  have hsm : SameOn (fun g => g < w.heap.size) w W5 := SameOn.of_low B5.out
  have b2 := Blk.new (w := (w.alloc (.cells #[.slice p n cap] 56))) (cs := #[.string m.name, .slice pe ne ce, .slice pf nf cf]) (t := 42)
  have b3 := Blk.new (w := ((w.alloc (.cells #[.slice p n cap] 56)).alloc (.cells #[.string m.name, .slice pe ne ce, .slice pf nf cf] 42))) (cs := #[.string fs, .int .i64 fn, .slice pc nc cc]) (t := 52)
  have b5 := Blk.new (w := ((((w.alloc (.cells #[.slice p n cap] 56)).alloc (.cells #[.string m.name, .slice pe ne ce, .slice pf nf cf] 42)).alloc (.cells #[.string fs, .int .i64 fn, .slice pc nc cc] 52)).alloc (.cells #[] 47))) (cs := #[(.slice (some ⟨w.heap.size + 1 + 1 + 1, 0, none⟩) 0 0)]) (t := 24)
  have o4 := (OwnG.fresh (w := (((w.alloc (.cells #[.slice p n cap] 56)).alloc (.cells #[.string m.name, .slice pe ne ce, .slice pf nf cf] 42)).alloc (.cells #[.string fs, .int .i64 fn, .slice pc nc cc] 52))) (e := 47) (c := 4) (R := HPb)).next ((Below.refl _ _).alloc (Nat.le_refl _) (.cells #[(.slice (some ⟨w.heap.size + 1 + 1 + 1, 0, none⟩) 0 0)] 24))
  simp only [alloc_hs] at b2 b3 b5 o4
  have HI : Hid (CbI d w.heap.size (.slice p n cap) #[.string m.name, .slice pe ne ce, .slice pf nf cf] #[.string fs, .int .i64 fn, .slice pc nc cc] ms m W5 (.slice (some ⟨w.heap.size + 1 + 1 + 1, 0, none⟩) 0 0) []) := by
    refine ⟨?_, ?_, ?_, ?_, ?_, hrT.mono hsm (fun _ h => h) (fun _ _ _ h => h.mono hsm (fun _ h => h)), hmT.mono hsm (fun _ h => h)⟩
    · rw [hW5]; exact Blk.new.alloc.alloc.alloc.alloc
    · rw [hW5]; exact b2.alloc.alloc.alloc
    · rw [hW5]; exact b3.alloc.alloc
    · rw [hW5]; exact b5
    · rw [hW5]; exact o4
  have HCL : Hid (Rows W5 (fun g => g < w.heap.size) 2 (HCl W5 (fun g => g < w.heap.size) (HEx W5 (fun g => g < w.heap.size) d)) (.slice pc nc cc) cl) := hcl.mono hsm (fun _ h => h) (fun _ _ _ h => h.mono hsm (fun _ h => h) (fun _ _ => HEx.mono hsm (fun _ h => h)))
  have HOK : Hid (okS m.name ∧ okS fs ∧ okI fn) := ⟨hms, hfs, hfn⟩
  have HR : Hid (Runs (fun (s : List Pb) _ => s.length + 1 ≤ 1048576) (stK fs fn ms m) [] (cl.flatMap fun c => c.2.flatMap (preX d))) := hR
  have HW5 : Hid (W5 = (((((w.alloc (.cells #[.slice p n cap] 56)).alloc (.cells #[.string m.name, .slice pe ne ce, .slice pf nf cf] 42)).alloc (.cells #[.string fs, .int .i64 fn, .slice pc nc cc] 52)).alloc (.cells #[] 47)).alloc (.cells #[(.slice (some ⟨w.heap.size + 1 + 1 + 1, 0, none⟩) 0 0)] 24))) := hW5
  clear hR hcl hrT hmT h hm hf hsm b2 b3 b5 o4 hW5 hms hfs hfn
  go_enter Tryz.func42, Tryz.ntmps42
  go_wp2_with fail
  rw [← HW5.out]
  refine (eachCall_any d w.heap.size (.slice p n cap) pe ne ce pf nf cf fs fn pc nc cc ms m HOK.out W5 [] (.slice (some ⟨w.heap.size + 1 + 1 + 1, 0, none⟩) 0 0) cl HI.out HCL.out HR.out).mono ?_
  rintro e w6 ⟨rfl, v6, i6, m6⟩
  have B6 : Hid (Below w.heap.size w w6) := B5.out.trans (m6.below (fun g hg => by
    rcases hg with hg | hg
    · omega
    · simp [Value.ownBlock] at hg; omega) B5.out.size)
  have O6 : Hid (OwnP w6 w.heap.size v6 ((cl.flatMap fun c => c.2.flatMap (preX d)).foldl (stK fs fn ms m) [])) := i6.own.base (by omega)
  have l6 := i6.l.cell 0 _ rfl
  clear i6 m6
  go_wp2_with fail
  go_ret
  exact ⟨_, rfl, O6.out, B6.out⟩
end Go.Proofs.YtigfmdfgioccjaaGreatDoor
/-
  The program's problems of exports.
-/
namespace Go.Proofs.YtigfmdfgioccjaaGreatDoor
open Go.ChangeShapes Go.WideShapes Go.ChangeAt Go.RowKit
set_option linter.unusedVariables false
set_option maxRecDepth 100000

set_option maxHeartbeats 8000000 in
theorem exportProblems_any (d : Nat) (w : World) (cs : List Value) (m : Md) (h : HMd w All d cs m) (hw : m.exports.length ≤ 1048576) :
    Calls Tryz.prog 37 #[.agg cs.toArray] w fun e w' => ∃ u, e = .returned u ∧ OwnP w' w.heap.size u (m.exports.flatMap (exportP m)) ∧ Below w.heap.size w w' := by
  have HMM : Hid (∀ w', Below w.heap.size w w' → HMd w' All d cs m) := fun w' hw => h.mono (SameOn.of_below hw) (fun _ h => h)
  obtain ⟨ev, fv, rfl, hms, he, hf⟩ := h
  have HFS : Hid (∀ w', Below w.heap.size w w' → Rows w' All 3 (HFn w' All d) fv m.funs) := fun w' hw => hf.mono (SameOn.of_below hw) (fun _ h => h) (fun _ _ _ h => h.mono (SameOn.of_below hw) (fun _ h => h))
  obtain ⟨pf, cf, rfl, -⟩ := hf
  obtain ⟨pe, ce, rfl, hce, hcme, hxe⟩ := he
  have HXE : Hid (m.exports ≠ [] → ∃ g off, pe = some ⟨g, off, none⟩ ∧ All g ∧ g < w.heap.size ∧ ∀ i x, m.exports[i]? = some x → ∃ cs, cs.length = 2 ∧ (∀ j, j < 2 → w.cell? ⟨g, off + i * 2 + j, none⟩ = cs[j]?) ∧ HRf cs x) := hxe
  have HLL : Hid ((m.exports.flatMap (exportP m)).length ≤ 1048576) := by
    have h1 := flat_lenG (exportP m) (fun _ => 1) m.exports (fun r _ => by
      unfold exportP
      split
      · exact Nat.zero_le _
      · exact Nat.le_refl _)
    have h3 : ∀ l : List Rf, (l.map fun _ => 1).sum = l.length := fun l => by
      induction l with
      | nil => rfl
      | cons y l ih => simp only [List.map_cons, List.sum_cons, List.length_cons, ih]; omega
    rw [h3] at h1
    exact Nat.le_trans h1 hw
  have hne : m.exports.length ≤ 9223372036854775807 := by omega
  have HMSN : Hid (okS m.name) := hms
  generalize hn1 : m.exports.length = ne at *
  have HN1 : Hid (m.exports.length = ne) := hn1
  generalize m.funs.length = nf at *
  obtain ⟨W1, hW1⟩ : ∃ W1, W1 = w.alloc (.cells #[.string m.name, .slice pe ne ce, .slice pf nf cf] 42) := ⟨_, rfl⟩
  have b1 : Blk W1 w.heap.size #[.string m.name, .slice pe ne ce, .slice pf nf cf] 42 := by rw [hW1]; exact Blk.new
  have hs1 : W1.heap.size = w.heap.size + 1 := by rw [hW1, alloc_hs]
  have hb1 : Below w.heap.size w W1 := by rw [hW1]; exact (Below.refl _ _).alloc (Nat.le_refl _) _
  have hal : Below W1.heap.size W1 (W1.alloc (.cells #[] 47)) := (Below.refl _ _).alloc (Nat.le_refl _) _
  have B2 : Hid (Below w.heap.size w (W1.alloc (.cells #[] 47))) := hb1.trans (hal.mono hb1.size)
  have b2 : Hid (Blk (W1.alloc (.cells #[] 47)) w.heap.size #[.string m.name, .slice pe ne ce, .slice pf nf cf] 42) := b1.next hal
  have O2 : Hid (OwnP (W1.alloc (.cells #[] 47)) w.heap.size (.slice (some ⟨w.heap.size + 1, 0, none⟩) 0 0) []) := by
    have := (OwnG.fresh (w := W1) (e := 47) (c := 4) (R := HPb)).base (B' := w.heap.size) (by omega)
    rw [hs1] at this
    exact this
  have HW1 : Hid (W1 = w.alloc (.cells #[.string m.name, .slice pe ne ce, .slice pf nf cf] 42)) := hW1
  clear hxe hn1 b1 hb1 hal hs1 hms hce hcme hw hW1
  go_enter Tryz.func37, Tryz.ntmps37
  go_wp2_with fail
  rw [← HW1.out]
  go_loopw [3, 10] (fun ov iv wx => ∃ k : Nat, k ≤ ne ∧ iv = .int .i64 k ∧ Hid (OwnP wx w.heap.size ov ((m.exports.take k).flatMap (exportP m))) ∧ Hid (Below w.heap.size w wx) ∧ Hid (Blk wx w.heap.size #[.string m.name, .slice pe ne ce, .slice pf nf cf] 42)) (fun _ iv _ => ne - (intOf iv).toNat)
  case atStart => exact ⟨0, Nat.zero_le _, rfl, by show OwnP _ _ _ _; simpa using O2.out, B2, b2⟩
  case round =>
    obtain ⟨k, hk, rfl, ho, hb, bb⟩ := hrel
    clear O2 B2 b2
    by_cases hlk : k < ne
    · obtain ⟨r, hrk⟩ : ∃ r, m.exports[k]? = some r := ⟨m.exports[k]'(by rw [HN1.out]; exact hlk), List.getElem?_eq_getElem _⟩
      obtain ⟨g6, o6, rfl, -, hgl6, hat6⟩ := HXE.out (by intro h; rw [h] at hrk; simp at hrk)
      obtain ⟨cs6, hcsl6, hcs6, rfl, hrs, hri⟩ := hat6 k r hrk
      have a0 := hcs6 0 (by omega)
      have a1 := hcs6 1 (by omega)
      rw [← hb.out.cell (p := ⟨g6, _, none⟩) hgl6] at a0 a1
      simp at a0 a1
      have hki6 : (k : Int) < (ne : Int) := by omega
      have hk06 : (0 : Int) ≤ (k : Int) := by omega
      obtain ⟨HJ, HL⟩ := flat_takeG (exportP m) m.exports k r hrk
      have HJ6 : Hid ((m.exports.take (k + 1)).flatMap (exportP m) = (m.exports.take k).flatMap (exportP m) ++ exportP m r) := HJ
      have HL6 : Hid (((m.exports.take k).flatMap (exportP m)).length + (exportP m r).length ≤ 1048576) := Nat.le_trans HL HLL.out
      have HEP : Hid (exportP m r = if hasF m r.name r.arity then [] else [⟨m.name, r.name, r.arity, cExport⟩]) := rfl
      have HHF : Hid (hasF m r.name r.arity = m.funs.any (sameR ⟨r.name, r.arity⟩)) := rfl
      obtain ⟨rs, rn⟩ := r
      simp only at *
      have HPB : Hid (HPb [.string m.name, .string rs, .int .i64 rn, .string ⟨#[101, 120, 112, 111, 114, 116]⟩] ⟨m.name, rs, rn, cExport⟩) := ⟨rfl, HMSN.out, hrs, hri, okS_export⟩
      obtain ⟨W6, hW6⟩ : ∃ W6, W6 = wr.alloc (.cells #[.string rs, .int .i64 rn] 44) := ⟨_, rfl⟩
      obtain ⟨br, hbr⟩ : ∃ br, br = wr.heap.size := ⟨_, rfl⟩
      have hbl : Below wr.heap.size wr W6 := by rw [hW6]; exact (Below.refl _ _).alloc (Nat.le_refl _) _
      have br6 : Hid (Blk W6 br #[.string rs, .int .i64 rn] 44) := by show Blk _ _ _ _; rw [hW6, hbr]; exact Blk.new
      have bm6 : Hid (Blk W6 w.heap.size #[.string m.name, .slice (some ⟨g6, o6, none⟩) ne ce, .slice pf nf cf] 42) := bb.out.next hbl
      have HB6 : Hid (Below w.heap.size w W6) := hb.out.trans (hbl.mono hb.out.size)
      have HO6 : Hid (OwnP W6 w.heap.size u3 ((m.exports.take k).flatMap (exportP m))) := ho.out.next hbl
      have HW6 : Hid (W6 = wr.alloc (.cells #[.string rs, .int .i64 rn] 44)) := hW6
      have HBR : Hid (wr.heap.size = br) := hbr.symm
      have y2 := bm6.out.cell 2 _ rfl
      rw [hW6] at y2
      generalize hJ0 : (m.exports.take k).flatMap (exportP m) = J at *
      clear hcs6 hcsl6 hat6 HJ HL hW6 hbr hbl hJ0 hrk hrs hri ho hb bb
      go_wp2_with fail
      rw [← HW6.out]
      clear y2 a0 a1
      refine (hasFun_any d _ _ m.funs ⟨rs, rn⟩ (HFS.out _ HB6.out)).mono ?_
      rintro e w7 ⟨rfl, hb7⟩
      rw [← HHF.out]
      have br7 : Hid (Blk w7 br #[.string rs, .int .i64 rn] 44) := br6.out.next hb7
      have bm7 : Hid (Blk w7 w.heap.size #[.string m.name, .slice (some ⟨g6, o6, none⟩) ne ce, .slice pf nf cf] 42) := bm6.out.next hb7
      have HB7 : Hid (Below w.heap.size w w7) := HB6.out.trans (hb7.mono HB6.out.size)
      have HO7 : Hid (OwnP w7 w.heap.size u3 J) := HO6.out.next hb7
      clear hb7
      rw [HBR.out]
      have y0 := bm7.out.cell 0 _ rfl
      have y1 := bm7.out.cell 1 _ rfl
      have y2 := bm7.out.cell 2 _ rfl
      have r0 := br7.out.cell 0 _ rfl
      have r1 := br7.out.cell 1 _ rfl
      cases hF : hasF m rs rn with
      | true =>
        have HO9 : Hid (OwnP w7 w.heap.size u3 ((m.exports.take (k + 1)).flatMap (exportP m))) := by show OwnP _ _ _ _; rw [HJ6.out, HEP.out, hF]; simpa using HO7.out
        go_wp2_with fail
        exact ⟨⟨k + 1, by omega, by go_num, HO9, HB7, bm7⟩, by simp [intOf]; omega⟩
      | false =>
        have HE2 : Hid (exportP m ⟨rs, rn⟩ = [⟨m.name, rs, rn, cExport⟩]) := by show _ = _; rw [HEP.out, hF]; rfl
        go_wp2_with fail
        refine (problemOf_any _ m.name (some ⟨g6, o6, none⟩) pf ne ce nf cf rs rn ⟨#[101, 120, 112, 111, 114, 116]⟩).mono ?_
        rintro e w8 ⟨rfl, hb8⟩
        have bm8 : Hid (Blk w8 w.heap.size #[.string m.name, .slice (some ⟨g6, o6, none⟩) ne ce, .slice pf nf cf] 42) := bm7.out.next hb8
        have HB8 : Hid (Below w.heap.size w w8) := HB7.out.trans (hb8.mono HB7.out.size)
        have HO8 : Hid (OwnP w8 w.heap.size u3 J) := HO7.out.next hb8
        clear hb8 y0 y1 y2 r0 r1
        go_wp2_with (at_builtin; refine wpList_append_one rfl _ _ 24 rfl _ 56 Tryz.underlying24 info_pb rfl (by decide) HO8.out #[.string m.name, .string rs, .int .i64 rn, .string ⟨#[101, 120, 112, 111, 114, 116]⟩] ⟨m.name, rs, rn, cExport⟩ HPB.out rfl (pb_oneCell _ _ HPB.out) rfl rfl (by have := HL6.out; rw [HE2.out] at this; exact this) (by decide) ?_; intro v9 w9 ho9 hb9 hap9)
        have HO9 : Hid (OwnP w9 w.heap.size v9 ((m.exports.take (k + 1)).flatMap (exportP m))) := by show OwnP _ _ _ _; rw [HJ6.out, HE2.out]; exact ho9
        have HB9 : Hid (Below w.heap.size w w9) := HB8.out.trans hb9
        have b9 : Hid (Blk w9 w.heap.size #[.string m.name, .slice (some ⟨g6, o6, none⟩) ne ce, .slice pf nf cf] 42) := hap9.blk bm8.out (by decide)
        clear ho9 hb9 hap9
        go_wp2_with fail
        exact ⟨⟨k + 1, by omega, by go_num, HO9, HB9, b9⟩, by simp [intOf]; omega⟩
    · have HR : Hid (OwnP wr w.heap.size u3 (m.exports.flatMap (exportP m))) := by
        have := ho.out
        rwa [show m.exports.take k = m.exports from List.take_of_length_le (by rw [HN1.out]; omega)] at this
      clear ho
      go_wp2_with fail
      go_ret
      exact ⟨_, rfl, HR.out, hb.out⟩
end Go.Proofs.YtigfmdfgioccjaaGreatDoor
/-
  A range over a method value: the iterator's receiver is bound; the body never leaves the loop; what the iterator lays for itself lies on while the rounds go.
-/
namespace Go.Proofs.YtigfmdfgioccjaaGreatDoor
open Go.ChangeShapes Go.WideShapes Go.ChangeAt Go.RowKit Go.Maps Go.WideMaps Go.Shelf
set_option linter.unusedVariables false
set_option maxRecDepth 100000

theorem grown_of {A B : World} (h : Below A.heap.size A B) : A.grownBy B none := ⟨h.os, h.tape, h.output, h.size, fun k hk _ => h.block k hk⟩

theorem range_bound {α : Type} {F : Fence} {n : Nat} {P : Program} {g : Operand} {ps : Array Tmp} {assign body : Code} {Q : Exit → Act → World → Prop} {a : Act} {w : World}
    (hro : F.round = none) (h1 : 1 ≤ n) {gf : Nat} {bs : Array Value} (hg : a.eval g = .func (.func gf) bs #[]) (hFg : F.fn gf) (eg : ∀ args w, (callFunc gf args).run P w = .ok (.enter gf args) w)
    {encs : α → Array Value} (hps : ∀ x, (encs x).size = ps.size) (xs : List α)
    (hseq : ∀ (l : Nat) (J : Option Nat → List α → World → Prop) (W : World), Below w.heap.size w W →
      (∀ q s A B, J q s A → Below A.heap.size A B → J q s B) →
      (∀ s A B b, J none s A → Below A.heap.size A B → A.heap.size ≤ b → b < B.heap.size → J (some b) s B) →
      (∀ q pre x W1, J q pre W1 → pre.length < xs.length → YieldAt F (n - 1 - 1) P l (encs x) W1 fun e W' => e = .returned (.bool true) ∧ J q (pre ++ [x]) W' ∧ ∀ b, q = some b → b < W1.heap.size → W'.heap[b]? = W1.heap[b]?) →
      J none [] W → CallsIn F (n - 1) P gf (bs ++ #[.func (.yield l) #[] #[]]) W fun e W' => (∃ v, e = .returned v) ∧ ∃ q, J q xs W')
    (I : Option Nat → List α → World → Prop) (hI : ∀ q, OwnFrom w.heap.size (I q)) (hIn : ∀ s A B b, I none s A → Below A.heap.size A B → A.heap.size ≤ b → b < B.heap.size → I (some b) s B) (h0 : I none [] w) (a₁ : α → Act)
    (hassign : ∀ (l : Nat) (x : α) (W : World) (K : Act → World → Prop), K (a₁ x) W →
      assign.wpIn (F.inRound l) (n - 1 - 1) P (Exit.then K (fun _ _ _ => False)) { tmps := (ps.zip (encs x)).foldl (fun t (p, v) => t.setIfInBounds p v) a.tmps, defers := [] } W)
    (hbody : ∀ (l : Nat) (q : Option Nat) (pre : List α) (x : α) (W : World), I q pre W → pre.length < xs.length →
      body.wpIn (F.inRound l) (n - 1 - 1) P (fun e _ W' => e = .normal ∧ KeepsOthers W W' ∧ I q (pre ++ [x]) W' ∧ ∀ b, q = some b → b < W.heap.size → W'.heap[b]? = W.heap[b]?) (a₁ x) W)
    (hdone : ∀ (D : Nat) (q : Option Nat) (W : World), w.heap.size ≤ D → I q xs W → W.heap[D]? = some (.deferred (some [])) → Q .normal { a with defers := { target := .collected D, args := #[] } :: a.defers } W) :
    (Code.rangeFunc g ps assign body).wpIn F n P Q a w := by
  refine wpIn_rangeFunc fun fn hfn => ?_
  rw [hro]
  obtain ⟨R, hR⟩ : ∃ R : LoopState → Loop, R = fun st => { state := st, pending := none, fn := fn, tmps := a.tmps, params := ps, assign := assign, body := body, defers := w.heap.size } := ⟨_, rfl⟩
  obtain ⟨L, hL⟩ : ∃ L, L = w.heap.size + 1 := ⟨_, rfl⟩
  obtain ⟨W1, hW1⟩ : ∃ W1, W1 = (w.alloc (.deferred (some []))).alloc (.loop (R .ready)) := ⟨_, rfl⟩
  have b1 : Below w.heap.size w W1 := by rw [hW1]; exact ((Below.refl _ w).alloc (Nat.le_refl _) _).alloc (by simp) _
  have l1 : W1.heap[L]? = some (.loop (R .ready)) := by
    have := World.alloc_heap_new (w.alloc (.deferred (some []))) (.loop (R .ready))
    rw [World.size_alloc] at this
    rw [hW1, hL]; exact this
  have k1 : W1.heap[w.heap.size]? = some (.deferred (some [])) := by rw [hW1]; exact (Below.heap_alloc _ _ _ (by simp)).trans (World.alloc_heap_new w _)
  have i1 : I none [] W1 := by rw [hW1]; exact (hI none).alloc _ ((hI none).alloc _ h0)
  have hLw : w.heap.size ≤ L := by omega
  have hLn : w.heap.size ≠ L := by omega
  refine ⟨L, [{ target := .collected w.heap.size, args := #[] }], W1, { target := .fn (.func gf) #[], args := bs ++ #[.func (.yield L) #[] #[]] }, W1, gf, bs ++ #[.func (.yield L) #[] #[]], W1, ?_, ?_, ?_, ?_, fun _ => h1, ?_⟩
  · rw [hW1, hR, hL]; exact run_enterLoop_outer _ _ _ _ _
  · simp only [resolve, hg]
    simp [go_sem]
  · intro f' hf'; simp [Target.leads] at hf'; subst hf'; exact hFg
  · simp [invoke, go_sem, eg]
  · refine (hseq L (fun q s W => I q s W ∧ W.heap[L]? = some (.loop (R .ready)) ∧ W.heap[w.heap.size]? = some (.deferred (some [])) ∧ ∀ b, q = some b → L < b) W1 b1 ?_ ?_ ?_ ⟨i1, l1, k1, fun b e => by cases e⟩).mono ?_
    · rintro q s A B ⟨ha, hb, hc, hd⟩ hAB
      exact ⟨hI q s A B none ha (grown_of hAB) (fun r e => by cases e), (hAB.block _ (Array.getElem?_eq_some_iff.1 hb).1).trans hb, (hAB.block _ (Array.getElem?_eq_some_iff.1 hc).1).trans hc, hd⟩
    · rintro s A B b ⟨ha, hb, hc, hd⟩ hAB hbs hbB
      exact ⟨hIn s A B b ha hAB hbs hbB, (hAB.block _ (Array.getElem?_eq_some_iff.1 hb).1).trans hb, (hAB.block _ (Array.getElem?_eq_some_iff.1 hc).1).trans hc, fun b' e => by cases e; have := (Array.getElem?_eq_some_iff.1 hb).1; omega⟩
    · rintro q pre x W ⟨hi, hl, hk, hq⟩ hlen
      have hlt : L < W.heap.size := (Array.getElem?_eq_some_iff.1 hl).1
      have hy := run_yield (P := P) (args := encs x) hl (by rw [hR]; exact hps x)
      rw [hR] at hy
      refine ⟨fn, _, assign, body, hy, roundIn_of_wpIn hfn (hassign _ x W _ ⟨_, run_beginRound hl (by rw [hR]), ?_⟩)⟩
      refine wpIn_mono (hbody _ q pre x _ ((hI q).putObj _ hi hLw hl rfl) hlen) ?_
      rintro e a3 W3 ⟨rfl, hk3, hi3, hq3⟩
      have hl2 := hk3.same L _ (World.putObj_heap_same hlt) rfl
      have hk2 := hk3.same w.heap.size _ ((World.putObj_heap_other hLn).trans hk) rfl
      have hr := run_endRound (P := P) none hl2
      refine ⟨_, _, hr, rfl, ⟨(hI q).putObj _ hi3 hLw hl2 rfl, ?_, (World.putObj_heap_other hLn).trans hk2, hq⟩, ?_⟩
      · rw [World.putObj_heap_same (Array.getElem?_eq_some_iff.1 hl2).1, hR]; rfl
      · intro b hb hbl
        have hbL : b ≠ L := by have := hq b hb; omega
        rw [World.putObj_heap_other hbL, hq3 b hb (by simpa using hbl), World.putObj_heap_other hbL]
    · rintro e W2 ⟨⟨v, rfl⟩, q, hi, hl, hk, -⟩
      have he := run_endLoop (P := P) hl (by rw [hR]; simp)
      refine ⟨none, _, by rw [hR] at he; exact he, hdone _ q _ (Nat.le_refl _) ((hI q).putObj _ hi hLw hl rfl) ((World.putObj_heap_other hLn).trans hk)⟩
end Go.Proofs.YtigfmdfgioccjaaGreatDoor
/-
  slices.Backward over a row of expressions, by contract: a loop that goes on to its end, and may write the map in block mb.
-/
namespace Go.Proofs.YtigfmdfgioccjaaGreatDoor
open Go.ChangeShapes Go.WideShapes Go.ChangeAt Go.RowKit Go.Maps Go.WideMaps Go.Shelf
set_option linter.unusedVariables false
set_option maxRecDepth 100000
attribute [local go_sem] Oper.semAt_some

/-- What lay below n₀ lies on, but for block mb. -/
def KeepN (n₀ mb : Nat) (W W' : World) : Prop := W.heap.size ≤ W'.heap.size ∧ ∀ g, g < n₀ → g ≠ mb → W'.heap[g]? = W.heap[g]?
theorem KeepN.cell {n₀ mb : Nat} {W W' : World} (h : KeepN n₀ mb W W') {g j : Nat} (hg : g < n₀) (hm : g ≠ mb) : W'.cell? ⟨g, j, none⟩ = W.cell? ⟨g, j, none⟩ := World.cell?_of_block (h.2 g hg hm)
/-- The first k of a row's cells from its end, each with its index. -/
def backAt (L : List (List Value)) (k : Nat) : List (Nat × List Value) := (List.range k).map fun j => (L.length - 1 - j, L.getD (L.length - 1 - j) [])
theorem backAt_succ (L : List (List Value)) (k : Nat) : backAt L (k + 1) = backAt L k ++ [(L.length - 1 - k, L.getD (L.length - 1 - k) [])] := by simp [backAt, List.range_succ]

set_option maxHeartbeats 4000000 in
theorem back1_in (m : Nat) (l Bn n₀ mb n cap : Nat) (p : Option Addr) (L : List (List Value)) (hn : L.length = n) (hnb : n ≤ 9223372036854775807) (hB : Bn < n₀) (hBm : Bn ≠ mb) (J Jx : List (Nat × List Value) → World → Prop)
    (hY : ∀ pre x W, J pre W → pre.length < n → YieldAt Fence.wide m Tryz.prog l #[.int .i64 (x.1 : Nat), .agg x.2.toArray] W fun e W' => (e = .returned (.bool true) ∧ J (pre ++ [x]) W' ∧ KeepN n₀ mb W W') ∨ (e = .returned (.bool false) ∧ Jx (pre ++ [x]) W'))
    (W : World) (hc : W.cell? ⟨Bn, 0, none⟩ = some (.slice p n cap))
    (hL : ∀ i cs, L[i]? = some cs → cs.length = 6 ∧ ∃ g off, p = some ⟨g, off, none⟩ ∧ g < n₀ ∧ g ≠ mb ∧ ∀ j, j < 6 → W.cell? ⟨g, off + i * 6 + j, none⟩ = cs[j]?) (h0 : J [] W) :
    CallsIn Fence.wide (m + 1) Tryz.prog 134 #[.func (.yield l) #[] #[], .pointer (some ⟨Bn, 0, none⟩)] W fun e W' => (∃ v, e = .returned v) ∧ (J (backAt L n) W' ∨ ∃ pre, Jx pre W') := by
  have HL : Hid (∀ i cs, L[i]? = some cs → cs.length = 6 ∧ ∃ g off, p = some ⟨g, off, none⟩ ∧ g < n₀ ∧ g ≠ mb ∧ ∀ j, j < 6 → W.cell? ⟨g, off + i * 6 + j, none⟩ = cs[j]?) := hL
  have HN : Hid (L.length = n) := hn
  clear hL hn
  refine callsIn_of_wp Tryz.func134 rfl trivial ?_ rfl
  simp only [Tryz.ntmps134, List.size_toArray, List.length_cons, List.length_nil, Nat.reduceAdd, Nat.reduceSub, Array.replicate_succ, Array.replicate_zero, List.push_toArray, List.append_toArray, List.nil_append, List.cons_append]
  gi_wp2
  gi_loopw [3] (fun iv wr => ∃ k : Nat, k ≤ n ∧ iv = .int .i64 ((n : Int) - 1 - k) ∧ Hid (J (backAt L k) wr) ∧ Hid (KeepN n₀ mb W wr)) (fun iv _ => (intOf iv + 1).toNat)
  case atStart => exact ⟨0, Nat.zero_le _, by go_num, h0, Nat.le_refl _, fun _ _ _ => rfl⟩
  case round =>
    obtain ⟨k, hk, rfl, HJ, HK⟩ := hrel
    have xb := (HK.out.cell (j := 0) hB hBm).trans hc
    by_cases hlt : k < n
    · obtain ⟨i, hi⟩ : ∃ i, i = n - 1 - k := ⟨_, rfl⟩
      have hin : i < n := by omega
      have hii : (n : Int) - 1 - k = (i : Int) := by omega
      obtain ⟨cs, hcs⟩ : ∃ cs, L[i]? = some cs := ⟨L[i]'(by rw [HN.out]; exact hin), List.getElem?_eq_getElem _⟩
      obtain ⟨hl6, g, off, rfl, hg, hgm, hat⟩ := HL.out i cs hcs
      obtain ⟨c0, c1, c2, c3, c4, c5, rfl⟩ := len6 hl6
      have a0 := (HK.out.cell hg hgm).trans (hat 0 (by omega))
      have a1 := (HK.out.cell hg hgm).trans (hat 1 (by omega))
      have a2 := (HK.out.cell hg hgm).trans (hat 2 (by omega))
      have a3 := (HK.out.cell hg hgm).trans (hat 3 (by omega))
      have a4 := (HK.out.cell hg hgm).trans (hat 4 (by omega))
      have a5 := (HK.out.cell hg hgm).trans (hat 5 (by omega))
      simp at a0 a1 a2 a3 a4 a5
      have HT : Hid (backAt L (k + 1) = backAt L k ++ [(i, [c0, c1, c2, c3, c4, c5])]) := by
        show _ = _
        rw [backAt_succ, HN.out, ← hi, List.getD_eq_getElem?_getD, hcs]
        rfl
      obtain ⟨fn, tmps, assign, body, hy, hR⟩ := hY (backAt L k) (i, [c0, c1, c2, c3, c4, c5]) wr HJ.out (by simp [backAt]; exact hlt)
      have hi0 : (0 : Int) ≤ (i : Int) := by omega
      have hi1 : (i : Int) < (n : Int) := by omega
      have HII : Hid ((n : Int) - 1 - k = (i : Int)) := hii
      have HIK : Hid (i = n - 1 - k) := hi
      rw [hii]
      clear hat hl6 hi hii
      gi_wp2
      refine hR.mono ?_
      rintro e W3 (⟨rfl, hJ3, hk3⟩ | ⟨rfl, hx3⟩)
      rotate_left
      · gi_wp2
        refine bodyPost_ret (results_none rfl _ _ _) rfl ?_
        exact ⟨⟨_, rfl⟩, .inr ⟨_, hx3⟩⟩
      gi_wp2
      go_roundw
      case rel => exact ⟨k + 1, by omega, by have := HII.out; go_num, by show J _ _; rw [HT.out]; exact hJ3, Nat.le_trans HK.out.1 hk3.1, fun g hg hm => (hk3.2 g hg hm).trans (HK.out.2 g hg hm)⟩
      case measure => simp [intOf]
    · have HS : J (backAt L n) wr := by
        have := HJ.out
        rwa [show k = n by omega] at this
      have hneg : ((n : Int) - 1 - k) = -1 := by omega
      rw [hneg]
      gi_wp2
      go_end0
      exact ⟨⟨_, rfl⟩, .inl HS⟩
/-- The iterator's contract, as the library's laws for a caller's loop want it. -/
theorem back_stops (m Bn n₀ mb n cap : Nat) (p : Option Addr) (L : List (List Value)) (hn : L.length = n) (hnb : n ≤ 9223372036854775807) (hB : Bn < n₀) (hBm : Bn ≠ mb) (w : World) (hw : n₀ ≤ w.heap.size) (hc : w.cell? ⟨Bn, 0, none⟩ = some (.slice p n cap))
    (hL : ∀ i cs, L[i]? = some cs → cs.length = 6 ∧ ∃ g off, p = some ⟨g, off, none⟩ ∧ g < n₀ ∧ g ≠ mb ∧ ∀ j, j < 6 → w.cell? ⟨g, off + i * 6 + j, none⟩ = cs[j]?) :
    SeqStopsK Fence.wide (m + 1) Tryz.prog 134 #[.pointer (some ⟨Bn, 0, none⟩)] (fun x : Nat × List Value => #[.int .i64 (x.1 : Nat), .agg x.2.toArray]) (KeepN n₀ mb) (fun xs => xs = backAt L n) (fun _ => True) n w := by
  intro l J Jx W hW _ _ hY h0
  refine (back1_in m l Bn n₀ mb n cap p L hn hnb hB hBm J Jx hY W ((hW.cell (p := ⟨Bn, 0, none⟩) (Nat.lt_of_lt_of_le hB hw)).trans hc) (fun i cs hi => ?_) h0).mono ?_
  · obtain ⟨h1, g, off, h2, h3, h4, h5⟩ := hL i cs hi
    exact ⟨h1, g, off, h2, h3, h4, fun j hj => (hW.cell (p := ⟨g, _, none⟩) (Nat.lt_of_lt_of_le h3 hw)).trans (h5 j hj)⟩
  · rintro e W' ⟨hv, h | ⟨pre, h⟩⟩
    · exact ⟨hv, .inl ⟨_, rfl, h⟩⟩
    · exact ⟨hv, .inr ⟨pre, trivial, h⟩⟩
theorem keepN_t {n₀ mb : Nat} {A B C : World} (h : KeepN n₀ mb A B) (k : KeepN n₀ mb B C) : KeepN n₀ mb A C := ⟨Nat.le_trans h.1 k.1, fun g hg hm => (k.2 g hg hm).trans (h.2 g hg hm)⟩
theorem keepN_b {n₀ mb : Nat} {w : World} (hw : n₀ ≤ w.heap.size) (W : World) (l : Nat) (o o' : Obj) (hl : w.heap.size ≤ l) (_ : W.heap[l]? = some o) (_ : o.isCells = false) (_ : o.isWalk = false) : KeepN n₀ mb W (W.putObj l o') :=
  ⟨by simp, fun g hg _ => World.putObj_heap_other (by omega)⟩
end Go.Proofs.YtigfmdfgioccjaaGreatDoor
/-
  A range over slices.Backward of a row of expressions, told by the rounds' numbers: each round is told which element it has; the body writes the map in block mb and makes memory, no more.
-/
namespace Go.Proofs.YtigfmdfgioccjaaGreatDoor
open Go.ChangeShapes Go.WideShapes Go.ChangeAt Go.RowKit Go.Maps Go.WideMaps Go.Shelf
set_option linter.unusedVariables false
set_option maxRecDepth 100000
attribute [local go_sem] Oper.semAt_some

theorem below_put {N : Nat} {W : World} {l : Nat} (o' : Obj) (h : N ≤ l) : Below N W (W.putObj l o') := by
  have g := grownBy_putObj' W l o'
  refine ⟨g.os, g.tape, g.output, g.size, fun k hk => World.putObj_heap_other (by omega)⟩

theorem range_idx {F : Fence} {n : Nat} {P : Program} {g : Operand} {ps : Array Tmp} {assign body : Code} {Q : Exit → Act → World → Prop} {a : Act} {w : World}
    (hro : F.round = none) (h1 : 1 ≤ n) {gf : Nat} {lb : Array Value} (hg : a.eval g = .func (.func gf) #[] lb) (hFg : F.fn gf) (eg : ∀ args w, (callFunc gf args).run P w = .ok (.enter gf args) w)
    {encs : Nat → Array Value} (hps : ∀ k, (encs k).size = ps.size) (N mb : Nat) (hmb : mb < w.heap.size)
    (hseq : ∀ (l : Nat) (J : Nat → World → Prop) (W : World), Below w.heap.size w W →
      (∀ k W1, J k W1 → k < N → YieldAt F (n - 1 - 1) P l (encs k) W1 fun e W' => e = .returned (.bool true) ∧ J (k + 1) W' ∧ KeepN w.heap.size mb W1 W') →
      J 0 W → CallsIn F (n - 1) P gf (#[.func (.yield l) #[] #[]] ++ lb) W fun e W' => (∃ v, e = .returned v) ∧ J N W')
    (I : Nat → World → Prop) (hI : ∀ k A B, I k A → w.heap.size ≤ A.heap.size → Below w.heap.size A B → I k B) (h0 : I 0 w)
    (hround : ∀ (l k : Nat) (W : World), I k W → w.heap.size ≤ W.heap.size → k < N → w.heap.size ≤ l →
      assign.wpIn (F.inRound l) (n - 1 - 1) P (Exit.then (fun a' W' => Off [mb] W W' ∧ ∀ r o', W'.heap[l]? = some (.loop r) → body.wpIn (F.inRound l) (n - 1 - 1) P (fun e _ W3 => e = .normal ∧ I (k + 1) W3 ∧ Off [mb] (W'.putObj l o') W3) a' (W'.putObj l o')) (fun _ _ _ => False))
        { tmps := (ps.zip (encs k)).foldl (fun t (p, v) => t.setIfInBounds p v) a.tmps, defers := [] } W)
    (hdone : ∀ (D : Nat) (W : World), w.heap.size ≤ D → I N W → W.heap[D]? = some (.deferred (some [])) → Q .normal { a with defers := { target := .collected D, args := #[] } :: a.defers } W) :
    (Code.rangeFunc g ps assign body).wpIn F n P Q a w := by
  refine wpIn_rangeFunc fun fn hfn => ?_
  rw [hro]
  obtain ⟨R, hR⟩ : ∃ R : LoopState → Loop, R = fun st => { state := st, pending := none, fn := fn, tmps := a.tmps, params := ps, assign := assign, body := body, defers := w.heap.size } := ⟨_, rfl⟩
  obtain ⟨L, hL⟩ : ∃ L, L = w.heap.size + 1 := ⟨_, rfl⟩
  obtain ⟨W1, hW1⟩ : ∃ W1, W1 = (w.alloc (.deferred (some []))).alloc (.loop (R .ready)) := ⟨_, rfl⟩
  have b1 : Below w.heap.size w W1 := by rw [hW1]; exact ((Below.refl _ w).alloc (Nat.le_refl _) _).alloc (by simp) _
  have l1 : W1.heap[L]? = some (.loop (R .ready)) := by
    have := World.alloc_heap_new (w.alloc (.deferred (some []))) (.loop (R .ready))
    rw [World.size_alloc] at this
    rw [hW1, hL]; exact this
  have k1 : W1.heap[w.heap.size]? = some (.deferred (some [])) := by rw [hW1]; exact (Below.heap_alloc _ _ _ (by simp)).trans (World.alloc_heap_new w _)
  have hLw : w.heap.size ≤ L := by omega
  have hLn : w.heap.size ≠ L := by omega
  refine ⟨L, [{ target := .collected w.heap.size, args := #[] }], W1, { target := .fn (.func gf) lb, args := #[.func (.yield L) #[] #[]] }, W1, gf, #[.func (.yield L) #[] #[]] ++ lb, W1, ?_, ?_, ?_, ?_, fun _ => h1, ?_⟩
  · rw [hW1, hR, hL]; exact run_enterLoop_outer _ _ _ _ _
  · simp only [resolve, hg]
    simp [go_sem]
  · intro f' hf'; simp [Target.leads] at hf'; subst hf'; exact hFg
  · simp [invoke, go_sem, eg]
  · refine (hseq L (fun k W => I k W ∧ W.heap[L]? = some (.loop (R .ready)) ∧ W.heap[w.heap.size]? = some (.deferred (some [])) ∧ w.heap.size ≤ W.heap.size) W1 b1 ?_ ⟨hI 0 w W1 h0 (Nat.le_refl _) b1, l1, k1, b1.size⟩).mono ?_
    · rintro k W ⟨hi, hl, hk, hs⟩ hlen
      have hlt : L < W.heap.size := (Array.getElem?_eq_some_iff.1 hl).1
      have hdlt : w.heap.size < W.heap.size := (Array.getElem?_eq_some_iff.1 hk).1
      have hy := run_yield (P := P) (args := encs k) hl (by rw [hR]; exact hps k)
      rw [hR] at hy
      refine ⟨fn, _, assign, body, hy, roundIn_of_wpIn hfn (wpIn_mono (hround L k W hi hs hlen hLw) ?_)⟩
      rintro e a' W' hp
      cases e with
      | normal =>
        obtain ⟨ho, hb⟩ := hp
        have hmL : L ∉ [mb] := by simp; omega
        have hmD : w.heap.size ∉ [mb] := by simp; omega
        have hl' : W'.heap[L]? = some (.loop (R .ready)) := (ho.block L hlt hmL).trans hl
        have hk' : W'.heap[w.heap.size]? = some (.deferred (some [])) := (ho.block _ hdlt hmD).trans hk
        have hlt' : L < W'.heap.size := (Array.getElem?_eq_some_iff.1 hl').1
        refine ⟨_, run_beginRound hl' (by rw [hR]), wpIn_mono (hb _ _ hl') ?_⟩
        rintro e a3 W3 ⟨rfl, hi3, ho3⟩
        have hlp := World.putObj_heap_same (o := .loop { R .ready with state := .busy }) hlt'
        have hl2 := (ho3.block L (by simpa using hlt') hmL).trans hlp
        have hk2 := (ho3.block w.heap.size (by have := ho.size; simp; omega) hmD).trans ((World.putObj_heap_other hLn).trans hk')
        have hr := run_endRound (P := P) none hl2
        have hsz3 : W.heap.size ≤ W3.heap.size := Nat.le_trans ho.size (by have := ho3.size; simpa using this)
        refine ⟨_, _, hr, rfl, ⟨hI _ W3 _ hi3 (Nat.le_trans hs hsz3) (below_put _ hLw), ?_, (World.putObj_heap_other hLn).trans hk2, by simp; omega⟩, ?_⟩
        · rw [World.putObj_heap_same (Array.getElem?_eq_some_iff.1 hl2).1, hR]; rfl
        · refine ⟨by simp; omega, fun b hb hm => ?_⟩
          have hbL : b ≠ L := by omega
          have hbm : b ∉ [mb] := by simpa using hm
          rw [World.putObj_heap_other hbL, ho3.block b (by have := ho.size; simp; omega) hbm, World.putObj_heap_other hbL]
          exact ho.block b (by omega) hbm
      | _ => exact hp.elim
    · rintro e W2 ⟨⟨v, rfl⟩, hi, hl, hk, hs⟩
      have he := run_endLoop (P := P) hl (by rw [hR]; simp)
      refine ⟨none, _, by rw [hR] at he; exact he, hdone _ _ (Nat.le_refl _) (hI _ W2 _ hi hs (below_put _ hLw)) ((World.putObj_heap_other hLn).trans hk)⟩

set_option maxHeartbeats 4000000 in
theorem back_idx (m : Nat) (l Bn n₀ mb n cap : Nat) (p : Option Addr) (L : List (List Value)) (hn : L.length = n) (hnb : n ≤ 9223372036854775807) (hB : Bn < n₀) (hBm : Bn ≠ mb) (J : Nat → World → Prop)
    (hY : ∀ k W, J k W → k < n → YieldAt Fence.wide m Tryz.prog l #[.int .i64 ((n - 1 - k : Nat) : Nat), .agg (L.getD (n - 1 - k) []).toArray] W fun e W' => e = .returned (.bool true) ∧ J (k + 1) W' ∧ KeepN n₀ mb W W')
    (W : World) (hc : W.cell? ⟨Bn, 0, none⟩ = some (.slice p n cap))
    (hL : ∀ i cs, L[i]? = some cs → cs.length = 6 ∧ ∃ g off, p = some ⟨g, off, none⟩ ∧ g < n₀ ∧ g ≠ mb ∧ ∀ j, j < 6 → W.cell? ⟨g, off + i * 6 + j, none⟩ = cs[j]?) (h0 : J 0 W) :
    CallsIn Fence.wide (m + 1) Tryz.prog 134 #[.func (.yield l) #[] #[], .pointer (some ⟨Bn, 0, none⟩)] W fun e W' => (∃ v, e = .returned v) ∧ J n W' := by
  have HL : Hid (∀ i cs, L[i]? = some cs → cs.length = 6 ∧ ∃ g off, p = some ⟨g, off, none⟩ ∧ g < n₀ ∧ g ≠ mb ∧ ∀ j, j < 6 → W.cell? ⟨g, off + i * 6 + j, none⟩ = cs[j]?) := hL
  have HN : Hid (L.length = n) := hn
  have HY : Hid (∀ k W, J k W → k < n → YieldAt Fence.wide m Tryz.prog l #[.int .i64 ((n - 1 - k : Nat) : Nat), .agg (L.getD (n - 1 - k) []).toArray] W fun e W' => e = .returned (.bool true) ∧ J (k + 1) W' ∧ KeepN n₀ mb W W') := hY
  clear hL hn hY
  refine callsIn_of_wp Tryz.func134 rfl trivial ?_ rfl
  simp only [Tryz.ntmps134, List.size_toArray, List.length_cons, List.length_nil, Nat.reduceAdd, Nat.reduceSub, Array.replicate_succ, Array.replicate_zero, List.push_toArray, List.append_toArray, List.nil_append, List.cons_append]
  gi_wp2
  gi_loopw [3] (fun iv wr => ∃ k : Nat, k ≤ n ∧ iv = .int .i64 ((n : Int) - 1 - k) ∧ Hid (J k wr) ∧ Hid (KeepN n₀ mb W wr)) (fun iv _ => (intOf iv + 1).toNat)
  case atStart => exact ⟨0, Nat.zero_le _, by go_num, h0, Nat.le_refl _, fun _ _ _ => rfl⟩
  case round =>
    obtain ⟨k, hk, rfl, HJ, HK⟩ := hrel
    have xb := (HK.out.cell (j := 0) hB hBm).trans hc
    by_cases hlt : k < n
    · obtain ⟨i, hi⟩ : ∃ i, i = n - 1 - k := ⟨_, rfl⟩
      have hin : i < n := by omega
      have hii : (n : Int) - 1 - k = (i : Int) := by omega
      obtain ⟨cs, hcs⟩ : ∃ cs, L[i]? = some cs := ⟨L[i]'(by rw [HN.out]; exact hin), List.getElem?_eq_getElem _⟩
      obtain ⟨hl6, g, off, rfl, hg, hgm, hat⟩ := HL.out i cs hcs
      obtain ⟨c0, c1, c2, c3, c4, c5, rfl⟩ := len6 hl6
      have a0 := (HK.out.cell hg hgm).trans (hat 0 (by omega))
      have a1 := (HK.out.cell hg hgm).trans (hat 1 (by omega))
      have a2 := (HK.out.cell hg hgm).trans (hat 2 (by omega))
      have a3 := (HK.out.cell hg hgm).trans (hat 3 (by omega))
      have a4 := (HK.out.cell hg hgm).trans (hat 4 (by omega))
      have a5 := (HK.out.cell hg hgm).trans (hat 5 (by omega))
      simp at a0 a1 a2 a3 a4 a5
      have hgd : L.getD i [] = [c0, c1, c2, c3, c4, c5] := by rw [List.getD_eq_getElem?_getD, hcs]; rfl
      have hyy := HY.out k wr HJ.out hlt
      rw [← hi, hgd] at hyy
      obtain ⟨fn, tmps, assign, body, hy, hR⟩ := hyy
      have hi0 : (0 : Int) ≤ (i : Int) := by omega
      have hi1 : (i : Int) < (n : Int) := by omega
      have HII : Hid ((n : Int) - 1 - k = (i : Int)) := hii
      rw [hii]
      clear hat hl6 hi hii hgd
      gi_wp2
      refine hR.mono ?_
      rintro e W3 ⟨rfl, hJ3, hk3⟩
      gi_wp2
      go_roundw
      case rel => exact ⟨k + 1, by omega, by have := HII.out; go_num, hJ3, Nat.le_trans HK.out.1 hk3.1, fun g hg hm => (hk3.2 g hg hm).trans (HK.out.2 g hg hm)⟩
      case measure => simp [intOf]
    · have HS : J n wr := by
        have := HJ.out
        rwa [show k = n by omega] at this
      have hneg : ((n : Int) - 1 - k) = -1 := by omega
      rw [hneg]
      gi_wp2
      go_end0
      exact ⟨⟨_, rfl⟩, HS⟩
theorem back_any (p : Option Addr) (n cap : Nat) (w : World) : Calls Tryz.prog 126 #[.slice p n cap] w fun e w' => e = .returned (.func (.func 134) #[] #[.pointer (some ⟨w.heap.size, 0, none⟩)]) ∧ w' = w.alloc (.cells #[.slice p n cap] 67) := by
  go_enter Tryz.func126, Tryz.ntmps126
  go_wp2
  go_ret
  exact ⟨rfl, rfl⟩
end Go.Proofs.YtigfmdfgioccjaaGreatDoor
/-
  The program's eachExp and eachOf, by contract.
-/
namespace Go.Proofs.YtigfmdfgioccjaaGreatDoor
open Go.ChangeShapes Go.WideShapes Go.ChangeAt Go.RowKit Go.Maps Go.WideMaps
set_option linter.unusedVariables false
set_option maxRecDepth 100000

theorem mkMap (w : World) : Sem.run Tryz.prog (Instr.makeMap 129 none) w = .ok (.map (some w.heap.size)) (w.alloc (.map #[] 0)) := by kernel_rfl
theorem lawS : Keyed Tryz.prog 9 := string_keyed Tryz.underlying9
/-- How a value that holds nothing reads. -/
def setR (_ : Value) : Option (DataW Unit × List MemPlace) := some (.agg [], [])
def setD (K : List (List UInt8)) : DataW Unit := K.foldl (fun D x => D.put (.string x) (.agg [])) (.map [])
theorem setD_snoc (K : List (List UInt8)) (x : List UInt8) : setD (K ++ [x]) = (setD K).put (.string x) (.agg []) := by simp [setD, List.foldl_append]
/-- The names that have been put into the map in block mb. -/
def MapAt (w : World) (mb : Nat) (K : List (List UInt8)) : Prop := w.ownsMap Tryz.prog 9 setR mb K.length (setD K)
theorem MapAt.keep {w w' : World} {mb : Nat} {K : List (List UInt8)} (h : MapAt w mb K) (he : w'.heap[mb]? = w.heap[mb]?) : MapAt w' mb K := by
  obtain ⟨es, clock, h1, h2⟩ := h
  exact ⟨es, clock, he.trans h1, h2⟩
theorem MapAt.lt {w : World} {mb : Nat} {K : List (List UInt8)} (h : MapAt w mb K) : mb < w.heap.size := by
  obtain ⟨es, clock, h1, h2⟩ := h
  exact (Array.getElem?_eq_some_iff.1 h1).1

theorem add_any (w : World) (mb : Nat) (K : List (List UInt8)) (s : ByteArray) (h : MapAt w mb K) (hs : okS s) (hK : K.length < maxLen) :
    Calls Tryz.prog 137 #[.map (some mb), .string s] w fun e w' => e = .returned (.tuple #[]) ∧ MapAt w' mb (K ++ [s.data.toList]) ∧ Off [mb] w w' := by
  have H : Hid (MapAt w mb K) := h
  have hk : keyOf Tryz.prog 9 (.string s) = some (.string s.data.toList) := keyOf_string_mk Tryz.underlying9 hs
  clear h
  go_enter Tryz.func137, Tryz.ntmps137
  go_wp2_with (at_mapUpdate; refine wpList_mapUpdate_own _ rfl _ _ _ 129 rfl 9 _ lawS Tryz.underlying129 setR mb K.length (setD K) rfl H.out hK _ _ _ rfl rfl hk (.agg []) [] rfl ?_; intro w1 hm1 hg1)
  go_end0
  refine ⟨rfl, ?_, Off.of_grown hg1 (by simp)⟩
  unfold MapAt
  rw [setD_snoc, List.length_append]
  exact hm1

/-- What the closure that tells names holds: the map, the box of the method that puts a name into it. -/
structure Ev (w : World) (mb tb : Nat) (K : List (List UInt8)) : Prop where
  m : MapAt w mb K
  b : Blk w tb #[.func (.func 137) #[.map (some mb)] #[]] 149
  ne : tb ≠ mb
theorem Ev.next {w w' : World} {mb tb : Nat} {K : List (List UInt8)} (h : Ev w mb tb K) (hb : Below w.heap.size w w') : Ev w' mb tb K :=
  ⟨h.m.keep (hb.block mb h.m.lt), h.b.next hb, h.ne⟩
theorem HEx.offN {w w' : World} {mb d : Nat} {cs : List Value} {x : Ex} (h : HEx w (fun g => g ≠ mb) d cs x) (ho : Off [mb] w w') : HEx w' (fun g => g ≠ mb) d cs x :=
  h.mono ⟨ho.size, fun g hg hl => ho.block g hl (by simpa using hg)⟩ (fun _ h => h)
abbrev FV (tb : Nat) : Value := .func (.func 128) #[] #[.pointer (some ⟨tb, 0, none⟩)]

theorem cbk_any (w : World) (mb tb d : Nat) (cs : List Value) (x : Ex) (K : List (List UInt8)) (h : HEx w (fun g => g ≠ mb) (d + 1) cs x) (hv : Ev w mb tb K) (hK : K.length < 4194304) (A : List (List UInt8)) (hA : (if x.kind = 2 then [keyS x.text] else []) = A) :
    Calls Tryz.prog 128 #[.agg cs.toArray, .pointer (some ⟨tb, 0, none⟩)] w fun e w' => e = .returned (.tuple #[]) ∧ Ev w' mb tb (K ++ A) ∧ Off [mb] w w' := by
  obtain ⟨kv, cv, rfl, -, -, hts, -, f0, f1⟩ := h
  obtain ⟨p, cap, rfl, -⟩ := f0
  obtain ⟨pc, capc, rfl, -⟩ := f1
  have BA : Below w.heap.size w (w.alloc (.cells #[.int .i64 x.kind, .int .i64 x.n, .string x.text, .string x.mod, .slice p x.kids.length cap, .slice pc x.clauses.length capc] 73)) := (Below.refl _ _).alloc (Nat.le_refl _) _
  have HV : Hid (Ev (w.alloc (.cells #[.int .i64 x.kind, .int .i64 x.n, .string x.text, .string x.mod, .slice p x.kids.length cap, .slice pc x.clauses.length capc] 73)) mb tb K) := hv.next BA
  have HBA : Hid (Below w.heap.size w (w.alloc (.cells #[.int .i64 x.kind, .int .i64 x.n, .string x.text, .string x.mod, .slice p x.kids.length cap, .slice pc x.clauses.length capc] 73))) := BA
  have ct := HV.out.b.cell 0 _ rfl
  by_cases hk : x.kind = 2
  · rw [if_pos hk] at hA
    subst hA
    clear hv BA
    rw [hk] at HV HBA ct ⊢
    go_enter Tryz.func128, Tryz.ntmps128
    go_wp2_with fail
    refine (add_any _ mb K x.text HV.out.m hts (by unfold maxLen; omega)).mono ?_
    rintro e w1 ⟨rfl, hm1, ho1⟩
    have h1 : Ev w1 mb tb (K ++ [keyS x.text]) := ⟨by unfold keyS; rw [ByteArray.toList_eq]; exact hm1, (ho1.block tb HV.out.b.lt (by simpa using HV.out.ne)).trans HV.out.b, HV.out.ne⟩
    go_wp2_with fail
    go_end0
    exact ⟨rfl, h1, (Off.of_below HBA.out).trans ho1⟩
  · rw [if_neg hk] at hA
    subst hA
    rw [List.append_nil]
    have hkb : (x.kind == 2) = false := by simpa using hk
    clear hv BA
    go_enter Tryz.func128, Tryz.ntmps128
    go_wp2_with fail
    go_end0
    exact ⟨rfl, HV.out, Off.of_below HBA.out⟩

theorem HEx.shapeN {w : World} {S : Nat → Prop} {d : Nat} {cs : List Value} {x : Ex} (h : HEx w S d cs x) : ∃ sk sn st se p1 n1 q1 p2 n2 q2, cs = [.int .i64 sk, .int .i64 sn, .string st, .string se, .slice p1 n1 q1, .slice p2 n2 q2] := by
  cases d with
  | zero => exact h.elim
  | succ d =>
    obtain ⟨kv, cv, rfl, _, _, _, _, ⟨p1, c1, rfl, _⟩, ⟨p2, c2, rfl, _⟩⟩ := h
    exact ⟨_, _, _, _, _, _, _, _, _, _, rfl⟩
def EeC (d : Nat) : Prop := ∀ (w : World) (mb tb : Nat) (cs : List Value) (x : Ex) (K : List (List UInt8)), HEx w (fun g => g ≠ mb) d cs x → Ev w mb tb K → K.length + (varL d x).length ≤ 2097152 →
    Calls Tryz.prog 113 #[.agg cs.toArray, FV tb] w fun e w' => e = .returned (.tuple #[]) ∧ Ev w' mb tb (K ++ varL d x) ∧ Off [mb] w w'
def EoC (d : Nat) : Prop := ∀ (w : World) (mb tb : Nat) (v : Value) (es : List Ex) (K : List (List UInt8)), Rows w (fun g => g ≠ mb) 6 (HEx w (fun g => g ≠ mb) d) v es → Ev w mb tb K → K.length + (es.flatMap (varL d)).length ≤ 2097152 →
    Calls Tryz.prog 93 #[v, FV tb] w fun e w' => e = .returned (.tuple #[]) ∧ Ev w' mb tb (K ++ es.flatMap (varL d)) ∧ Off [mb] w w'

set_option maxHeartbeats 8000000 in
theorem eachOf_of {d : Nat} (hE : EeC d) : EoC d := by
  intro w mb tb v es K hr hv hK
  obtain ⟨p, cap, rfl, hcl, hcm, hx⟩ := hr
  have hnb : es.length ≤ 9223372036854775807 := by unfold maxLen at hcm; omega
  have HX : Hid (es ≠ [] → ∃ g off, p = some ⟨g, off, none⟩ ∧ g ≠ mb ∧ g < w.heap.size ∧ ∀ i x, es[i]? = some x → ∃ cs, cs.length = 6 ∧ (∀ j, j < 6 → w.cell? ⟨g, off + i * 6 + j, none⟩ = cs[j]?) ∧ HEx w (fun g => g ≠ mb) d cs x) := hx
  have HV : Hid (Ev w mb tb K) := hv
  have HK : Hid (K.length + (es.flatMap (varL d)).length ≤ 2097152) := hK
  generalize hn : es.length = n at *
  have HN : Hid (es.length = n) := hn
  clear hx hv hK hn
  go_enter Tryz.func93, Tryz.ntmps93
  go_wp2_with fail
  go_loopw [8] (fun iv wr => ∃ k : Nat, k ≤ n ∧ iv = .int .i64 k ∧ Hid (Ev wr mb tb (K ++ (es.take k).flatMap (varL d))) ∧ Hid (Off [mb] w wr)) (fun iv _ => n - (intOf iv).toNat)
  case atStart => exact ⟨0, Nat.zero_le _, rfl, by show Ev _ _ _ _; simpa using HV.out, Off.refl _ _⟩
  case round =>
    obtain ⟨k, hk, rfl, HVk, HOk⟩ := hrel
    by_cases hlt : k < n
    · obtain ⟨x, hxk⟩ : ∃ x, es[k]? = some x := ⟨es[k]'(by rw [HN.out]; exact hlt), List.getElem?_eq_getElem _⟩
      obtain ⟨g, off, rfl, hgm, hgl, hat⟩ := HX.out (by intro h; rw [h] at hxk; simp at hxk)
      obtain ⟨cs, hcsl, hcs, r1⟩ := hat k x hxk
      have E1 : Hid (HEx wr (fun g => g ≠ mb) d cs x) := r1.offN HOk.out
      obtain ⟨c0, c1, c2, c3, c4, c5, rfl⟩ := len6 hcsl
      have hge : wr.heap[g]? = w.heap[g]? := HOk.out.block g hgl (by simpa using hgm)
      have a0 := (World.cell?_of_block (a := ⟨g, off + k * 6 + 0, none⟩) hge).trans (hcs 0 (by omega))
      have a1 := (World.cell?_of_block (a := ⟨g, off + k * 6 + 1, none⟩) hge).trans (hcs 1 (by omega))
      have a2 := (World.cell?_of_block (a := ⟨g, off + k * 6 + 2, none⟩) hge).trans (hcs 2 (by omega))
      have a3 := (World.cell?_of_block (a := ⟨g, off + k * 6 + 3, none⟩) hge).trans (hcs 3 (by omega))
      have a4 := (World.cell?_of_block (a := ⟨g, off + k * 6 + 4, none⟩) hge).trans (hcs 4 (by omega))
      have a5 := (World.cell?_of_block (a := ⟨g, off + k * 6 + 5, none⟩) hge).trans (hcs 5 (by omega))
      simp at a0 a1 a2 a3 a4 a5
      have HJ : Hid (K ++ (es.take (k + 1)).flatMap (varL d) = K ++ (es.take k).flatMap (varL d) ++ varL d x) := by
        show _ = _
        rw [List.take_add_one, hxk]; simp
      have HKk : Hid ((K ++ (es.take k).flatMap (varL d)).length + (varL d x).length ≤ 2097152) := by
        have h1 := HK.out
        have h2 : (es.flatMap (varL d)) = (es.take k).flatMap (varL d) ++ (varL d x ++ (es.drop (k + 1)).flatMap (varL d)) := by
          have h3 : es = es.take k ++ x :: es.drop (k + 1) := by
            have h4 := List.take_append_drop k es
            rw [List.drop_eq_getElem_cons (by rw [HN.out]; exact hlt)] at h4
            have h5 : es[k]'(by rw [HN.out]; exact hlt) = x := (List.getElem?_eq_some_iff.1 hxk).2
            rw [h5] at h4
            exact h4.symm
          conv => lhs; rw [h3]
          simp
        rw [h2] at h1
        show _ ≤ _
        simp only [List.length_append] at h1 ⊢
        omega
      generalize K ++ (es.take k).flatMap (varL d) = Kk at *
      have hki : (k : Int) < (n : Int) := by omega
      have hk0 : (0 : Int) ≤ (k : Int) := by omega
      clear hat hcs hcsl r1 hge
      obtain ⟨sk, sn, st, se, p1, n1, q1, p2, n2, q2, hsh⟩ := HEx.shapeN E1.out
      simp only [List.cons.injEq, and_true] at hsh
      obtain ⟨rfl, rfl, rfl, rfl, rfl, rfl⟩ := hsh
      have HBA : Hid (Below wr.heap.size wr (wr.alloc (.cells #[.int .i64 sk, .int .i64 sn, .string st, .string se, .slice p1 n1 q1, .slice p2 n2 q2] 73))) := (Below.refl _ _).alloc (Nat.le_refl _) _
      go_wp2_with fail
      refine (hE _ mb tb _ x Kk (E1.out.offN (Off.of_below HBA.out)) (HVk.out.next HBA.out) HKk.out).mono ?_
      rintro e w1 ⟨rfl, hv1, ho1⟩
      go_wp2_with fail
      exact ⟨⟨k + 1, by omega, by go_num, by show Ev _ _ _ _; rw [HJ.out]; exact hv1, (HOk.out.trans (Off.of_below HBA.out)).trans ho1⟩, by simp [intOf]; omega⟩
    · have HS : Hid (Ev wr mb tb (K ++ es.flatMap (varL d))) := by
        have := HVk.out
        rwa [List.take_of_length_le (by rw [HN.out]; omega)] at this
      go_wp2_with fail
      go_end0
      exact ⟨rfl, HS.out, HOk.out⟩

set_option maxHeartbeats 8000000 in
theorem eachExp_of {d : Nat} (hO : EoC d) : EeC (d + 1) := by
  intro w mb tb cs x K h hv hK
  have HEX : Hid (HEx w (fun g => g ≠ mb) (d + 1) cs x) := h
  obtain ⟨kv, cv, rfl, -, -, hts, -, f0, f1⟩ := h
  obtain ⟨kx, nx, tx, mx, ks, cl⟩ := x
  simp only [Ex.kind, Ex.n, Ex.text, Ex.mod, Ex.kids, Ex.clauses] at *
  have hvl : varL (d + 1) (.mk kx nx tx mx ks cl) = (if kx = 2 then [keyS tx] else []) ++ (ks.flatMap (varL d) ++ cl.flatMap fun c => c.1.flatMap (varL d) ++ c.2.flatMap (varL d)) := rfl
  rw [hvl] at hK ⊢
  generalize hA : (if kx = 2 then [keyS tx] else ([] : List (List UInt8))) = A at hK ⊢
  have HA : Hid ((if kx = 2 then [keyS tx] else ([] : List (List UInt8))) = A) := hA
  simp only [List.length_append] at hK
  have F0 : Hid (Rows w (fun g => g ≠ mb) 6 (HEx w (fun g => g ≠ mb) d) kv ks) := f0
  obtain ⟨p, cap, rfl, -⟩ := id f0
  obtain ⟨pc, capc, rfl, hcl', hcm', hxc⟩ := f1
  have hnc : cl.length ≤ 9223372036854775807 := by unfold maxLen at hcm'; omega
  have HXC : Hid (cl ≠ [] → ∃ g off, pc = some ⟨g, off, none⟩ ∧ g ≠ mb ∧ g < w.heap.size ∧ ∀ i x, cl[i]? = some x → ∃ cs, cs.length = 2 ∧ (∀ j, j < 2 → w.cell? ⟨g, off + i * 2 + j, none⟩ = cs[j]?) ∧ HCl w (fun g => g ≠ mb) (HEx w (fun g => g ≠ mb) d) cs x) := hxc
  have HKK : Hid (K.length + (A.length + ((ks.flatMap (varL d)).length + (cl.flatMap fun c => c.1.flatMap (varL d) ++ c.2.flatMap (varL d)).length)) ≤ 2097152) := hK
  generalize hm : cl.length = nc at *
  have HNC : Hid (cl.length = nc) := hm
  have HBA : Hid (Below w.heap.size w (w.alloc (.cells #[.int .i64 kx, .int .i64 nx, .string tx, .string mx, .slice p ks.length cap, .slice pc nc capc] 73))) := (Below.refl _ _).alloc (Nat.le_refl _) _
  have HV : Hid (Ev (w.alloc (.cells #[.int .i64 kx, .int .i64 nx, .string tx, .string mx, .slice p ks.length cap, .slice pc nc capc] 73)) mb tb K) := hv.next HBA.out
  have bA : Hid (Blk (w.alloc (.cells #[.int .i64 kx, .int .i64 nx, .string tx, .string mx, .slice p ks.length cap, .slice pc nc capc] 73)) w.heap.size #[.int .i64 kx, .int .i64 nx, .string tx, .string mx, .slice p ks.length cap, .slice pc nc capc] 73) := Blk.new
  have hmb : mb ≠ w.heap.size := by have := hv.m.lt; omega
  clear f0 hxc hA hm hvl hv hK
  go_enter Tryz.func113, Tryz.ntmps113
  go_wp2_with fail
  refine (cbk_any _ mb tb d _ _ K (HEX.out.offN (Off.of_below HBA.out)) HV.out (by have := HKK.out; omega) A HA.out).mono ?_
  rintro e w1 ⟨rfl, hv1, ho1⟩
  have HV1 : Hid (Ev w1 mb tb (K ++ A)) := hv1
  have HO1 : Hid (Off [mb] w w1) := (Off.of_below HBA.out).trans ho1
  have b1 : Hid (Blk w1 w.heap.size #[.int .i64 kx, .int .i64 nx, .string tx, .string mx, .slice p ks.length cap, .slice pc nc capc] 73) := (ho1.block w.heap.size bA.out.lt (by simpa using fun e => hmb e.symm)).trans bA.out
  have x4 := b1.out.cell 4 _ rfl
  clear hv1 ho1 HV bA
  go_wp2_with fail
  refine (hO _ mb tb _ ks (K ++ A) (Rows.mono F0.out ⟨HO1.out.size, fun g hg hl => HO1.out.block g hl (by simpa using hg)⟩ (fun _ h => h) (fun _ _ _ h => HEx.offN h HO1.out)) HV1.out (by have := HKK.out; simp only [List.length_append]; omega)).mono ?_
  rintro e w2 ⟨rfl, hv2, ho2⟩
  have HV2 : Hid (Ev w2 mb tb (K ++ A ++ ks.flatMap (varL d))) := hv2
  have HO2 : Hid (Off [mb] w w2) := HO1.out.trans ho2
  have b2 : Hid (Blk w2 w.heap.size #[.int .i64 kx, .int .i64 nx, .string tx, .string mx, .slice p ks.length cap, .slice pc nc capc] 73) := (ho2.block w.heap.size b1.out.lt (by simpa using fun e => hmb e.symm)).trans b1.out
  have x5 := b2.out.cell 5 _ rfl
  clear hv2 ho2 x4 b1 HV1 HO1
  go_wp2_with fail
  go_loopw [16] (fun iv wr => ∃ k : Nat, k ≤ nc ∧ iv = .int .i64 k ∧ Hid (Ev wr mb tb (K ++ A ++ ks.flatMap (varL d) ++ (cl.take k).flatMap fun c => c.1.flatMap (varL d) ++ c.2.flatMap (varL d))) ∧ Hid (Off [mb] w wr)) (fun iv _ => nc - (intOf iv).toNat)
  case atStart => exact ⟨0, Nat.zero_le _, rfl, by show Ev _ _ _ _; simpa using HV2.out, HO2.out⟩
  case round =>
    obtain ⟨k, hk, rfl, HVk, HOk⟩ := hrel
    clear x5 HV2 HO2 b2
    by_cases hlt : k < nc
    · obtain ⟨c, hck⟩ : ∃ c, cl[k]? = some c := ⟨cl[k]'(by rw [HNC.out]; exact hlt), List.getElem?_eq_getElem _⟩
      obtain ⟨g, off, rfl, hgm, hgl, hat⟩ := HXC.out (by intro h; rw [h] at hck; simp at hck)
      obtain ⟨cs, hcsl, hcs, pv, bv, rfl, rp, rb⟩ := hat k c hck
      have SK : Hid (SameOn (fun g => g ≠ mb) w wr) := ⟨HOk.out.size, fun g hg hl => HOk.out.block g hl (by simpa using hg)⟩
      have RP : Hid (Rows wr (fun g => g ≠ mb) 6 (HEx wr (fun g => g ≠ mb) d) pv c.1) := Rows.mono rp SK.out (fun _ h => h) (fun _ _ _ h => HEx.offN h HOk.out)
      have RB : Hid (Rows wr (fun g => g ≠ mb) 6 (HEx wr (fun g => g ≠ mb) d) bv c.2) := Rows.mono rb SK.out (fun _ h => h) (fun _ _ _ h => HEx.offN h HOk.out)
      obtain ⟨pp, capp, rfl, -⟩ := rp
      obtain ⟨pb, capb, rfl, -⟩ := rb
      have hge : wr.heap[g]? = w.heap[g]? := HOk.out.block g hgl (by simpa using hgm)
      have a0 := (World.cell?_of_block (a := ⟨g, off + k * 2 + 0, none⟩) hge).trans (hcs 0 (by omega))
      have a1 := (World.cell?_of_block (a := ⟨g, off + k * 2 + 1, none⟩) hge).trans (hcs 1 (by omega))
      simp at a0 a1
      have HJ : Hid ((K ++ A ++ ks.flatMap (varL d) ++ (cl.take (k + 1)).flatMap fun c => c.1.flatMap (varL d) ++ c.2.flatMap (varL d)) = (K ++ A ++ ks.flatMap (varL d) ++ (cl.take k).flatMap fun c => c.1.flatMap (varL d) ++ c.2.flatMap (varL d)) ++ c.1.flatMap (varL d) ++ c.2.flatMap (varL d)) := by
        show _ = _
        rw [List.take_add_one, hck]; simp
      have HKk : Hid ((K ++ A ++ ks.flatMap (varL d) ++ (cl.take k).flatMap fun c => c.1.flatMap (varL d) ++ c.2.flatMap (varL d)).length + (c.1.flatMap (varL d)).length + (c.2.flatMap (varL d)).length ≤ 2097152) := by
        have h1 := HKK.out
        have h2 : (cl.flatMap fun c => c.1.flatMap (varL d) ++ c.2.flatMap (varL d)) = ((cl.take k).flatMap fun c => c.1.flatMap (varL d) ++ c.2.flatMap (varL d)) ++ ((c.1.flatMap (varL d) ++ c.2.flatMap (varL d)) ++ (cl.drop (k + 1)).flatMap fun c => c.1.flatMap (varL d) ++ c.2.flatMap (varL d)) := by
          have h3 : cl = cl.take k ++ c :: cl.drop (k + 1) := by
            have h4 := List.take_append_drop k cl
            rw [List.drop_eq_getElem_cons (by rw [HNC.out]; exact hlt)] at h4
            have h5 : cl[k]'(by rw [HNC.out]; exact hlt) = c := (List.getElem?_eq_some_iff.1 hck).2
            rw [h5] at h4
            exact h4.symm
          conv => lhs; rw [h3]
          simp
        rw [h2] at h1
        show _ ≤ _
        simp only [List.length_append] at h1 ⊢
        omega
      generalize (K ++ A ++ ks.flatMap (varL d) ++ (cl.take k).flatMap fun c => c.1.flatMap (varL d) ++ c.2.flatMap (varL d)) = Kk at *
      have hki : (k : Int) < (nc : Int) := by omega
      have hk0 : (0 : Int) ≤ (k : Int) := by omega
      have hmw : mb ≠ wr.heap.size := by have := HVk.out.m.lt; omega
      have HBC : Hid (Below wr.heap.size wr (wr.alloc (.cells #[.slice pp c.1.length capp, .slice pb c.2.length capb] 69))) := (Below.refl _ _).alloc (Nat.le_refl _) _
      have bC : Hid (Blk (wr.alloc (.cells #[.slice pp c.1.length capp, .slice pb c.2.length capb] 69)) wr.heap.size #[.slice pp c.1.length capp, .slice pb c.2.length capb] 69) := Blk.new
      clear hat hcs hcsl hge
      go_wp2_with fail
      refine (hO _ mb tb _ c.1 Kk (Rows.mono RP.out ⟨HBC.out.size, fun g _ hl => HBC.out.block g hl⟩ (fun _ h => h) (fun _ _ _ h => HEx.offN h (Off.of_below HBC.out))) (HVk.out.next HBC.out) (by have := HKk.out; omega)).mono ?_
      rintro e w3 ⟨rfl, hv3, ho3⟩
      have HV3 : Hid (Ev w3 mb tb (Kk ++ c.1.flatMap (varL d))) := hv3
      have HO3 : Hid (Off [mb] wr w3) := (Off.of_below HBC.out).trans ho3
      have b3 : Blk w3 wr.heap.size #[.slice pp c.1.length capp, .slice pb c.2.length capb] 69 := (ho3.block wr.heap.size bC.out.lt (by simpa using fun e => hmw e.symm)).trans bC.out
      have y1 := b3.cell 1 _ rfl
      clear hv3 ho3 bC b3 a0 a1
      go_wp2_with fail
      refine (hO _ mb tb _ c.2 (Kk ++ c.1.flatMap (varL d)) (Rows.mono RB.out ⟨HO3.out.size, fun g hg hl => HO3.out.block g hl (by simpa using hg)⟩ (fun _ h => h) (fun _ _ _ h => HEx.offN h HO3.out)) HV3.out (by have := HKk.out; simp only [List.length_append]; omega)).mono ?_
      rintro e w4 ⟨rfl, hv4, ho4⟩
      go_wp2_with fail
      exact ⟨⟨k + 1, by omega, by go_num, by show Ev _ _ _ _; rw [HJ.out]; exact hv4, (HOk.out.trans HO3.out).trans ho4⟩, by simp [intOf]; omega⟩
    · have HS : Hid (Ev wr mb tb (K ++ (A ++ (ks.flatMap (varL d) ++ cl.flatMap fun c => c.1.flatMap (varL d) ++ c.2.flatMap (varL d))))) := by
        have := HVk.out
        rw [List.take_of_length_le (by rw [HNC.out]; omega)] at this
        show Ev _ _ _ _
        simpa only [List.append_assoc] using this
      go_wp2_with fail
      go_end0
      exact ⟨rfl, HS.out, HOk.out⟩

theorem eachExp_all : ∀ d, EeC d
  | 0 => fun w mb tb cs x K h _ _ => h.elim
  | d + 1 => eachExp_of (eachOf_of (eachExp_all d))

/-- eachVar with the method that puts a name into a map. -/
theorem eachVar_any (w : World) (mb d : Nat) (cs : List Value) (x : Ex) (K : List (List UInt8)) (h : HEx w (fun g => g ≠ mb) d cs x) (hm : MapAt w mb K) (hK : K.length + (varL d x).length ≤ 2097152) :
    Calls Tryz.prog 111 #[.agg cs.toArray, .func (.func 137) #[.map (some mb)] #[]] w fun e w' => e = .returned (.tuple #[]) ∧ MapAt w' mb (K ++ varL d x) ∧ Off [mb] w w' := by
  obtain ⟨sk, sn, st, se, p1, n1, q1, p2, n2, q2, rfl⟩ := HEx.shapeN h
  have HH : Hid (HEx w (fun g => g ≠ mb) d [.int .i64 sk, .int .i64 sn, .string st, .string se, .slice p1 n1 q1, .slice p2 n2 q2] x) := h
  have HM : Hid (MapAt w mb K) := hm
  have hlt := hm.lt
  clear h hm
  go_enter Tryz.func111, Tryz.ntmps111
  go_wp2_with fail
  have hB : Below w.heap.size w ((w.alloc (.cells #[.int .i64 sk, .int .i64 sn, .string st, .string se, .slice p1 n1 q1, .slice p2 n2 q2] 73)).alloc (.cells #[.func (.func 137) #[.map (some mb)] #[]] 149)) := ((Below.refl _ _).alloc (Nat.le_refl _) _).alloc (by simp) _
  have hE : Ev ((w.alloc (.cells #[.int .i64 sk, .int .i64 sn, .string st, .string se, .slice p1 n1 q1, .slice p2 n2 q2] 73)).alloc (.cells #[.func (.func 137) #[.map (some mb)] #[]] 149)) mb (w.heap.size + 1) K := ⟨HM.out.keep (hB.block mb hlt), by
    have := Blk.new (w := w.alloc (.cells #[.int .i64 sk, .int .i64 sn, .string st, .string se, .slice p1 n1 q1, .slice p2 n2 q2] 73)) (cs := #[.func (.func 137) #[.map (some mb)] #[]]) (t := 149)
    rwa [alloc_hs] at this, by omega⟩
  refine (eachExp_all d _ mb (w.heap.size + 1) _ x K (HH.out.offN (Off.of_below hB)) hE hK).mono ?_
  rintro e w1 ⟨rfl, hv1, ho1⟩
  go_wp2_with fail
  go_end0
  exact ⟨rfl, hv1.m, (Off.of_below hB).trans ho1⟩
end Go.Proofs.YtigfmdfgioccjaaGreatDoor
/-
  A set of names in a map of the program, told by membership.
-/
namespace Go.Proofs.YtigfmdfgioccjaaGreatDoor
open Go.ChangeShapes Go.WideShapes Go.ChangeAt Go.RowKit Go.Maps Go.WideMaps
set_option linter.unusedVariables false
set_option maxRecDepth 100000

theorem lawN : Keyed Tryz.prog 9 := string_keyed Tryz.underlying9
structure SetOkN (D : DataW Unit) : Prop where
  tidy : Tidy D
  keys : ∀ es, D = .map es → ∀ p ∈ es, (∃ x, p.1 = .string x) ∧ p.2 = .agg []
theorem SetOkN.put {D : DataW Unit} (h : SetOkN D) (x : List UInt8) : SetOkN (D.put (.string x) (.agg [])) := by
  refine ⟨h.tidy.put (k := .string x) trivial _, fun es he p hp => ?_⟩
  obtain ⟨es0, rfl, hp0⟩ := h.tidy
  have he' : DataW.insert (Lit.string x, DataW.agg []) (es0.filter fun p => !p.1.sameKey (.string x)) = es := by simpa [DataW.put] using he
  rw [← he'] at hp
  have hp2 := ((insert_perm (Lit.string x, (DataW.agg [] : DataW Unit)) (es0.filter fun p => !p.1.sameKey (.string x))).mem_iff).1 hp
  rcases List.mem_cons.1 hp2 with rfl | hp2
  · exact ⟨⟨x, rfl⟩, rfl⟩
  · exact h.keys es0 rfl p (List.mem_filter.1 hp2).1
theorem SetOkN.del {D : DataW Unit} (h : SetOkN D) (x : List UInt8) : SetOkN (D.del (.string x)) := by
  refine ⟨h.tidy.del _, fun es he p hp => ?_⟩
  obtain ⟨es0, rfl, hp0⟩ := h.tidy
  have he' : (es0.filter fun p => !p.1.sameKey (.string x)) = es := by simpa [DataW.del] using he
  rw [← he'] at hp
  exact h.keys es0 rfl p (List.mem_filter.1 hp).1
/-- The map in block mb holds just the names of S; at most n have been put in. -/
def SetAt (w : World) (mb n : Nat) (S : List UInt8 → Prop) : Prop :=
  ∃ D, w.ownsMap Tryz.prog 9 unitElem mb n D ∧ SetOkN D ∧ ∀ z, has D (.string z) = true ↔ S z
theorem SetAt.keep {w w' : World} {mb n : Nat} {S : List UInt8 → Prop} (h : SetAt w mb n S) (he : w'.heap[mb]? = w.heap[mb]?) : SetAt w' mb n S := by
  obtain ⟨D, ⟨es, clock, h1, h2⟩, h3⟩ := h
  exact ⟨D, ⟨es, clock, he.trans h1, h2⟩, h3⟩
theorem SetAt.lt {w : World} {mb n : Nat} {S : List UInt8 → Prop} (h : SetAt w mb n S) : mb < w.heap.size := by
  obtain ⟨D, ⟨es, clock, h1, h2⟩, h3⟩ := h
  exact (Array.getElem?_eq_some_iff.1 h1).1
theorem SetAt.iff {w : World} {mb n : Nat} {S S' : List UInt8 → Prop} (h : SetAt w mb n S) (hS : ∀ z, S z ↔ S' z) : SetAt w mb n S' := by
  obtain ⟨D, h1, h2, h3⟩ := h
  exact ⟨D, h1, h2, fun z => (h3 z).trans (hS z)⟩
theorem SetAt.more {w : World} {mb n n' : Nat} {S : List UInt8 → Prop} (h : SetAt w mb n S) (hn : n ≤ n') : SetAt w mb n' S := by
  obtain ⟨D, h1, h2⟩ := h
  exact ⟨D, h1.mono hn, h2⟩
theorem SetAt.made (w : World) : SetAt (w.alloc (.map #[] 0)) w.heap.size 0 (fun _ => False) :=
  ⟨.map [], World.ownsMap_made w _ _ _, ⟨⟨[], rfl, List.Pairwise.nil⟩, fun es he p hp => by cases he; cases hp⟩, fun z => by simp [has_eq]⟩
end Go.Proofs.YtigfmdfgioccjaaGreatDoor
/-
  The program's names.add and names.remove, by contract.
-/
namespace Go.Proofs.YtigfmdfgioccjaaGreatDoor
open Go.ChangeShapes Go.WideShapes Go.ChangeAt Go.RowKit Go.Maps Go.WideMaps
set_option linter.unusedVariables false
set_option maxRecDepth 100000

theorem addN_any (w : World) (mb n : Nat) (S : List UInt8 → Prop) (s : ByteArray) (h : SetAt w mb n S) (hs : okS s) (hn : n < maxLen) :
    Calls Tryz.prog 137 #[.map (some mb), .string s] w fun e w' => e = .returned (.tuple #[]) ∧ SetAt w' mb (n + 1) (fun z => S z ∨ z = s.data.toList) ∧ Off [mb] w w' := by
  obtain ⟨D, hm, hD, hh⟩ := h
  have H : Hid (w.ownsMap Tryz.prog 9 unitElem mb n D) := hm
  have hk : keyOf Tryz.prog 9 (.string s) = some (.string s.data.toList) := keyOf_string_mk Tryz.underlying9 hs
  clear hm
  go_enter Tryz.func137, Tryz.ntmps137
  go_wp2_with (at_mapUpdate; refine wpList_mapUpdate_own _ rfl _ _ _ 129 rfl 9 _ lawN Tryz.underlying129 unitElem mb n D rfl H.out hn _ _ _ rfl rfl hk (.agg []) [] unitElem_mk ?_; intro w1 hm1 hg1)
  go_end0
  refine ⟨rfl, ⟨_, hm1, hD.put _, fun z => ?_⟩, Off.of_grown hg1 (by simp)⟩
  by_cases hz : z = s.data.toList
  · subst hz
    have hM : IsMap D := by obtain ⟨es, rfl, _⟩ := hD.tidy; exact ⟨es, rfl⟩
    simp [has_put_same hM (k := Lit.string s.data.toList) trivial]
  · rw [has_put_other (by intro e; cases e; exact hz rfl), hh z]
    simp [hz]
theorem removeN_any (w : World) (mb n : Nat) (S : List UInt8 → Prop) (s : ByteArray) (h : SetAt w mb n S) (hs : okS s) :
    Calls Tryz.prog 112 #[.map (some mb), .string s] w fun e w' => e = .returned (.tuple #[]) ∧ SetAt w' mb n (fun z => S z ∧ z ≠ s.data.toList) ∧ Off [mb] w w' := by
  obtain ⟨D, hm, hD, hh⟩ := h
  have H : Hid (w.ownsMap Tryz.prog 9 unitElem mb n D) := hm
  have hk : keyOf Tryz.prog 9 (.string s) = some (.string s.data.toList) := keyOf_string_mk Tryz.underlying9 hs
  clear hm
  go_enter Tryz.func112, Tryz.ntmps112
  go_wp2_with (at_delete; refine wpList_delete_own _ rfl _ _ 129 9 rfl _ lawN Tryz.underlying129 unitElem mb n D rfl H.out _ _ rfl hk ?_; intro w1 hm1 hg1)
  go_end0
  refine ⟨rfl, ⟨_, hm1, hD.del _, fun z => ?_⟩, Off.of_grown hg1.grown (by simp)⟩
  by_cases hz : z = s.data.toList
  · subst hz
    simp [has_del_same]
  · rw [has_del_other (by intro e; cases e; exact hz rfl), hh z]
    simp [hz]
end Go.Proofs.YtigfmdfgioccjaaGreatDoor
/-
  The program's eachVar with names.remove, by contract.
-/
namespace Go.Proofs.YtigfmdfgioccjaaGreatDoor
open Go.ChangeShapes Go.WideShapes Go.ChangeAt Go.RowKit Go.Maps Go.WideMaps
set_option linter.unusedVariables false
set_option maxRecDepth 100000
variable {n0 : Nat} {S0 : List UInt8 → Prop}

/-- The map holds the names of S0 but for those of K. -/
def RemAt (n0 : Nat) (S0 : List UInt8 → Prop) (w : World) (mb : Nat) (K : List (List UInt8)) : Prop := SetAt w mb n0 (fun z => S0 z ∧ z ∉ K)
theorem RemAt.keep {w w' : World} {mb : Nat} {K : List (List UInt8)} (h : RemAt n0 S0 w mb K) (he : w'.heap[mb]? = w.heap[mb]?) : RemAt n0 S0 w' mb K := SetAt.keep h he
theorem RemAt.lt {w : World} {mb : Nat} {K : List (List UInt8)} (h : RemAt n0 S0 w mb K) : mb < w.heap.size := SetAt.lt h
theorem rem_any (w : World) (mb : Nat) (K : List (List UInt8)) (s : ByteArray) (h : RemAt n0 S0 w mb K) (hs : okS s) (hK : K.length < maxLen) :
    Calls Tryz.prog 112 #[.map (some mb), .string s] w fun e w' => e = .returned (.tuple #[]) ∧ RemAt n0 S0 w' mb (K ++ [s.data.toList]) ∧ Off [mb] w w' := by
  refine (removeN_any w mb n0 _ s h hs).mono ?_
  rintro e w' ⟨rfl, h1, ho⟩
  refine ⟨rfl, h1.iff (fun z => ?_), ho⟩
  simp only [List.mem_append, List.mem_singleton, not_or, and_assoc]

/-- What the closure that tells names holds: the map, the box of the method that puts a name into it. -/
structure EvR (n0 : Nat) (S0 : List UInt8 → Prop) (w : World) (mb tb : Nat) (K : List (List UInt8)) : Prop where
  m : RemAt n0 S0 w mb K
  b : Blk w tb #[.func (.func 112) #[.map (some mb)] #[]] 149
  ne : tb ≠ mb
theorem EvR.next {w w' : World} {mb tb : Nat} {K : List (List UInt8)} (h : EvR n0 S0 w mb tb K) (hb : Below w.heap.size w w') : EvR n0 S0 w' mb tb K :=
  ⟨h.m.keep (hb.block mb h.m.lt), h.b.next hb, h.ne⟩
theorem cbkR_any (w : World) (mb tb d : Nat) (cs : List Value) (x : Ex) (K : List (List UInt8)) (h : HEx w (fun g => g ≠ mb) (d + 1) cs x) (hv : EvR n0 S0 w mb tb K) (hK : K.length < 4194304) (A : List (List UInt8)) (hA : (if x.kind = 2 then [keyS x.text] else []) = A) :
    Calls Tryz.prog 128 #[.agg cs.toArray, .pointer (some ⟨tb, 0, none⟩)] w fun e w' => e = .returned (.tuple #[]) ∧ EvR n0 S0 w' mb tb (K ++ A) ∧ Off [mb] w w' := by
  obtain ⟨kv, cv, rfl, -, -, hts, -, f0, f1⟩ := h
  obtain ⟨p, cap, rfl, -⟩ := f0
  obtain ⟨pc, capc, rfl, -⟩ := f1
  have BA : Below w.heap.size w (w.alloc (.cells #[.int .i64 x.kind, .int .i64 x.n, .string x.text, .string x.mod, .slice p x.kids.length cap, .slice pc x.clauses.length capc] 73)) := (Below.refl _ _).alloc (Nat.le_refl _) _
  have HV : Hid (EvR n0 S0 (w.alloc (.cells #[.int .i64 x.kind, .int .i64 x.n, .string x.text, .string x.mod, .slice p x.kids.length cap, .slice pc x.clauses.length capc] 73)) mb tb K) := hv.next BA
  have HBA : Hid (Below w.heap.size w (w.alloc (.cells #[.int .i64 x.kind, .int .i64 x.n, .string x.text, .string x.mod, .slice p x.kids.length cap, .slice pc x.clauses.length capc] 73))) := BA
  have ct := HV.out.b.cell 0 _ rfl
  by_cases hk : x.kind = 2
  · rw [if_pos hk] at hA
    subst hA
    clear hv BA
    rw [hk] at HV HBA ct ⊢
    go_enter Tryz.func128, Tryz.ntmps128
    go_wp2_with fail
    refine (rem_any _ mb K x.text HV.out.m hts (by unfold maxLen; omega)).mono ?_
    rintro e w1 ⟨rfl, hm1, ho1⟩
    have h1 : EvR n0 S0 w1 mb tb (K ++ [keyS x.text]) := ⟨by unfold keyS; rw [ByteArray.toList_eq]; exact hm1, (ho1.block tb HV.out.b.lt (by simpa using HV.out.ne)).trans HV.out.b, HV.out.ne⟩
    go_wp2_with fail
    go_end0
    exact ⟨rfl, h1, (Off.of_below HBA.out).trans ho1⟩
  · rw [if_neg hk] at hA
    subst hA
    rw [List.append_nil]
    have hkb : (x.kind == 2) = false := by simpa using hk
    clear hv BA
    go_enter Tryz.func128, Tryz.ntmps128
    go_wp2_with fail
    go_end0
    exact ⟨rfl, HV.out, Off.of_below HBA.out⟩

def EeR (n0 : Nat) (S0 : List UInt8 → Prop) (d : Nat) : Prop := ∀ (w : World) (mb tb : Nat) (cs : List Value) (x : Ex) (K : List (List UInt8)), HEx w (fun g => g ≠ mb) d cs x → EvR n0 S0 w mb tb K → K.length + (varL d x).length ≤ 2097152 →
    Calls Tryz.prog 113 #[.agg cs.toArray, FV tb] w fun e w' => e = .returned (.tuple #[]) ∧ EvR n0 S0 w' mb tb (K ++ varL d x) ∧ Off [mb] w w'
def EoR (n0 : Nat) (S0 : List UInt8 → Prop) (d : Nat) : Prop := ∀ (w : World) (mb tb : Nat) (v : Value) (es : List Ex) (K : List (List UInt8)), Rows w (fun g => g ≠ mb) 6 (HEx w (fun g => g ≠ mb) d) v es → EvR n0 S0 w mb tb K → K.length + (es.flatMap (varL d)).length ≤ 2097152 →
    Calls Tryz.prog 93 #[v, FV tb] w fun e w' => e = .returned (.tuple #[]) ∧ EvR n0 S0 w' mb tb (K ++ es.flatMap (varL d)) ∧ Off [mb] w w'

set_option maxHeartbeats 8000000 in
theorem eachOfR_of {d : Nat} (hE : EeR n0 S0 d) : EoR n0 S0 d := by
  intro w mb tb v es K hr hv hK
  obtain ⟨p, cap, rfl, hcl, hcm, hx⟩ := hr
  have hnb : es.length ≤ 9223372036854775807 := by unfold maxLen at hcm; omega
  have HX : Hid (es ≠ [] → ∃ g off, p = some ⟨g, off, none⟩ ∧ g ≠ mb ∧ g < w.heap.size ∧ ∀ i x, es[i]? = some x → ∃ cs, cs.length = 6 ∧ (∀ j, j < 6 → w.cell? ⟨g, off + i * 6 + j, none⟩ = cs[j]?) ∧ HEx w (fun g => g ≠ mb) d cs x) := hx
  have HV : Hid (EvR n0 S0 w mb tb K) := hv
  have HK : Hid (K.length + (es.flatMap (varL d)).length ≤ 2097152) := hK
  generalize hn : es.length = n at *
  have HN : Hid (es.length = n) := hn
  clear hx hv hK hn
  go_enter Tryz.func93, Tryz.ntmps93
  go_wp2_with fail
  go_loopw [8] (fun iv wr => ∃ k : Nat, k ≤ n ∧ iv = .int .i64 k ∧ Hid (EvR n0 S0 wr mb tb (K ++ (es.take k).flatMap (varL d))) ∧ Hid (Off [mb] w wr)) (fun iv _ => n - (intOf iv).toNat)
  case atStart => exact ⟨0, Nat.zero_le _, rfl, by show EvR n0 S0 _ _ _ _; simpa using HV.out, Off.refl _ _⟩
  case round =>
    obtain ⟨k, hk, rfl, HVk, HOk⟩ := hrel
    by_cases hlt : k < n
    · obtain ⟨x, hxk⟩ : ∃ x, es[k]? = some x := ⟨es[k]'(by rw [HN.out]; exact hlt), List.getElem?_eq_getElem _⟩
      obtain ⟨g, off, rfl, hgm, hgl, hat⟩ := HX.out (by intro h; rw [h] at hxk; simp at hxk)
      obtain ⟨cs, hcsl, hcs, r1⟩ := hat k x hxk
      have E1 : Hid (HEx wr (fun g => g ≠ mb) d cs x) := r1.offN HOk.out
      obtain ⟨c0, c1, c2, c3, c4, c5, rfl⟩ := len6 hcsl
      have hge : wr.heap[g]? = w.heap[g]? := HOk.out.block g hgl (by simpa using hgm)
      have a0 := (World.cell?_of_block (a := ⟨g, off + k * 6 + 0, none⟩) hge).trans (hcs 0 (by omega))
      have a1 := (World.cell?_of_block (a := ⟨g, off + k * 6 + 1, none⟩) hge).trans (hcs 1 (by omega))
      have a2 := (World.cell?_of_block (a := ⟨g, off + k * 6 + 2, none⟩) hge).trans (hcs 2 (by omega))
      have a3 := (World.cell?_of_block (a := ⟨g, off + k * 6 + 3, none⟩) hge).trans (hcs 3 (by omega))
      have a4 := (World.cell?_of_block (a := ⟨g, off + k * 6 + 4, none⟩) hge).trans (hcs 4 (by omega))
      have a5 := (World.cell?_of_block (a := ⟨g, off + k * 6 + 5, none⟩) hge).trans (hcs 5 (by omega))
      simp at a0 a1 a2 a3 a4 a5
      have HJ : Hid (K ++ (es.take (k + 1)).flatMap (varL d) = K ++ (es.take k).flatMap (varL d) ++ varL d x) := by
        show _ = _
        rw [List.take_add_one, hxk]; simp
      have HKk : Hid ((K ++ (es.take k).flatMap (varL d)).length + (varL d x).length ≤ 2097152) := by
        have h1 := HK.out
        have h2 : (es.flatMap (varL d)) = (es.take k).flatMap (varL d) ++ (varL d x ++ (es.drop (k + 1)).flatMap (varL d)) := by
          have h3 : es = es.take k ++ x :: es.drop (k + 1) := by
            have h4 := List.take_append_drop k es
            rw [List.drop_eq_getElem_cons (by rw [HN.out]; exact hlt)] at h4
            have h5 : es[k]'(by rw [HN.out]; exact hlt) = x := (List.getElem?_eq_some_iff.1 hxk).2
            rw [h5] at h4
            exact h4.symm
          conv => lhs; rw [h3]
          simp
        rw [h2] at h1
        show _ ≤ _
        simp only [List.length_append] at h1 ⊢
        omega
      generalize K ++ (es.take k).flatMap (varL d) = Kk at *
      have hki : (k : Int) < (n : Int) := by omega
      have hk0 : (0 : Int) ≤ (k : Int) := by omega
      clear hat hcs hcsl r1 hge
      obtain ⟨sk, sn, st, se, p1, n1, q1, p2, n2, q2, hsh⟩ := HEx.shapeN E1.out
      simp only [List.cons.injEq, and_true] at hsh
      obtain ⟨rfl, rfl, rfl, rfl, rfl, rfl⟩ := hsh
      have HBA : Hid (Below wr.heap.size wr (wr.alloc (.cells #[.int .i64 sk, .int .i64 sn, .string st, .string se, .slice p1 n1 q1, .slice p2 n2 q2] 73))) := (Below.refl _ _).alloc (Nat.le_refl _) _
      go_wp2_with fail
      refine (hE _ mb tb _ x Kk (E1.out.offN (Off.of_below HBA.out)) (HVk.out.next HBA.out) HKk.out).mono ?_
      rintro e w1 ⟨rfl, hv1, ho1⟩
      go_wp2_with fail
      exact ⟨⟨k + 1, by omega, by go_num, by show EvR n0 S0 _ _ _ _; rw [HJ.out]; exact hv1, (HOk.out.trans (Off.of_below HBA.out)).trans ho1⟩, by simp [intOf]; omega⟩
    · have HS : Hid (EvR n0 S0 wr mb tb (K ++ es.flatMap (varL d))) := by
        have := HVk.out
        rwa [List.take_of_length_le (by rw [HN.out]; omega)] at this
      go_wp2_with fail
      go_end0
      exact ⟨rfl, HS.out, HOk.out⟩

set_option maxHeartbeats 8000000 in
theorem eachExpR_of {d : Nat} (hO : EoR n0 S0 d) : EeR n0 S0 (d + 1) := by
  intro w mb tb cs x K h hv hK
  have HEX : Hid (HEx w (fun g => g ≠ mb) (d + 1) cs x) := h
  obtain ⟨kv, cv, rfl, -, -, hts, -, f0, f1⟩ := h
  obtain ⟨kx, nx, tx, mx, ks, cl⟩ := x
  simp only [Ex.kind, Ex.n, Ex.text, Ex.mod, Ex.kids, Ex.clauses] at *
  have hvl : varL (d + 1) (.mk kx nx tx mx ks cl) = (if kx = 2 then [keyS tx] else []) ++ (ks.flatMap (varL d) ++ cl.flatMap fun c => c.1.flatMap (varL d) ++ c.2.flatMap (varL d)) := rfl
  rw [hvl] at hK ⊢
  generalize hA : (if kx = 2 then [keyS tx] else ([] : List (List UInt8))) = A at hK ⊢
  have HA : Hid ((if kx = 2 then [keyS tx] else ([] : List (List UInt8))) = A) := hA
  simp only [List.length_append] at hK
  have F0 : Hid (Rows w (fun g => g ≠ mb) 6 (HEx w (fun g => g ≠ mb) d) kv ks) := f0
  obtain ⟨p, cap, rfl, -⟩ := id f0
  obtain ⟨pc, capc, rfl, hcl', hcm', hxc⟩ := f1
  have hnc : cl.length ≤ 9223372036854775807 := by unfold maxLen at hcm'; omega
  have HXC : Hid (cl ≠ [] → ∃ g off, pc = some ⟨g, off, none⟩ ∧ g ≠ mb ∧ g < w.heap.size ∧ ∀ i x, cl[i]? = some x → ∃ cs, cs.length = 2 ∧ (∀ j, j < 2 → w.cell? ⟨g, off + i * 2 + j, none⟩ = cs[j]?) ∧ HCl w (fun g => g ≠ mb) (HEx w (fun g => g ≠ mb) d) cs x) := hxc
  have HKK : Hid (K.length + (A.length + ((ks.flatMap (varL d)).length + (cl.flatMap fun c => c.1.flatMap (varL d) ++ c.2.flatMap (varL d)).length)) ≤ 2097152) := hK
  generalize hm : cl.length = nc at *
  have HNC : Hid (cl.length = nc) := hm
  have HBA : Hid (Below w.heap.size w (w.alloc (.cells #[.int .i64 kx, .int .i64 nx, .string tx, .string mx, .slice p ks.length cap, .slice pc nc capc] 73))) := (Below.refl _ _).alloc (Nat.le_refl _) _
  have HV : Hid (EvR n0 S0 (w.alloc (.cells #[.int .i64 kx, .int .i64 nx, .string tx, .string mx, .slice p ks.length cap, .slice pc nc capc] 73)) mb tb K) := hv.next HBA.out
  have bA : Hid (Blk (w.alloc (.cells #[.int .i64 kx, .int .i64 nx, .string tx, .string mx, .slice p ks.length cap, .slice pc nc capc] 73)) w.heap.size #[.int .i64 kx, .int .i64 nx, .string tx, .string mx, .slice p ks.length cap, .slice pc nc capc] 73) := Blk.new
  have hmb : mb ≠ w.heap.size := by have := hv.m.lt; omega
  clear f0 hxc hA hm hvl hv hK
  go_enter Tryz.func113, Tryz.ntmps113
  go_wp2_with fail
  refine (cbkR_any _ mb tb d _ _ K (HEX.out.offN (Off.of_below HBA.out)) HV.out (by have := HKK.out; omega) A HA.out).mono ?_
  rintro e w1 ⟨rfl, hv1, ho1⟩
  have HV1 : Hid (EvR n0 S0 w1 mb tb (K ++ A)) := hv1
  have HO1 : Hid (Off [mb] w w1) := (Off.of_below HBA.out).trans ho1
  have b1 : Hid (Blk w1 w.heap.size #[.int .i64 kx, .int .i64 nx, .string tx, .string mx, .slice p ks.length cap, .slice pc nc capc] 73) := (ho1.block w.heap.size bA.out.lt (by simpa using fun e => hmb e.symm)).trans bA.out
  have x4 := b1.out.cell 4 _ rfl
  clear hv1 ho1 HV bA
  go_wp2_with fail
  refine (hO _ mb tb _ ks (K ++ A) (Rows.mono F0.out ⟨HO1.out.size, fun g hg hl => HO1.out.block g hl (by simpa using hg)⟩ (fun _ h => h) (fun _ _ _ h => HEx.offN h HO1.out)) HV1.out (by have := HKK.out; simp only [List.length_append]; omega)).mono ?_
  rintro e w2 ⟨rfl, hv2, ho2⟩
  have HV2 : Hid (EvR n0 S0 w2 mb tb (K ++ A ++ ks.flatMap (varL d))) := hv2
  have HO2 : Hid (Off [mb] w w2) := HO1.out.trans ho2
  have b2 : Hid (Blk w2 w.heap.size #[.int .i64 kx, .int .i64 nx, .string tx, .string mx, .slice p ks.length cap, .slice pc nc capc] 73) := (ho2.block w.heap.size b1.out.lt (by simpa using fun e => hmb e.symm)).trans b1.out
  have x5 := b2.out.cell 5 _ rfl
  clear hv2 ho2 x4 b1 HV1 HO1
  go_wp2_with fail
  go_loopw [16] (fun iv wr => ∃ k : Nat, k ≤ nc ∧ iv = .int .i64 k ∧ Hid (EvR n0 S0 wr mb tb (K ++ A ++ ks.flatMap (varL d) ++ (cl.take k).flatMap fun c => c.1.flatMap (varL d) ++ c.2.flatMap (varL d))) ∧ Hid (Off [mb] w wr)) (fun iv _ => nc - (intOf iv).toNat)
  case atStart => exact ⟨0, Nat.zero_le _, rfl, by show EvR n0 S0 _ _ _ _; simpa using HV2.out, HO2.out⟩
  case round =>
    obtain ⟨k, hk, rfl, HVk, HOk⟩ := hrel
    clear x5 HV2 HO2 b2
    by_cases hlt : k < nc
    · obtain ⟨c, hck⟩ : ∃ c, cl[k]? = some c := ⟨cl[k]'(by rw [HNC.out]; exact hlt), List.getElem?_eq_getElem _⟩
      obtain ⟨g, off, rfl, hgm, hgl, hat⟩ := HXC.out (by intro h; rw [h] at hck; simp at hck)
      obtain ⟨cs, hcsl, hcs, pv, bv, rfl, rp, rb⟩ := hat k c hck
      have SK : Hid (SameOn (fun g => g ≠ mb) w wr) := ⟨HOk.out.size, fun g hg hl => HOk.out.block g hl (by simpa using hg)⟩
      have RP : Hid (Rows wr (fun g => g ≠ mb) 6 (HEx wr (fun g => g ≠ mb) d) pv c.1) := Rows.mono rp SK.out (fun _ h => h) (fun _ _ _ h => HEx.offN h HOk.out)
      have RB : Hid (Rows wr (fun g => g ≠ mb) 6 (HEx wr (fun g => g ≠ mb) d) bv c.2) := Rows.mono rb SK.out (fun _ h => h) (fun _ _ _ h => HEx.offN h HOk.out)
      obtain ⟨pp, capp, rfl, -⟩ := rp
      obtain ⟨pb, capb, rfl, -⟩ := rb
      have hge : wr.heap[g]? = w.heap[g]? := HOk.out.block g hgl (by simpa using hgm)
      have a0 := (World.cell?_of_block (a := ⟨g, off + k * 2 + 0, none⟩) hge).trans (hcs 0 (by omega))
      have a1 := (World.cell?_of_block (a := ⟨g, off + k * 2 + 1, none⟩) hge).trans (hcs 1 (by omega))
      simp at a0 a1
      have HJ : Hid ((K ++ A ++ ks.flatMap (varL d) ++ (cl.take (k + 1)).flatMap fun c => c.1.flatMap (varL d) ++ c.2.flatMap (varL d)) = (K ++ A ++ ks.flatMap (varL d) ++ (cl.take k).flatMap fun c => c.1.flatMap (varL d) ++ c.2.flatMap (varL d)) ++ c.1.flatMap (varL d) ++ c.2.flatMap (varL d)) := by
        show _ = _
        rw [List.take_add_one, hck]; simp
      have HKk : Hid ((K ++ A ++ ks.flatMap (varL d) ++ (cl.take k).flatMap fun c => c.1.flatMap (varL d) ++ c.2.flatMap (varL d)).length + (c.1.flatMap (varL d)).length + (c.2.flatMap (varL d)).length ≤ 2097152) := by
        have h1 := HKK.out
        have h2 : (cl.flatMap fun c => c.1.flatMap (varL d) ++ c.2.flatMap (varL d)) = ((cl.take k).flatMap fun c => c.1.flatMap (varL d) ++ c.2.flatMap (varL d)) ++ ((c.1.flatMap (varL d) ++ c.2.flatMap (varL d)) ++ (cl.drop (k + 1)).flatMap fun c => c.1.flatMap (varL d) ++ c.2.flatMap (varL d)) := by
          have h3 : cl = cl.take k ++ c :: cl.drop (k + 1) := by
            have h4 := List.take_append_drop k cl
            rw [List.drop_eq_getElem_cons (by rw [HNC.out]; exact hlt)] at h4
            have h5 : cl[k]'(by rw [HNC.out]; exact hlt) = c := (List.getElem?_eq_some_iff.1 hck).2
            rw [h5] at h4
            exact h4.symm
          conv => lhs; rw [h3]
          simp
        rw [h2] at h1
        show _ ≤ _
        simp only [List.length_append] at h1 ⊢
        omega
      generalize (K ++ A ++ ks.flatMap (varL d) ++ (cl.take k).flatMap fun c => c.1.flatMap (varL d) ++ c.2.flatMap (varL d)) = Kk at *
      have hki : (k : Int) < (nc : Int) := by omega
      have hk0 : (0 : Int) ≤ (k : Int) := by omega
      have hmw : mb ≠ wr.heap.size := by have := HVk.out.m.lt; omega
      have HBC : Hid (Below wr.heap.size wr (wr.alloc (.cells #[.slice pp c.1.length capp, .slice pb c.2.length capb] 69))) := (Below.refl _ _).alloc (Nat.le_refl _) _
      have bC : Hid (Blk (wr.alloc (.cells #[.slice pp c.1.length capp, .slice pb c.2.length capb] 69)) wr.heap.size #[.slice pp c.1.length capp, .slice pb c.2.length capb] 69) := Blk.new
      clear hat hcs hcsl hge
      go_wp2_with fail
      refine (hO _ mb tb _ c.1 Kk (Rows.mono RP.out ⟨HBC.out.size, fun g _ hl => HBC.out.block g hl⟩ (fun _ h => h) (fun _ _ _ h => HEx.offN h (Off.of_below HBC.out))) (HVk.out.next HBC.out) (by have := HKk.out; omega)).mono ?_
      rintro e w3 ⟨rfl, hv3, ho3⟩
      have HV3 : Hid (EvR n0 S0 w3 mb tb (Kk ++ c.1.flatMap (varL d))) := hv3
      have HO3 : Hid (Off [mb] wr w3) := (Off.of_below HBC.out).trans ho3
      have b3 : Blk w3 wr.heap.size #[.slice pp c.1.length capp, .slice pb c.2.length capb] 69 := (ho3.block wr.heap.size bC.out.lt (by simpa using fun e => hmw e.symm)).trans bC.out
      have y1 := b3.cell 1 _ rfl
      clear hv3 ho3 bC b3 a0 a1
      go_wp2_with fail
      refine (hO _ mb tb _ c.2 (Kk ++ c.1.flatMap (varL d)) (Rows.mono RB.out ⟨HO3.out.size, fun g hg hl => HO3.out.block g hl (by simpa using hg)⟩ (fun _ h => h) (fun _ _ _ h => HEx.offN h HO3.out)) HV3.out (by have := HKk.out; simp only [List.length_append]; omega)).mono ?_
      rintro e w4 ⟨rfl, hv4, ho4⟩
      go_wp2_with fail
      exact ⟨⟨k + 1, by omega, by go_num, by show EvR n0 S0 _ _ _ _; rw [HJ.out]; exact hv4, (HOk.out.trans HO3.out).trans ho4⟩, by simp [intOf]; omega⟩
    · have HS : Hid (EvR n0 S0 wr mb tb (K ++ (A ++ (ks.flatMap (varL d) ++ cl.flatMap fun c => c.1.flatMap (varL d) ++ c.2.flatMap (varL d))))) := by
        have := HVk.out
        rw [List.take_of_length_le (by rw [HNC.out]; omega)] at this
        show EvR n0 S0 _ _ _ _
        simpa only [List.append_assoc] using this
      go_wp2_with fail
      go_end0
      exact ⟨rfl, HS.out, HOk.out⟩

theorem eachExpR_all : ∀ d, EeR n0 S0 d
  | 0 => fun w mb tb cs x K h _ _ => h.elim
  | d + 1 => eachExpR_of (eachOfR_of (eachExpR_all d))

/-- eachVar with the method that puts a name into a map. -/
theorem eachVarR_any (w : World) (mb d : Nat) (cs : List Value) (x : Ex) (K : List (List UInt8)) (h : HEx w (fun g => g ≠ mb) d cs x) (hm : RemAt n0 S0 w mb K) (hK : K.length + (varL d x).length ≤ 2097152) :
    Calls Tryz.prog 111 #[.agg cs.toArray, .func (.func 112) #[.map (some mb)] #[]] w fun e w' => e = .returned (.tuple #[]) ∧ RemAt n0 S0 w' mb (K ++ varL d x) ∧ Off [mb] w w' := by
  obtain ⟨sk, sn, st, se, p1, n1, q1, p2, n2, q2, rfl⟩ := HEx.shapeN h
  have HH : Hid (HEx w (fun g => g ≠ mb) d [.int .i64 sk, .int .i64 sn, .string st, .string se, .slice p1 n1 q1, .slice p2 n2 q2] x) := h
  have HM : Hid (RemAt n0 S0 w mb K) := hm
  have hlt := hm.lt
  clear h hm
  go_enter Tryz.func111, Tryz.ntmps111
  go_wp2_with fail
  have hB : Below w.heap.size w ((w.alloc (.cells #[.int .i64 sk, .int .i64 sn, .string st, .string se, .slice p1 n1 q1, .slice p2 n2 q2] 73)).alloc (.cells #[.func (.func 112) #[.map (some mb)] #[]] 149)) := ((Below.refl _ _).alloc (Nat.le_refl _) _).alloc (by simp) _
  have hE : EvR n0 S0 ((w.alloc (.cells #[.int .i64 sk, .int .i64 sn, .string st, .string se, .slice p1 n1 q1, .slice p2 n2 q2] 73)).alloc (.cells #[.func (.func 112) #[.map (some mb)] #[]] 149)) mb (w.heap.size + 1) K := ⟨HM.out.keep (hB.block mb hlt), by
    have := Blk.new (w := w.alloc (.cells #[.int .i64 sk, .int .i64 sn, .string st, .string se, .slice p1 n1 q1, .slice p2 n2 q2] 73)) (cs := #[.func (.func 112) #[.map (some mb)] #[]]) (t := 149)
    rwa [alloc_hs] at this, by omega⟩
  refine (eachExpR_all d _ mb (w.heap.size + 1) _ x K (HH.out.offN (Off.of_below hB)) hE hK).mono ?_
  rintro e w1 ⟨rfl, hv1, ho1⟩
  go_wp2_with fail
  go_end0
  exact ⟨rfl, hv1.m, (Off.of_below hB).trans ho1⟩
end Go.Proofs.YtigfmdfgioccjaaGreatDoor
/-
  maps.Copy of one set of names into another, by contract.
-/
namespace Go.Proofs.YtigfmdfgioccjaaGreatDoor
open Go.ChangeShapes Go.WideShapes Go.ChangeAt Go.RowKit Go.Maps Go.WideMaps
set_option linter.unusedVariables false
set_option maxRecDepth 100000

set_option maxHeartbeats 4000000 in
theorem copyD_any (bd bs nd ns : Nat) (Dd Ds : DataW Unit) (w : World) (hd : w.ownsMap Tryz.prog 9 unitElem bd nd Dd) (hs : w.ownsMap Tryz.prog 9 unitElem bs ns Ds) (hne : bd ≠ bs) (hroom : nd + Maps.size Ds ≤ maxLen) :
    Calls Tryz.prog 144 #[.map (some bd), .map (some bs)] w fun e w' => e = .returned (.tuple #[]) ∧ w'.ownsMap Tryz.prog 9 unitElem bd (nd + Maps.size Ds) (Lib.mergeD Dd Ds) ∧ w.grownBy w' (some bd) := by
  have hbd := hd.lt
  have hbs := hs.lt
  go_enter Tryz.func144, Tryz.ntmps144
  go_wp2_with (at_range; refine wpList_range_own _ rfl _ 129 rfl 9 _ lawN Tryz.underlying129 unitElem bs ns _ rfl hs ?_; intro w0 hrg0 hg0 hs0)
  go_frame
  go_loopw [8] (fun _ wr => ∃ (left : Lit → Bool) (cnt : Nat) (Dout : DataW Unit), wr.ranges Tryz.prog 9 unitElem bs w.heap.size ns Ds left cnt ∧ cnt ≤ Maps.size Ds ∧ wr.ownsMap Tryz.prog 9 unitElem bd (nd + (Maps.size Ds - cnt)) Dout ∧ Merged Dout Dd Ds left ∧ w.grownBy wr (some bd)) (fun _ wr => wr.rangeLeft bs w.heap.size)
  case atStart => exact ⟨_, _, Dd, hrg0, Nat.le_refl _, (hd.kept hg0 (by simp)).mono (by omega), merged_start Dd Ds, hg0.but _⟩
  case round =>
    obtain ⟨left, cnt, Dout, hrg, hcs, hout, hM, hgw⟩ := hrel
    go_wp2_with (at_next; refine wpList_next_ranges _ rfl _ rfl 9 lawN unitElem id id (fun key _ _ => ⟨key, rfl⟩) (fun v _ _ => ⟨v, rfl⟩) bs w.heap.size ns _ _ _ rfl hrg ?_ ?_)
    · intro hc0 hl0
      go_wp2_with fail
      go_end0
      subst hc0
      have e := merged_eq lawN.one hM hl0 (hout.canon lawN) (hd.canonK lawN) (hs.canonK lawN)
      subst e
      exact ⟨rfl, by simpa using hout, hgw⟩
    · intro x c kl yd yp w1 cnt1 hkey hlx hv hat hrg1 hlt hg1 hs1 hen
      obtain ⟨rfl, hyd⟩ := unitElem_inv hv
      have hout1 := hout.kept hg1 (fun e => by have := Option.some.inj e; omega)
      have ga : w1.grownBy (w1.alloc (.cells #[] 175)) none := World.grownBy_alloc _ _ _
      have hout3 := hout1.kept ga (by simp)
      have hrg3 := hrg1.kept ga (by simp) (by simp)
      go_wp2_with (at_mapUpdate; refine wpList_mapUpdate_own _ rfl _ _ _ 129 rfl 9 _ lawN Tryz.underlying129 unitElem bd _ _ rfl hout3 (by omega) _ _ _ rfl rfl hkey yd yp hv ?_; intro w2 hout2 hg2; go_frame)
      have hrg2 := hrg3.kept hg2 (fun e => hne (Option.some.inj e).symm) (fun e => by have := Option.some.inj e; omega)
      go_roundw
      case rel => exact ⟨_, cnt1, _, hrg2, by omega, hout2.mono (by omega), merged_step hM hout.isMap (lawN.key hkey) hat, ((hgw.andThen hg1 (fun j hj => .inl (by cases hj; exact Nat.le_refl _))).andThen ga (fun j hj => by cases hj)).andThen hg2 (fun j hj => .inr hj)⟩
      case measure => rw [hrg2.left_eq, hrg.left_eq]; exact hlt
/-- The one set then holds the other's names too. -/
theorem has_merge {D : DataW Unit} (hD : SetOkN D) : ∀ (es : List (Lit × DataW Unit)), (∀ p ∈ es, (∃ x, p.1 = .string x) ∧ p.2 = .agg []) → SetOkN (es.foldl (fun D p => D.put p.1 p.2) D) ∧ ∀ z, has (es.foldl (fun D p => D.put p.1 p.2) D) (.string z) = true ↔ has D (.string z) = true ∨ ∃ p ∈ es, p.1 = .string z
  | [], _ => ⟨hD, fun z => by simp⟩
  | q :: qs, h => by
    obtain ⟨⟨x, hx⟩, hq⟩ := h q (by simp)
    have hD' : SetOkN (D.put q.1 q.2) := by rw [hx, hq]; exact hD.put x
    obtain ⟨h1, h2⟩ := has_merge hD' qs (fun p hp => h p (by simp [hp]))
    refine ⟨h1, fun z => ?_⟩
    rw [List.foldl_cons, h2 z]
    have hM : IsMap D := by obtain ⟨es, rfl, _⟩ := hD.tidy; exact ⟨es, rfl⟩
    by_cases hz : z = x
    · subst hz
      rw [hx]
      simp [has_put_same hM (k := Lit.string z) trivial, hx]
    · rw [hx, has_put_other (by intro e; cases e; exact hz rfl)]
      have : ¬ Lit.string x = Lit.string z := by intro e; cases e; exact hz rfl
      simp [hx, this]
theorem SetAt.size {w : World} {mb n : Nat} {D : DataW Unit} (hm : w.ownsMap Tryz.prog 9 unitElem mb n D) : Maps.size D ≤ n := by
  obtain ⟨es, clock, -, -, h1, rfl⟩ := hm
  have h2 : ∀ (q : List (Lit × DataW Unit)), (q.foldr DataW.insert []).length = q.length := fun q => by
    induction q with
    | nil => rfl
    | cons x xs ih => rw [List.foldr_cons, DataW.length_insert, ih]; rfl
  show (List.foldr DataW.insert [] _).length ≤ _
  rw [h2, List.length_map, Array.length_toList]
  exact h1
theorem copyN_any (w : World) (bd bs nd ns : Nat) (S T : List UInt8 → Prop) (hd : SetAt w bd nd S) (hs : SetAt w bs ns T) (hne : bd ≠ bs) (hroom : nd + ns ≤ maxLen) :
    Calls Tryz.prog 144 #[.map (some bd), .map (some bs)] w fun e w' => e = .returned (.tuple #[]) ∧ SetAt w' bd (nd + ns) (fun z => S z ∨ T z) ∧ Off [bd] w w' := by
  obtain ⟨Dd, hmd, hDd, hhd⟩ := hd
  obtain ⟨Ds, hms, hDs, hhs⟩ := hs
  have hsz := SetAt.size hms
  refine (copyD_any bd bs nd ns Dd Ds w hmd hms hne (by omega)).mono ?_
  rintro e w' ⟨rfl, ho, hg⟩
  obtain ⟨es, rfl, hp⟩ := hDs.tidy
  obtain ⟨h1, h2⟩ := has_merge hDd es (hDs.keys es rfl)
  refine ⟨rfl, ⟨_, ho.mono (by omega), h1, fun z => (h2 z).trans ?_⟩, Off.of_grown hg (by simp)⟩
  show _ ↔ S z ∨ T z
  rw [hhd z, ← hhs z, has_eq, List.any_eq_true]
  constructor
  · rintro (h | ⟨p, hp', e⟩)
    · exact .inl h
    · exact .inr ⟨p, hp', by rw [e]; exact WideAt.sameKey_self trivial⟩
  · rintro (h | ⟨p, hp', e⟩)
    · exact .inl h
    · exact .inr ⟨p, hp', WideAt.sameKey_eq e⟩
end Go.Proofs.YtigfmdfgioccjaaGreatDoor
/-
  The program's names.stepAheadOfAll, by contract: a list of right expressions from its end.
-/
namespace Go.Proofs.YtigfmdfgioccjaaGreatDoor
open Go.ChangeShapes Go.WideShapes Go.ChangeAt Go.RowKit Go.Maps Go.WideMaps Go.Shelf
set_option linter.unusedVariables false
set_option maxRecDepth 100000
attribute [local go_sem] Oper.semAt_some

def StA (d : Nat) : Prop := ∀ (w : World) (mb n : Nat) (S : List UInt8 → Prop) (cs : List Value) (x : Ex) (pat : Bool) (deep : Int), HEx w (fun g => g ≠ mb) d cs x → exOk d x pat deep = true → SetAt w mb n S → n + (varL d x).length ≤ 2097152 →
    Calls Tryz.prog 127 #[.map (some mb), .agg cs.toArray] w fun e w' => e = .returned (.tuple #[]) ∧ SetAt w' mb (n + (varL d x).length) (stepS d x S) ∧ Off [mb] w w'
def StO (d : Nat) : Prop := ∀ (w : World) (mb n : Nat) (S : List UInt8 → Prop) (v : Value) (es : List Ex), Rows w (fun g => g ≠ mb) 6 (HEx w (fun g => g ≠ mb) d) v es → (∀ y ∈ es, ∃ p deep, exOk d y p deep = true) → SetAt w mb n S → n + (es.flatMap (varL d)).length ≤ 2097152 →
    Calls Tryz.prog 110 #[.map (some mb), v] w fun e w' => e = .returned (.tuple #[]) ∧ SetAt w' mb (n + (es.flatMap (varL d)).length) (es.foldr (stepS d) S) ∧ Off [mb] w w'

/-- A row's elements, each with its cells. -/
theorem rows_list {w : World} {S : Nat → Prop} {R : List Value → Ex → Prop} {p : Option Addr} {n cap : Nat} {es : List Ex} (h : Rows w S 6 R (.slice p n cap) es) :
    ∃ L : List (List Value), L.length = es.length ∧ ∀ i cs, L[i]? = some cs → cs.length = 6 ∧ (∃ g off, p = some ⟨g, off, none⟩ ∧ S g ∧ g < w.heap.size ∧ ∀ j, j < 6 → w.cell? ⟨g, off + i * 6 + j, none⟩ = cs[j]?) ∧ ∀ x, es[i]? = some x → R cs x := by
  obtain ⟨p', cap', hv, -, -, hx⟩ := h
  simp only [Value.slice.injEq] at hv
  obtain ⟨rfl, -, rfl⟩ := hv
  by_cases hne : es = []
  · subst hne; exact ⟨[], rfl, fun i cs h => by simp at h⟩
  obtain ⟨g, off, rfl, hS, hg, hat⟩ := hx hne
  have : ∀ i ∈ List.range es.length, ∃ cs : List Value, cs.length = 6 ∧ (∀ j, j < 6 → w.cell? ⟨g, off + i * 6 + j, none⟩ = cs[j]?) ∧ ∀ x, es[i]? = some x → R cs x := fun i hi => by
    have hi' : i < es.length := by simpa using hi
    obtain ⟨cs, h1, h2, h3⟩ := hat i _ (List.getElem?_eq_getElem hi')
    exact ⟨cs, h1, h2, fun x hx => by rw [List.getElem?_eq_getElem hi'] at hx; cases hx; exact h3⟩
  obtain ⟨L, hL, hat'⟩ := pick this
  refine ⟨L, by simpa using hL, fun i cs hi => ?_⟩
  obtain ⟨i', hi', h1, h2, h3⟩ := hat' i cs hi
  have hlt : i < es.length := by have := (List.getElem?_eq_some_iff.1 hi).1; rw [hL] at this; simpa using this
  obtain rfl : i' = i := by
    rw [List.getElem?_range hlt] at hi'; exact (Option.some.inj hi').symm
  exact ⟨h1, ⟨g, off, rfl, hS, hg, h2⟩, h3⟩
theorem drop_back {α : Type} (es : List α) (n k : Nat) (x : α) (hn : es.length = n) (hk : k < n) (hx : es[n - 1 - k]? = some x) : es.drop (n - (k + 1)) = x :: es.drop (n - k) := by
  have h1 : n - (k + 1) = n - 1 - k := by omega
  have h2 : n - k = n - 1 - k + 1 := by omega
  obtain ⟨h3, h4⟩ := List.getElem?_eq_some_iff.1 hx
  rw [h1, h2, List.drop_eq_getElem_cons h3, h4]

theorem flat_drop {α β : Type} (f : α → List β) (es : List α) (i : Nat) : ((es.drop i).flatMap f).length ≤ (es.flatMap f).length := by
  conv => rhs; rw [← List.take_append_drop i es]
  rw [List.flatMap_append, List.length_append]
  omega
structure StI (w : World) (mb n d : Nat) (S : List UInt8 → Prop) (es : List Ex) (W : World) : Prop where
  set : SetAt W mb (n + (es.flatMap (varL d)).length) (es.foldr (stepS d) S)
  off : Off [mb] w W
  box : Blk W w.heap.size #[.map (some mb)] 129
set_option maxHeartbeats 8000000 in
theorem ofAll_of {d : Nat} (hA : StA d) : StO d := by
  intro w mb n S v es h hok hset hcnt
  obtain ⟨p, cap, rfl, hcl, hcm, -⟩ := id h
  obtain ⟨L, hLl, hLat⟩ := rows_list h
  have hnb : es.length ≤ 9223372036854775807 := by unfold maxLen at hcm; omega
  have hmb := hset.lt
  have HSET : Hid (SetAt w mb n S) := hset
  have HCNT : Hid (n + (es.flatMap (varL d)).length ≤ 2097152) := hcnt
  have HOK : Hid (∀ y ∈ es, ∃ p deep, exOk d y p deep = true) := hok
  have HLT : Hid (∀ i cs, L[i]? = some cs → cs.length = 6 ∧ (∃ g off, p = some ⟨g, off, none⟩ ∧ g ≠ mb ∧ g < w.heap.size ∧ ∀ j, j < 6 → w.cell? ⟨g, off + i * 6 + j, none⟩ = cs[j]?) ∧ ∀ x, es[i]? = some x → HEx w (fun g => g ≠ mb) d cs x) := hLat
  have HLL : Hid (L.length = es.length) := hLl
  have HA : Hid (StA d) := hA
  generalize hN : es.length = N at *
  have HN : Hid (es.length = N) := hN
  clear h hok hset hcnt hLat hA hN hLl
  have hfB : Fence.wide.fn 126 := trivial
  refine (callsIn_wide (n := 7)).1 ?_
  refine callsIn_of_wp_marks Tryz.func110 rfl trivial ?_ rfl
  simp only [Tryz.ntmps110, List.size_toArray, List.length_cons, List.length_nil, Nat.reduceAdd, Nat.reduceSub, Array.replicate_succ, Array.replicate_zero, List.push_toArray, List.append_toArray, List.nil_append, List.cons_append]
  gi_wp2_with (gi_at_call 126; refine ((callsIn_wide (n := 6)).2 (back_any _ _ _ _)).mono ?_; rintro e w' ⟨rfl, rfl⟩)
  have BW : Below w.heap.size w ((w.alloc (.cells #[.map (some mb)] 129)).alloc (.cells #[.slice p N cap] 67)) := ((Below.refl _ _).alloc (Nat.le_refl _) _).alloc (by simp) _
  have bM : Blk ((w.alloc (.cells #[.map (some mb)] 129)).alloc (.cells #[.slice p N cap] 67)) w.heap.size #[.map (some mb)] 129 := Blk.new.alloc
  have bS : Blk ((w.alloc (.cells #[.map (some mb)] 129)).alloc (.cells #[.slice p N cap] 67)) (w.heap.size + 1) #[.slice p N cap] 67 := by
    have := Blk.new (w := w.alloc (.cells #[.map (some mb)] 129)) (cs := #[.slice p N cap]) (t := 67)
    rwa [alloc_hs] at this
  have hsz : ((w.alloc (.cells #[.map (some mb)] 129)).alloc (.cells #[.slice p N cap] 67)).heap.size = w.heap.size + 2 := by rw [alloc_hs, alloc_hs]
  generalize hWW : (w.alloc (.cells #[.map (some mb)] 129)).alloc (.cells #[.slice p N cap] 67) = w0 at *
  refine range_idx rfl (by omega) (gf := 134) (lb := #[.pointer (some ⟨w.heap.size + 1, 0, none⟩)]) rfl trivial (enters_of Tryz.func134 (by kernel_rfl) rfl)
    (encs := fun k => #[.int .i64 ((N - 1 - k : Nat) : Nat), .agg (L.getD (N - 1 - k) []).toArray]) (fun _ => rfl) N mb (by omega)
    (fun l J W hW hY h0 => back_idx 5 l (w.heap.size + 1) w0.heap.size mb N cap p L HLL.out hnb (by omega) (by omega) J hY W ((hW.cell (p := ⟨w.heap.size + 1, 0, none⟩) (by show w.heap.size + 1 < _; omega)).trans (bS.cell 0 _ rfl)) (fun i cs hi => ?lat) h0)
    (fun k W => StI w mb n d S (es.drop (N - k)) W)
    (fun k A B h hA hB => ⟨h.set.keep (hB.block mb (by omega)), h.off.under (by omega) hB, h.box.below hB (by omega)⟩)
    (by rw [Nat.sub_zero, List.drop_of_length_le (by rw [HN.out]; exact Nat.le_refl _)]; exact ⟨HSET.out.keep (BW.block mb hmb), Off.of_below BW, bM⟩) ?round ?done
  case lat =>
    obtain ⟨h1, ⟨g, off, h2, h3, h4, h5⟩, -⟩ := HLT.out i cs hi
    exact ⟨h1, g, off, h2, by omega, h3, fun j hj => (hW.cell (p := ⟨g, _, none⟩) (by show g < _; omega)).trans ((BW.cell (p := ⟨g, _, none⟩) h4).trans (h5 j hj))⟩
  case round =>
    rintro l k W ⟨hs, ho, hm⟩ hsW hk hl
    have hi : N - 1 - k < N := by omega
    obtain ⟨cs, hcs⟩ : ∃ cs, L[N - 1 - k]? = some cs := ⟨L[N - 1 - k]'(by rw [HLL.out]; exact hi), List.getElem?_eq_getElem _⟩
    obtain ⟨x, hx⟩ : ∃ x, es[N - 1 - k]? = some x := ⟨es[N - 1 - k]'(by rw [HN.out]; exact hi), List.getElem?_eq_getElem _⟩
    have hgd : L.getD (N - 1 - k) [] = cs := by rw [List.getD_eq_getElem?_getD, hcs]; rfl
    obtain ⟨-, -, h3⟩ := HLT.out _ cs hcs
    have hex := h3 x hx
    obtain ⟨sk, sn, st, se, p1, n1, q1, p2, n2, q2, hsh⟩ := HEx.shapeN hex
    subst hsh
    rw [hgd]
    have HS : Hid (SetAt W mb (n + ((es.drop (N - k)).flatMap (varL d)).length) ((es.drop (N - k)).foldr (stepS d) S)) := hs
    have HX : Hid (HEx w (fun g => g ≠ mb) d [.int .i64 sk, .int .i64 sn, .string st, .string se, .slice p1 n1 q1, .slice p2 n2 q2] x) := hex
    have HO : Hid (Off [mb] w W) := ho
    have HM : Hid (Blk W w.heap.size #[.map (some mb)] 129) := hm
    have HD : Hid (es.drop (N - (k + 1)) = x :: es.drop (N - k)) := drop_back es N k x HN.out hk hx
    have HFL : Hid (n + ((es.drop (N - k)).flatMap (varL d)).length + (varL d x).length ≤ 2097152) := by
      have h1 := flat_drop (varL d) es (N - (k + 1))
      have h2 := HCNT.out
      rw [HD.out, List.flatMap_cons, List.length_append] at h1
      show _ ≤ _
      omega
    obtain ⟨px, dx, hpx⟩ := HOK.out x (List.mem_of_getElem? hx)
    have HPX : Hid (exOk d x px dx = true) := hpx
    clear hs hex ho hm hgd h3 hpx
    gi_wp2
    refine ⟨Off.of_below ((Below.refl _ _).alloc (Nat.le_refl _) _), fun r o' hl' => ?_⟩
    have bB := Blk.new (w := W) (cs := #[.int .i64 sk, .int .i64 sn, .string st, .string se, .slice p1 n1 q1, .slice p2 n2 q2]) (t := 73)
    have BA : Below w0.heap.size W (W.alloc (.cells #[.int .i64 sk, .int .i64 sn, .string st, .string se, .slice p1 n1 q1, .slice p2 n2 q2] 73)) := (Below.refl _ _).alloc hsW _
    have hne : W.heap.size ≠ l := fun e => by
      unfold Blk at bB
      rw [e, hl'] at bB
      cases bB
    generalize W.alloc (.cells #[.int .i64 sk, .int .i64 sn, .string st, .string se, .slice p1 n1 q1, .slice p2 n2 q2] 73) = W' at *
    have BP : Below w0.heap.size W' (W'.putObj l o') := below_put o' hl
    have bB2 : Blk (W'.putObj l o') W.heap.size #[.int .i64 sk, .int .i64 sn, .string st, .string se, .slice p1 n1 q1, .slice p2 n2 q2] 73 := (World.putObj_heap_other hne).trans bB
    have BQ : Below w0.heap.size W (W'.putObj l o') := BA.trans BP
    have bM2 : Blk (W'.putObj l o') w.heap.size #[.map (some mb)] 129 := HM.out.below BQ (by omega)
    have HO2 : Hid (Off [mb] w (W'.putObj l o')) := HO.out.under (by omega) BQ
    have HS2 : Hid (SetAt (W'.putObj l o') mb (n + ((es.drop (N - k)).flatMap (varL d)).length) ((es.drop (N - k)).foldr (stepS d) S)) := HS.out.keep (BQ.block mb (by omega))
    generalize W'.putObj l o' = W2 at *
    have c0 := bM2.cell 0 _ rfl
    have d0 := bB2.cell 0 _ rfl
    have d1 := bB2.cell 1 _ rfl
    have d2 := bB2.cell 2 _ rfl
    have d3 := bB2.cell 3 _ rfl
    have d4 := bB2.cell 4 _ rfl
    have d5 := bB2.cell 5 _ rfl
    have HM2 : Hid (Blk W2 w.heap.size #[.map (some mb)] 129) := bM2
    have hfA : Fence.wide.fn 127 := trivial
    have hW2 : w.heap.size + 2 ≤ W2.heap.size := by have := BQ.size; omega
    clear bB bB2 bM2 BA BP BQ hl'
    gi_wp2_with (gi_at_call 127; refine (CallsIn.inRound l ((callsIn_wide (n := 7 - 1 - 1 - 1)).2 (HA.out _ mb _ _ _ x px dx (HX.out.offN HO2.out) HPX.out HS2.out HFL.out))).mono ?_; rintro e w3 ⟨rfl, hs3, ho3⟩)
    rw [HD.out]
    refine ⟨?_, HO2.out.trans ho3, ?_⟩
    · rw [ List.flatMap_cons, List.length_append, List.foldr_cons, show n + ((varL d x).length + ((es.drop (N - k)).flatMap (varL d)).length) = n + ((es.drop (N - k)).flatMap (varL d)).length + (varL d x).length by omega]
      exact hs3
    · exact (ho3.block w.heap.size (by omega) (by simp; omega)).trans HM2.out
  case done =>
    intro D W hD hI hK
    rw [Nat.sub_self, List.drop_zero] at hI
    obtain ⟨hs, ho, -⟩ := hI
    gi_wp2
    refine ⟨by simp, .inl ⟨_, _, rfl, run_takeDeferred hK, ?_⟩⟩
    have hp : Below w0.heap.size W (W.putObj D (.deferred none)) := below_put _ hD
    exact ⟨_, results_none rfl _ _ _, rfl, hs.keep (hp.block mb (by omega)), ho.under (by omega) hp⟩
end Go.Proofs.YtigfmdfgioccjaaGreatDoor
/-
  Small functions of the program's chapter 4, by contract: binds; Bound of what has no kids; removeAll of no names.
-/
namespace Go.Proofs.YtigfmdfgioccjaaGreatDoor
open Go.ChangeShapes Go.WideShapes Go.ChangeAt Go.RowKit Go.Maps Go.WideMaps
set_option linter.unusedVariables false
set_option maxRecDepth 100000

def bindsB (k : Int) (nk : Nat) : Bool := decide (k = 9) && decide (nk = 2)
theorem binds_any (k n : Int) (t m : ByteArray) (p q : Option Addr) (nk c nc c' : Nat) (w : World) :
    Calls Tryz.prog 138 #[.agg #[.int .i64 k, .int .i64 n, .string t, .string m, .slice p nk c, .slice q nc c']] w fun e w' => e = .returned (.bool (bindsB k nk)) ∧ w' = w.alloc (.cells #[.int .i64 k, .int .i64 n, .string t, .string m, .slice p nk c, .slice q nc c'] 73) := by
  by_cases hk : k = 9
  · subst hk
    by_cases h2 : nk = 2
    · subst h2
      go_enter Tryz.func138, Tryz.ntmps138
      go_wp2
      go_ret
      exact ⟨by simp [bindsB], rfl⟩
    · have h2' : ¬ (nk : Int) = 2 := by omega
      have h2b : ((nk : Int) == 2) = false := by simpa using h2'
      have HE : Hid (bindsB 9 nk = false) := by show _ = _; simp [bindsB, h2]
      go_enter Tryz.func138, Tryz.ntmps138
      go_wp2
      go_ret
      exact ⟨by rw [HE.out]; rfl, rfl⟩
  · have hkb : (k == 9) = false := by simpa using hk
    have HE : Hid (bindsB k nk = false) := by show _ = _; simp [bindsB, hk]
    go_enter Tryz.func138, Tryz.ntmps138
    go_wp2
    go_ret
    exact ⟨by rw [HE.out]; rfl, rfl⟩

theorem addExp0_any (n : Int) (t m : ByteArray) (p q : Option Addr) (c nc c' : Nat) (v : Value) (w : World) :
    Calls Tryz.prog 143 #[v, .agg #[.int .i64 2, .int .i64 n, .string t, .string m, .slice p 0 c, .slice q nc c']] w fun e w' => e = .returned (.tuple #[]) ∧ Below w.heap.size w w' := by
  have BL : Hid (Below w.heap.size w ((w.alloc (.cells #[.int .i64 2, .int .i64 n, .string t, .string m, .slice p 0 c, .slice q nc c'] 73)).alloc (.cells #[.int .i64 2, .int .i64 n, .string t, .string m, .slice p 0 c, .slice q nc c'] 73))) := ((Below.refl _ _).alloc (Nat.le_refl _) _).alloc (by simp) _
  have hb : bindsB 2 0 = false := rfl
  go_enter Tryz.func143, Tryz.ntmps143
  go_wp2_with (go_at_call 138; refine (binds_any _ _ _ _ _ _ _ _ _ _ _).mono ?_; rintro e w' ⟨rfl, rfl⟩; rw [hb])
  go_loopw [24] (fun iv wr => iv = .int .i64 0 ∧ Hid (Below w.heap.size w wr)) (fun _ _ => 0)
  case atStart => exact ⟨rfl, BL.out⟩
  case round =>
    obtain ⟨rfl, HB⟩ := hrel
    go_wp2_with fail
    go_end0
    exact ⟨rfl, HB.out⟩
theorem bound0_any (n : Int) (t m : ByteArray) (p q : Option Addr) (c nc c' : Nat) (w : World) :
    Calls Tryz.prog 136 #[.agg #[.int .i64 2, .int .i64 n, .string t, .string m, .slice p 0 c, .slice q nc c']] w fun e w' => (∃ p c, e = .returned (.slice p 0 c)) ∧ Below w.heap.size w w' := by
  have hm := @mkMap
  go_enter Tryz.func136, Tryz.ntmps136
  go_wp2_with fail
  have bO := Blk.new (w := ((w.alloc (.cells #[.int .i64 2, .int .i64 n, .string t, .string m, .slice p 0 c, .slice q nc c'] 73)).alloc (.map #[] 0)).alloc (.cells #[] 9)) (cs := #[.map (some (w.heap.size + 1)), .slice (some ⟨w.heap.size + 1 + 1, 0, none⟩) 0 0]) (t := 174)
  simp only [alloc_hs] at bO
  have BL : Below w.heap.size w ((((w.alloc (.cells #[.int .i64 2, .int .i64 n, .string t, .string m, .slice p 0 c, .slice q nc c'] 73)).alloc (.map #[] 0)).alloc (.cells #[] 9)).alloc (.cells #[.map (some (w.heap.size + 1)), .slice (some ⟨w.heap.size + 1 + 1, 0, none⟩) 0 0] 174)) := ((((Below.refl _ _).alloc (Nat.le_refl _) _).alloc (by simp) _).alloc (by simp only [alloc_hs]; omega) _).alloc (by simp only [alloc_hs]; omega) _
  refine (addExp0_any _ _ _ _ _ _ _ _ _ _).mono ?_
  rintro e w1 ⟨rfl, hb⟩
  have b1 := bO.next hb
  have x1 := b1.cell 1 _ rfl
  have B1 : Hid (Below w.heap.size w w1) := BL.trans (hb.mono BL.size)
  clear hb BL bO b1
  go_wp2_with fail
  go_ret
  exact ⟨⟨_, _, rfl⟩, B1.out⟩
theorem removeAll0_any (mb : Nat) (p : Option Addr) (c : Nat) (w : World) :
    Calls Tryz.prog 135 #[.map (some mb), .slice p 0 c] w fun e w' => e = .returned (.tuple #[]) ∧ w' = w := by
  go_enter Tryz.func135, Tryz.ntmps135
  go_wp2_with fail
  go_loopw [8] (fun iv wr => iv = .int .i64 0 ∧ Hid (wr = w)) (fun _ _ => 0)
  case atStart => exact ⟨rfl, rfl⟩
  case round =>
    obtain ⟨rfl, HB⟩ := hrel
    go_wp2_with fail
    go_end0
    exact ⟨rfl, HB.out⟩
end Go.Proofs.YtigfmdfgioccjaaGreatDoor
/-
  The program's names.stepAhead, wantedBy, addWantedBy, by contract: of right expressions.
-/
namespace Go.Proofs.YtigfmdfgioccjaaGreatDoor
open Go.ChangeShapes Go.WideShapes Go.ChangeAt Go.RowKit Go.Maps Go.WideMaps
set_option linter.unusedVariables false
set_option maxRecDepth 100000

/-- The names that a clause wants. -/
def wantS (d : Nat) (c : Cl) : List UInt8 → Prop := fun z => inK z (listV (freeV d) (bndV d) (foldV (patV d) [] c.1) c.2)
def clVarL (d : Nat) (c : Cl) : List (List UInt8) := c.1.flatMap (varL d) ++ c.2.flatMap (varL d)
def clOkD (d : Nat) (c : Cl) : Prop := (∃ deep, ∀ y ∈ c.1, exOk d y true deep = true) ∧ ∀ y ∈ c.2, ∃ p deep, exOk d y p deep = true
def WbC (d : Nat) : Prop := ∀ (w : World) (cs : List Value) (c : Cl), HCl w All (HEx w All d) cs c → clOkD d c → (clVarL d c).length ≤ 2097152 →
    Calls Tryz.prog 92 #[.agg cs.toArray] w fun e w' => ∃ mb, e = .returned (.map (some mb)) ∧ w.heap.size ≤ mb ∧ SetAt w' mb (clVarL d c).length (wantS d c) ∧ Below w.heap.size w w'
def AwC (d : Nat) : Prop := ∀ (w : World) (mb n : Nat) (S : List UInt8 → Prop) (v : Value) (cl : List Cl), Rows w (fun g => g ≠ mb) 2 (HCl w (fun g => g ≠ mb) (HEx w (fun g => g ≠ mb) d)) v cl → (∀ c ∈ cl, clOkD d c) → SetAt w mb n S → n + (cl.flatMap (clVarL d)).length ≤ 2097152 →
    Calls Tryz.prog 139 #[.map (some mb), v] w fun e w' => e = .returned (.tuple #[]) ∧ SetAt w' mb (n + (cl.flatMap (clVarL d)).length) (fun z => S z ∨ ∃ c ∈ cl, wantS d c z) ∧ Off [mb] w w'

set_option maxHeartbeats 8000000 in
theorem wantedBy_of {d : Nat} (hO : StO d) : WbC d := by
  intro w cs c h hok hcnt
  have hm := @mkMap
  obtain ⟨pv, bdv, rfl, rp, rb⟩ := h
  have HOK : Hid (clOkD d c) := hok
  have HRP : Hid (Rows w All 6 (HEx w All d) pv c.1) := rp
  have HRB : Hid (Rows w All 6 (HEx w All d) bdv c.2) := rb
  obtain ⟨pp, capp, rfl, hclp, hcmp, -⟩ := id rp
  obtain ⟨pb, capb, rfl, -⟩ := id rb
  have hnp : c.1.length ≤ 9223372036854775807 := by unfold maxLen at hcmp; omega
  have hcl : (clVarL d c).length = (c.1.flatMap (varL d)).length + (c.2.flatMap (varL d)).length := by unfold clVarL; rw [List.length_append]
  have HCL : Hid ((clVarL d c).length = (c.1.flatMap (varL d)).length + (c.2.flatMap (varL d)).length) := hcl
  have HC : Hid ((clVarL d c).length ≤ 2097152) := hcnt
  have B0 : Below w.heap.size w ((w.alloc (.cells #[.slice pp c.1.length capp, .slice pb c.2.length capb] 69)).alloc (.map #[] 0)) := ((Below.refl _ _).alloc (Nat.le_refl _) _).alloc (by simp) _
  have bC : Hid (Blk ((w.alloc (.cells #[.slice pp c.1.length capp, .slice pb c.2.length capb] 69)).alloc (.map #[] 0)) w.heap.size #[.slice pp c.1.length capp, .slice pb c.2.length capb] 69) := Blk.new.alloc
  have M0 : Hid (SetAt ((w.alloc (.cells #[.slice pp c.1.length capp, .slice pb c.2.length capb] 69)).alloc (.map #[] 0)) (w.heap.size + 1) 0 (fun _ => False)) := by
    have := SetAt.made (w.alloc (.cells #[.slice pp c.1.length capp, .slice pb c.2.length capb] 69))
    rwa [alloc_hs] at this
  have HB0 : Hid (Below w.heap.size w ((w.alloc (.cells #[.slice pp c.1.length capp, .slice pb c.2.length capb] 69)).alloc (.map #[] 0))) := B0
  have RT : Hid (∀ w' v es, Rows w All 6 (HEx w All d) v es → Below w.heap.size w w' → Rows w' (fun g => g ≠ w.heap.size + 1) 6 (HEx w' (fun g => g ≠ w.heap.size + 1) d) v es) := fun w' v es h hb => by
    have h1 := h.tight (R' := HEx w (fun g => g < w.heap.size) d) (fun _ _ h => h.tight)
    have s1 : SameOn (fun g => g < w.heap.size) w w' := ⟨hb.size, fun g hg _ => hb.block g hg⟩
    exact h1.mono s1 (fun g (hg : g < w.heap.size) => by show g ≠ _; omega) (fun _ _ _ h => h.mono s1 (fun g (hg : g < w.heap.size) => by show g ≠ _; omega))
  generalize hnp0 : c.1.length = np at *
  have HNP : Hid (c.1.length = np) := hnp0
  clear rp rb hok hcnt hcl B0 hnp0 hclp hcmp
  go_enter Tryz.func92, Tryz.ntmps92
  go_wp2_with fail
  refine (hO _ (w.heap.size + 1) 0 (fun _ => False) _ c.2 (RT.out _ _ _ HRB.out HB0.out) HOK.out.2 M0.out (by have := HC.out; have := HCL.out; omega)).mono ?_
  rintro e w1 ⟨rfl, hs1, ho1⟩
  rw [Nat.zero_add] at hs1
  have B1 : Hid (Below w.heap.size w w1) := HB0.out.trans (ho1.below (by simp) HB0.out.size)
  have b1 : Hid (Blk w1 w.heap.size #[.slice pp np capp, .slice pb c.2.length capb] 69) := (ho1.block w.heap.size bC.out.lt (by simp)).trans bC.out
  have M1 : Hid (SetAt w1 (w.heap.size + 1) (c.2.flatMap (varL d)).length (c.2.foldr (stepS d) (fun _ => False))) := hs1
  have x0 := b1.out.cell 0 _ rfl
  clear hs1 ho1 M0 bC HB0
  go_wp2_with fail
  go_loopw [14] (fun iv wr => ∃ k : Nat, k ≤ np ∧ iv = .int .i64 k ∧ Hid (SetAt wr (w.heap.size + 1) (c.2.flatMap (varL d)).length (fun z => c.2.foldr (stepS d) (fun _ => False) z ∧ z ∉ (c.1.take k).flatMap (varL d))) ∧ Hid (Below w.heap.size w wr)) (fun iv _ => np - (intOf iv).toNat)
  case atStart => exact ⟨0, Nat.zero_le _, rfl, M1.out.iff (fun z => by simp), B1.out⟩
  case round =>
    clear x0 M1 B1 b1
    obtain ⟨k, hk, rfl, HM, HB⟩ := hrel
    by_cases hlt : k < np
    · obtain ⟨x, hxk⟩ : ∃ x, c.1[k]? = some x := ⟨c.1[k]'(by rw [HNP.out]; exact hlt), List.getElem?_eq_getElem _⟩
      obtain ⟨p', cap', hv, -, -, hx⟩ := RT.out wr _ _ HRP.out HB.out
      simp only [Value.slice.injEq] at hv
      obtain ⟨rfl, -, rfl⟩ := hv
      obtain ⟨g, off, rfl, hgm, hgl, hat⟩ := hx (by intro h; rw [h] at hxk; simp at hxk)
      obtain ⟨cs, hcsl, hcs, r1⟩ := hat k x hxk
      have E1 : Hid (HEx wr (fun g => g ≠ w.heap.size + 1) d cs x) := r1
      obtain ⟨c0, c1, c2, c3, c4, c5, rfl⟩ := len6 hcsl
      have a0 := hcs 0 (by omega)
      have a1 := hcs 1 (by omega)
      have a2 := hcs 2 (by omega)
      have a3 := hcs 3 (by omega)
      have a4 := hcs 4 (by omega)
      have a5 := hcs 5 (by omega)
      simp at a0 a1 a2 a3 a4 a5
      have HFX : Hid ((varL d x).length ≤ 2097152) := by
        have h1 := HC.out
        have h2 := HCL.out
        have h3 := flat_drop (varL d) c.1 k
        rw [List.drop_eq_getElem_cons (by rw [HNP.out]; exact hlt), List.flatMap_cons, List.length_append] at h3
        have h5 : c.1[k]'(by rw [HNP.out]; exact hlt) = x := (List.getElem?_eq_some_iff.1 hxk).2
        rw [h5] at h3
        show _ ≤ _
        omega
      have HT : Hid ((c.1.take (k + 1)).flatMap (varL d) = (c.1.take k).flatMap (varL d) ++ varL d x) := by
        show _ = _
        rw [List.take_add_one, hxk]; simp
      have hki : (k : Int) < (np : Int) := by omega
      have hk0 : (0 : Int) ≤ (k : Int) := by omega
      clear hat hcs hcsl r1 hx
      obtain ⟨sk, sn, st, se, p1, n1, q1, p2, n2, q2, hsh⟩ := HEx.shapeN E1.out
      simp only [List.cons.injEq, and_true] at hsh
      obtain ⟨rfl, rfl, rfl, rfl, rfl, rfl⟩ := hsh
      have HBA : Hid (Below wr.heap.size wr (wr.alloc (.cells #[.int .i64 sk, .int .i64 sn, .string st, .string se, .slice p1 n1 q1, .slice p2 n2 q2] 73))) := (Below.refl _ _).alloc (Nat.le_refl _) _
      go_wp2_with fail
      refine (eachVarR_any (n0 := (c.2.flatMap (varL d)).length) (S0 := fun z => c.2.foldr (stepS d) (fun _ => False) z ∧ z ∉ (c.1.take k).flatMap (varL d)) _ (w.heap.size + 1) d _ x [] (E1.out.offN (Off.of_below HBA.out)) ((HM.out.keep (HBA.out.block _ HM.out.lt)).iff (fun z => by simp)) (by have := HFX.out; simpa using this)).mono ?_
      rintro e w2 ⟨rfl, hm2, ho2⟩
      rw [List.nil_append] at hm2
      have B2 : Hid (Below w.heap.size w w2) := (HB.out.trans (HBA.out.mono HB.out.size)).trans (ho2.below (by simp) (by have := HB.out.size; rw [alloc_hs]; omega))
      have M2 : Hid (SetAt w2 (w.heap.size + 1) (c.2.flatMap (varL d)).length (fun z => c.2.foldr (stepS d) (fun _ => False) z ∧ z ∉ (c.1.take (k + 1)).flatMap (varL d))) := SetAt.iff hm2 (fun z => by rw [HT.out, List.mem_append, not_or, and_assoc])
      clear hm2 ho2
      go_wp2_with fail
      exact ⟨⟨k + 1, by omega, by go_num, M2.out, B2.out⟩, by simp [intOf]; omega⟩
    · have HS : Hid (SetAt wr (w.heap.size + 1) (clVarL d c).length (wantS d c)) := by
        have h1 := HM.out
        rw [List.take_of_length_le (by rw [HNP.out]; omega)] at h1
        obtain ⟨⟨deep, hp⟩, -⟩ := HOK.out
        exact (h1.iff (fun z => clause_step d c deep hp z)).more (by have := HCL.out; omega)
      go_wp2_with fail
      go_ret
      exact ⟨_, rfl, by omega, HS.out, HB.out⟩

set_option maxHeartbeats 8000000 in
theorem addWanted_of {d : Nat} (hW : WbC d) : AwC d := by
  intro w mb n S v cl h hok hset hcnt
  have HR : Hid (Rows w (fun g => g ≠ mb) 2 (HCl w (fun g => g ≠ mb) (HEx w (fun g => g ≠ mb) d)) v cl) := h
  obtain ⟨p, cap, rfl, hcl, hcm, -⟩ := id h
  have hnb : cl.length ≤ 9223372036854775807 := by unfold maxLen at hcm; omega
  have HSET : Hid (SetAt w mb n S) := hset
  have HOK : Hid (∀ c ∈ cl, clOkD d c) := hok
  have HC : Hid (n + (cl.flatMap (clVarL d)).length ≤ 2097152) := hcnt
  generalize hn : cl.length = nc at *
  have HN : Hid (cl.length = nc) := hn
  clear h hok hset hcnt hn
  go_enter Tryz.func139, Tryz.ntmps139
  go_wp2_with fail
  go_loopw [8] (fun iv wr => ∃ k : Nat, k ≤ nc ∧ iv = .int .i64 k ∧ Hid (SetAt wr mb (n + ((cl.take k).flatMap (clVarL d)).length) (fun z => S z ∨ ∃ c ∈ cl.take k, wantS d c z)) ∧ Hid (Off [mb] w wr)) (fun iv _ => nc - (intOf iv).toNat)
  case atStart => exact ⟨0, Nat.zero_le _, rfl, HSET.out.iff (fun z => by simp), Off.refl _ _⟩
  case round =>
    obtain ⟨k, hk, rfl, HM, HO⟩ := hrel
    by_cases hlt : k < nc
    · obtain ⟨c, hck⟩ : ∃ c, cl[k]? = some c := ⟨cl[k]'(by rw [HN.out]; exact hlt), List.getElem?_eq_getElem _⟩
      obtain ⟨p', cap', hv, -, -, hx⟩ := HR.out
      simp only [Value.slice.injEq] at hv
      obtain ⟨rfl, -, rfl⟩ := hv
      obtain ⟨g, off, rfl, hgm, hgl, hat⟩ := hx (by intro h; rw [h] at hck; simp at hck)
      obtain ⟨cs, hcsl, hcs, r1⟩ := hat k c hck
      have SO : SameOn (fun g => g ≠ mb) w wr := ⟨HO.out.size, fun g hg hl => HO.out.block g hl (by simpa using hg)⟩
      have E1 : Hid (HCl wr All (HEx wr All d) cs c) := HCl.mono r1 SO (fun _ _ => trivial) (fun _ _ h => h.mono SO (fun _ _ => trivial))
      obtain ⟨pv, bv, rfl, rp, rb⟩ := r1
      obtain ⟨pp, capp, rfl, -⟩ := rp
      obtain ⟨pb, capb, rfl, -⟩ := rb
      have hge : wr.heap[g]? = w.heap[g]? := HO.out.block g hgl (by simpa using hgm)
      have a0 := (World.cell?_of_block (a := ⟨g, off + k * 2 + 0, none⟩) hge).trans (hcs 0 (by omega))
      have a1 := (World.cell?_of_block (a := ⟨g, off + k * 2 + 1, none⟩) hge).trans (hcs 1 (by omega))
      simp at a0 a1
      have HCK : Hid (n + ((cl.take k).flatMap (clVarL d)).length + (clVarL d c).length ≤ 2097152) := by
        have h1 := HC.out
        have h2 : (cl.flatMap (clVarL d)) = (cl.take k).flatMap (clVarL d) ++ (clVarL d c ++ (cl.drop (k + 1)).flatMap (clVarL d)) := by
          have h3 : cl = cl.take k ++ c :: cl.drop (k + 1) := by
            have h4 := List.take_append_drop k cl
            rw [List.drop_eq_getElem_cons (by rw [HN.out]; exact hlt)] at h4
            have h5 : cl[k]'(by rw [HN.out]; exact hlt) = c := (List.getElem?_eq_some_iff.1 hck).2
            rw [h5] at h4
            exact h4.symm
          conv => lhs; rw [h3]
          simp
        rw [h2] at h1
        show _ ≤ _
        simp only [List.length_append] at h1
        omega
      have HT1 : Hid (((cl.take (k + 1)).flatMap (clVarL d)).length = ((cl.take k).flatMap (clVarL d)).length + (clVarL d c).length) := by
        show _ = _
        rw [List.take_add_one, hck]; simp
      have HT2 : Hid (∀ z, (S z ∨ ∃ c ∈ cl.take k, wantS d c z) ∨ wantS d c z ↔ S z ∨ ∃ c ∈ cl.take (k + 1), wantS d c z) := fun z => by
        rw [List.take_add_one, hck]
        simp only [Option.toList_some, List.mem_append, List.mem_singleton]
        constructor
        · rintro ((h | ⟨c', h, h'⟩) | h)
          · exact .inl h
          · exact .inr ⟨c', .inl h, h'⟩
          · exact .inr ⟨c, .inr rfl, h⟩
        · rintro (h | ⟨c', h | rfl, h'⟩)
          · exact .inl (.inl h)
          · exact .inl (.inr ⟨c', h, h'⟩)
          · exact .inr h'
      have HOKc : Hid (clOkD d c) := HOK.out c (List.mem_of_getElem? hck)
      have hki : (k : Int) < (nc : Int) := by omega
      have hk0 : (0 : Int) ≤ (k : Int) := by omega
      have HBC : Hid (Below wr.heap.size wr (wr.alloc (.cells #[.slice pp c.1.length capp, .slice pb c.2.length capb] 69))) := (Below.refl _ _).alloc (Nat.le_refl _) _
      clear hat hcs hcsl hge hx SO
      go_wp2_with fail
      refine (hW _ _ c (HCl.mono E1.out (SameOn.of_below HBC.out) (fun _ h => h) (fun _ _ h => h.mono (SameOn.of_below HBC.out) (fun _ h => h))) HOKc.out (by have := HCK.out; omega)).mono ?_
      rintro e w2 ⟨mb2, rfl, hlm, hs2, hb2⟩
      have HB2 : Hid (Below wr.heap.size wr w2) := HBC.out.trans (hb2.mono HBC.out.size)
      have M2 : Hid (SetAt w2 mb (n + ((cl.take k).flatMap (clVarL d)).length) (fun z => S z ∨ ∃ c ∈ cl.take k, wantS d c z)) := HM.out.keep (HB2.out.block mb HM.out.lt)
      have S2 : Hid (SetAt w2 mb2 (clVarL d c).length (wantS d c)) := hs2
      have hne : mb ≠ mb2 := by have := HM.out.lt; rw [alloc_hs] at hlm; omega
      clear hs2 hb2 a0 a1
      go_wp2_with fail
      refine (copyN_any _ mb mb2 _ _ _ _ M2.out S2.out hne (by have := HCK.out; unfold maxLen; omega)).mono ?_
      rintro e w3 ⟨rfl, hs3, ho3⟩
      have M3 : Hid (SetAt w3 mb (n + ((cl.take (k + 1)).flatMap (clVarL d)).length) (fun z => S z ∨ ∃ c ∈ cl.take (k + 1), wantS d c z)) := by
        have h1 := hs3.iff HT2.out
        rw [HT1.out, ← Nat.add_assoc]
        exact h1
      have O3 : Hid (Off [mb] w w3) := (HO.out.trans (Off.of_below HB2.out)).trans ho3
      clear hs3 ho3
      go_wp2_with fail
      exact ⟨⟨k + 1, by omega, by go_num, M3.out, O3.out⟩, by simp [intOf]; omega⟩
    · have HS : Hid (SetAt wr mb (n + (cl.flatMap (clVarL d)).length) (fun z => S z ∨ ∃ c ∈ cl, wantS d c z)) := by
        have h1 := HM.out
        rwa [List.take_of_length_le (by rw [HN.out]; omega)] at h1
      go_wp2_with fail
      go_end0
      exact ⟨rfl, HS.out, HO.out⟩
end Go.Proofs.YtigfmdfgioccjaaGreatDoor
/-
  The program's names.stepAhead, by contract: of right expressions.
-/
namespace Go.Proofs.YtigfmdfgioccjaaGreatDoor
open Go.ChangeShapes Go.WideShapes Go.ChangeAt Go.RowKit Go.Maps Go.WideMaps
set_option linter.unusedVariables false
set_option maxRecDepth 100000

theorem varL_eq (d : Nat) (k n : Int) (t m : ByteArray) (ks : List Ex) (cs : List Cl) : varL (d + 1) (.mk k n t m ks cs) = (if k = 2 then [keyS t] else []) ++ (ks.flatMap (varL d) ++ cs.flatMap (clVarL d)) := rfl

set_option maxHeartbeats 8000000 in
theorem stepA_var {d : Nat} (w : World) (mb n : Nat) (S : List UInt8 → Prop) (cs : List Value) (nx : Int) (tx mx : ByteArray) (cl : List Cl) (h : HEx w (fun g => g ≠ mb) (d + 1) cs (.mk 2 nx tx mx [] cl)) (hset : SetAt w mb n S) (hcnt : n + (varL (d + 1) (.mk 2 nx tx mx [] cl)).length ≤ 2097152) :
    Calls Tryz.prog 127 #[.map (some mb), .agg cs.toArray] w fun e w' => e = .returned (.tuple #[]) ∧ SetAt w' mb (n + (varL (d + 1) (.mk 2 nx tx mx [] cl)).length) (stepS (d + 1) (.mk 2 nx tx mx [] cl) S) ∧ Off [mb] w w' := by
  have hv := varL_eq d 2 nx tx mx [] cl
  have HL : Hid (n + 1 ≤ n + (varL (d + 1) (.mk 2 nx tx mx [] cl)).length) := by
    show _ ≤ _
    rw [hv]; simp
  have HC : Hid (n + (varL (d + 1) (.mk 2 nx tx mx [] cl)).length ≤ 2097152) := hcnt
  generalize (varL (d + 1) (.mk 2 nx tx mx [] cl)).length = nl at *
  have HST : Hid (∀ z, (S z ∨ z = tx.data.toList) ↔ stepS (d + 1) (.mk 2 nx tx mx [] cl) S z) := fun z => step_var d nx tx mx cl S z
  generalize stepS (d + 1) (.mk 2 nx tx mx [] cl) S = S2 at *
  obtain ⟨kv, cv, rfl, -, -, hts, -, f0, f1⟩ := h
  simp only [Ex.kind, Ex.n, Ex.text, Ex.mod, Ex.kids, Ex.clauses] at *
  obtain ⟨p, cap, rfl, -⟩ := f0
  obtain ⟨pc, capc, rfl, -⟩ := f1
  have BA : Hid (Below w.heap.size w (w.alloc (.cells #[.int .i64 2, .int .i64 nx, .string tx, .string mx, .slice p 0 cap, .slice pc cl.length capc] 73))) := (Below.refl _ _).alloc (Nat.le_refl _) _
  have bA : Hid (Blk (w.alloc (.cells #[.int .i64 2, .int .i64 nx, .string tx, .string mx, .slice p 0 cap, .slice pc cl.length capc] 73)) w.heap.size #[.int .i64 2, .int .i64 nx, .string tx, .string mx, .slice p 0 cap, .slice pc cl.length capc] 73) := Blk.new
  have HSET : Hid (SetAt w mb n S) := hset
  have HTS : Hid (okS tx) := hts
  simp only [List.length_nil] at *
  clear hv hcnt hset hts
  go_enter Tryz.func127, Tryz.ntmps127
  go_wp2_with fail
  refine (bound0_any _ _ _ _ _ _ _ _ _).mono ?_
  rintro e w1 ⟨⟨p1, c1, rfl⟩, hb1⟩
  have b1 := bA.out.next hb1
  have x2 := b1.cell 2 _ rfl
  have B1 : Hid (Below w.heap.size w w1) := BA.out.trans (hb1.mono BA.out.size)
  clear hb1 b1
  go_wp2_with fail
  refine (removeAll0_any _ _ _ _).mono ?_
  rintro e w2 ⟨rfl, hw2⟩
  rw [hw2]
  go_wp2_with fail
  refine (addN_any _ mb n S tx (HSET.out.keep (B1.out.block mb HSET.out.lt)) HTS.out (by have := HC.out; have := HL.out; unfold maxLen; omega)).mono ?_
  rintro e w3 ⟨rfl, hs3, ho3⟩
  have M3 : Hid (SetAt w3 mb (n + nl) S2) := (hs3.iff HST.out).more HL.out
  have O3 : Hid (Off [mb] w w3) := (Off.of_below B1.out).trans ho3
  clear hs3 ho3
  go_wp2_with fail
  go_end0
  exact ⟨rfl, M3.out, O3.out⟩

set_option maxHeartbeats 8000000 in
theorem stepA_two {d : Nat} (hA : StA d) (w : World) (mb n : Nat) (S : List UInt8 → Prop) (cs : List Value) (nx : Int) (tx mx : ByteArray) (ya yb : Ex) (cl : List Cl) (deep : Int) (pb : Bool) (h : HEx w (fun g => g ≠ mb) (d + 1) cs (.mk 9 nx tx mx [ya, yb] cl)) (oa : exOk d ya true deep = true) (ob : exOk d yb pb deep = true) (hset : SetAt w mb n S) (hcnt : n + (varL (d + 1) (.mk 9 nx tx mx [ya, yb] cl)).length ≤ 2097152) :
    Calls Tryz.prog 127 #[.map (some mb), .agg cs.toArray] w fun e w' => e = .returned (.tuple #[]) ∧ SetAt w' mb (n + (varL (d + 1) (.mk 9 nx tx mx [ya, yb] cl)).length) (stepS (d + 1) (.mk 9 nx tx mx [ya, yb] cl) S) ∧ Off [mb] w w' := by
  have hv := varL_eq d 9 nx tx mx [ya, yb] cl
  have hl : (varL (d + 1) (.mk 9 nx tx mx [ya, yb] cl)).length = (varL d ya).length + (varL d yb).length + (cl.flatMap (clVarL d)).length := by rw [hv]; simp; omega
  have HL : Hid (n + (varL d yb).length ≤ n + (varL (d + 1) (.mk 9 nx tx mx [ya, yb] cl)).length) := by show _ ≤ _; omega
  have HCA : Hid ((varL d ya).length ≤ 2097152) := by show _ ≤ _; omega
  have HCB : Hid (n + (varL d yb).length ≤ 2097152) := by show _ ≤ _; omega
  generalize (varL (d + 1) (.mk 9 nx tx mx [ya, yb] cl)).length = nl at *
  have HST : Hid (∀ z, stepS d yb (fun z => S z ∧ z ∉ varL d ya) z ↔ stepS (d + 1) (.mk 9 nx tx mx [ya, yb] cl) S z) := fun z => step_two d nx tx mx ya yb cl deep oa S z
  generalize stepS (d + 1) (.mk 9 nx tx mx [ya, yb] cl) S = S2 at *
  obtain ⟨kv, cv, rfl, -, -, hts, -, f0, f1⟩ := h
  simp only [Ex.kind, Ex.n, Ex.text, Ex.mod, Ex.kids, Ex.clauses] at *
  obtain ⟨p, cap, rfl, -, -, hx⟩ := f0
  obtain ⟨pc, capc, rfl, -⟩ := f1
  obtain ⟨g, off, rfl, hgm, hgl, hat⟩ := hx (by simp)
  obtain ⟨ca, hcal, hca, ra⟩ := hat 0 ya rfl
  obtain ⟨cb, hcbl, hcb, rb⟩ := hat 1 yb rfl
  have EA : Hid (HEx w (fun g => g ≠ mb) d ca ya) := ra
  have EB : Hid (HEx w (fun g => g ≠ mb) d cb yb) := rb
  obtain ⟨k1, m1, t1, e1, p1, n1, q1, r1, s1, u1, rfl⟩ := HEx.shapeN ra
  obtain ⟨k2, m2, t2, e2, p2, n2, q2, r2, s2, u2, rfl⟩ := HEx.shapeN rb
  simp only [List.length_cons, List.length_nil, Nat.zero_add, Nat.reduceAdd] at *
  have BA : Hid (Below w.heap.size w (w.alloc (.cells #[.int .i64 9, .int .i64 nx, .string tx, .string mx, .slice (some ⟨g, off, none⟩) 2 cap, .slice pc cl.length capc] 73))) := (Below.refl _ _).alloc (Nat.le_refl _) _
  have bA : Hid (Blk (w.alloc (.cells #[.int .i64 9, .int .i64 nx, .string tx, .string mx, .slice (some ⟨g, off, none⟩) 2 cap, .slice pc cl.length capc] 73)) w.heap.size #[.int .i64 9, .int .i64 nx, .string tx, .string mx, .slice (some ⟨g, off, none⟩) 2 cap, .slice pc cl.length capc] 73) := Blk.new
  have HSET : Hid (SetAt w mb n S) := hset
  have hbd : bindsB 9 2 = true := rfl
  have KA : Hid (∀ w' : World, (w'.heap[g]? = w.heap[g]?) → ∀ j, j < 6 → w'.cell? ⟨g, off + 0 * 6 + j, none⟩ = [Value.int .i64 k1, .int .i64 m1, .string t1, .string e1, .slice p1 n1 q1, .slice r1 s1 u1][j]?) := fun w' he j hj => (World.cell?_of_block he).trans (hca j hj)
  have KB : Hid (∀ w' : World, (w'.heap[g]? = w.heap[g]?) → ∀ j, j < 6 → w'.cell? ⟨g, off + 1 * 6 + j, none⟩ = [Value.int .i64 k2, .int .i64 m2, .string t2, .string e2, .slice p2 n2 q2, .slice r2 s2 u2][j]?) := fun w' he j hj => (World.cell?_of_block he).trans (hcb j hj)
  have HOB : Hid (exOk d yb pb deep = true) := ob
  have hmb := hset.lt
  have HG : Hid (g < w.heap.size ∧ g ≠ mb) := ⟨hgl, hgm⟩
  clear hv hcnt hset hts hl hat hca hcb ra rb hx oa ob hcal hcbl
  go_enter Tryz.func127, Tryz.ntmps127
  go_wp2_with fail
  refine (binds_any _ _ _ _ _ _ _ _ _ _ _).mono ?_
  rintro e w1 ⟨rfl, hw1⟩
  rw [hbd]
  have BB : Below (w.alloc (.cells #[.int .i64 9, .int .i64 nx, .string tx, .string mx, .slice (some ⟨g, off, none⟩) 2 cap, .slice pc cl.length capc] 73)).heap.size (w.alloc (.cells #[.int .i64 9, .int .i64 nx, .string tx, .string mx, .slice (some ⟨g, off, none⟩) 2 cap, .slice pc cl.length capc] 73)) w1 := by rw [hw1]; exact (Below.refl _ _).alloc (Nat.le_refl _) _
  have B1 : Hid (Below w.heap.size w w1) := BA.out.trans (BB.mono BA.out.size)
  have b1 : Hid (Blk w1 w.heap.size #[.int .i64 9, .int .i64 nx, .string tx, .string mx, .slice (some ⟨g, off, none⟩) 2 cap, .slice pc cl.length capc] 73) := bA.out.next BB
  have x4 := b1.out.cell 4 _ rfl
  have a0 := KA.out w1 (B1.out.block g HG.out.1) 0 (by omega)
  have a1 := KA.out w1 (B1.out.block g HG.out.1) 1 (by omega)
  have a2 := KA.out w1 (B1.out.block g HG.out.1) 2 (by omega)
  have a3 := KA.out w1 (B1.out.block g HG.out.1) 3 (by omega)
  have a4 := KA.out w1 (B1.out.block g HG.out.1) 4 (by omega)
  have a5 := KA.out w1 (B1.out.block g HG.out.1) 5 (by omega)
  simp at a0 a1 a2 a3 a4 a5
  clear hw1 BB
  go_wp2_with fail
  refine (eachVarR_any (n0 := n) (S0 := S) _ mb d _ ya [] (EA.out.offN (Off.of_below B1.out)) ((HSET.out.keep (B1.out.block mb hmb)).iff (fun z => by simp)) (by have := HCA.out; simpa using this)).mono ?_
  rintro e w2 ⟨rfl, hm2, ho2⟩
  rw [List.nil_append] at hm2
  have O2 : Hid (Off [mb] w w2) := (Off.of_below B1.out).trans ho2
  have M2 : Hid (SetAt w2 mb n (fun z => S z ∧ z ∉ varL d ya)) := hm2
  have hl1 := b1.out.lt
  have b2 : Blk w2 w.heap.size #[.int .i64 9, .int .i64 nx, .string tx, .string mx, .slice (some ⟨g, off, none⟩) 2 cap, .slice pc cl.length capc] 73 := (ho2.block w.heap.size hl1 (by simp; omega)).trans b1.out
  have y4 := b2.cell 4 _ rfl
  have hg2 : w2.heap[g]? = w.heap[g]? := O2.out.block g HG.out.1 (by simpa using HG.out.2)
  have c0 := KB.out w2 hg2 0 (by omega)
  have c1 := KB.out w2 hg2 1 (by omega)
  have c2 := KB.out w2 hg2 2 (by omega)
  have c3 := KB.out w2 hg2 3 (by omega)
  have c4 := KB.out w2 hg2 4 (by omega)
  have c5 := KB.out w2 hg2 5 (by omega)
  simp at c0 c1 c2 c3 c4 c5
  clear hm2 ho2 b2 hg2 x4 a0 a1 a2 a3 a4 a5 hl1
  go_wp2_with fail
  refine (hA _ mb n _ _ yb pb deep (EB.out.offN O2.out) HOB.out M2.out HCB.out).mono ?_
  rintro e w3 ⟨rfl, hs3, ho3⟩
  have M3 : Hid (SetAt w3 mb (n + nl) S2) := (hs3.iff HST.out).more HL.out
  have O3 : Hid (Off [mb] w w3) := O2.out.trans ho3
  clear hs3 ho3
  go_wp2_with fail
  go_end0
  exact ⟨rfl, M3.out, O3.out⟩

set_option maxHeartbeats 8000000 in
theorem stepA_case {d : Nat} (hO : StO d) (hW : AwC d) (w : World) (mb n : Nat) (S : List UInt8 → Prop) (cs : List Value) (nx : Int) (tx mx : ByteArray) (ks : List Ex) (cl : List Cl) (h : HEx w (fun g => g ≠ mb) (d + 1) cs (.mk 10 nx tx mx ks cl)) (ok : ∀ y ∈ ks, ∃ p deep, exOk d y p deep = true) (oc : ∀ c ∈ cl, clOkD d c) (hset : SetAt w mb n S) (hcnt : n + (varL (d + 1) (.mk 10 nx tx mx ks cl)).length ≤ 2097152) :
    Calls Tryz.prog 127 #[.map (some mb), .agg cs.toArray] w fun e w' => e = .returned (.tuple #[]) ∧ SetAt w' mb (n + (varL (d + 1) (.mk 10 nx tx mx ks cl)).length) (stepS (d + 1) (.mk 10 nx tx mx ks cl) S) ∧ Off [mb] w w' := by
  have hv := varL_eq d 10 nx tx mx ks cl
  have hl : (varL (d + 1) (.mk 10 nx tx mx ks cl)).length = (ks.flatMap (varL d)).length + (cl.flatMap (clVarL d)).length := by
    rw [hv, List.length_append, List.length_append]; simp
  have HL : Hid (n + (cl.flatMap (clVarL d)).length + (ks.flatMap (varL d)).length ≤ n + (varL (d + 1) (.mk 10 nx tx mx ks cl)).length) := by show _ ≤ _; omega
  have HCA : Hid (n + (cl.flatMap (clVarL d)).length ≤ 2097152) := by show _ ≤ _; omega
  have HCB : Hid (n + (cl.flatMap (clVarL d)).length + (ks.flatMap (varL d)).length ≤ 2097152) := by show _ ≤ _; omega
  generalize (varL (d + 1) (.mk 10 nx tx mx ks cl)).length = nl at *
  have HST : Hid (∀ z, ks.foldr (stepS d) (fun z => S z ∨ ∃ c ∈ cl, wantS d c z) z ↔ stepS (d + 1) (.mk 10 nx tx mx ks cl) S z) := fun z => step_else d 10 nx tx mx ks cl (by decide) (by simp) S z
  generalize stepS (d + 1) (.mk 10 nx tx mx ks cl) S = S2 at *
  obtain ⟨kv, cv, rfl, -, -, hts, -, f0, f1⟩ := h
  simp only [Ex.kind, Ex.n, Ex.text, Ex.mod, Ex.kids, Ex.clauses] at *
  have F0 : Hid (∀ w', Off [mb] w w' → Rows w' (fun g => g ≠ mb) 6 (HEx w' (fun g => g ≠ mb) d) kv ks) := fun w' ho => Rows.mono f0 ⟨ho.size, fun g hg hl => ho.block g hl (by simpa using hg)⟩ (fun _ h => h) (fun _ _ _ h => HEx.offN h ho)
  have F1 : Hid (∀ w', Off [mb] w w' → Rows w' (fun g => g ≠ mb) 2 (HCl w' (fun g => g ≠ mb) (HEx w' (fun g => g ≠ mb) d)) cv cl) := fun w' ho => Rows.mono f1 ⟨ho.size, fun g hg hl => ho.block g hl (by simpa using hg)⟩ (fun _ h => h) (fun _ _ _ h => HCl.mono h ⟨ho.size, fun g hg hl => ho.block g hl (by simpa using hg)⟩ (fun _ h => h) (fun _ _ h => HEx.offN h ho))
  obtain ⟨p, cap, rfl, -⟩ := id f0
  obtain ⟨pc, capc, rfl, -⟩ := id f1
  have BA : Hid (Below w.heap.size w (w.alloc (.cells #[.int .i64 10, .int .i64 nx, .string tx, .string mx, .slice p ks.length cap, .slice pc cl.length capc] 73))) := (Below.refl _ _).alloc (Nat.le_refl _) _
  have bA : Hid (Blk (w.alloc (.cells #[.int .i64 10, .int .i64 nx, .string tx, .string mx, .slice p ks.length cap, .slice pc cl.length capc] 73)) w.heap.size #[.int .i64 10, .int .i64 nx, .string tx, .string mx, .slice p ks.length cap, .slice pc cl.length capc] 73) := Blk.new
  have HSET : Hid (SetAt w mb n S) := hset
  have hbd : bindsB 10 ks.length = false := rfl
  have HOK : Hid (∀ y ∈ ks, ∃ p deep, exOk d y p deep = true) := ok
  have HOC : Hid (∀ c ∈ cl, clOkD d c) := oc
  have hmb := hset.lt
  clear hv hcnt hset hts hl f0 f1 ok oc
  go_enter Tryz.func127, Tryz.ntmps127
  go_wp2_with fail
  refine (binds_any _ _ _ _ _ _ _ _ _ _ _).mono ?_
  rintro e w1 ⟨rfl, hw1⟩
  rw [hbd]
  have BB : Below (w.alloc (.cells #[.int .i64 10, .int .i64 nx, .string tx, .string mx, .slice p ks.length cap, .slice pc cl.length capc] 73)).heap.size (w.alloc (.cells #[.int .i64 10, .int .i64 nx, .string tx, .string mx, .slice p ks.length cap, .slice pc cl.length capc] 73)) w1 := by rw [hw1]; exact (Below.refl _ _).alloc (Nat.le_refl _) _
  have B1 : Hid (Below w.heap.size w w1) := BA.out.trans (BB.mono BA.out.size)
  have b1 : Hid (Blk w1 w.heap.size #[.int .i64 10, .int .i64 nx, .string tx, .string mx, .slice p ks.length cap, .slice pc cl.length capc] 73) := bA.out.next BB
  have x0 := b1.out.cell 0 _ rfl
  have x5 := b1.out.cell 5 _ rfl
  clear hw1 BB
  go_wp2_with fail
  refine (hW _ mb n S _ cl (F1.out _ (Off.of_below B1.out)) HOC.out (HSET.out.keep (B1.out.block mb hmb)) HCA.out).mono ?_
  rintro e w2 ⟨rfl, hm2, ho2⟩
  have O2 : Hid (Off [mb] w w2) := (Off.of_below B1.out).trans ho2
  have M2 : Hid (SetAt w2 mb (n + (cl.flatMap (clVarL d)).length) (fun z => S z ∨ ∃ c ∈ cl, wantS d c z)) := hm2
  have hl1 := b1.out.lt
  have b2 : Blk w2 w.heap.size #[.int .i64 10, .int .i64 nx, .string tx, .string mx, .slice p ks.length cap, .slice pc cl.length capc] 73 := (ho2.block w.heap.size hl1 (by simp; omega)).trans b1.out
  have y4 := b2.cell 4 _ rfl
  clear hm2 ho2 b2 x0 x5 hl1
  go_wp2_with fail
  refine (hO _ mb _ _ _ ks (F0.out _ O2.out) HOK.out M2.out HCB.out).mono ?_
  rintro e w3 ⟨rfl, hs3, ho3⟩
  have M3 : Hid (SetAt w3 mb (n + nl) S2) := (hs3.iff HST.out).more HL.out
  have O3 : Hid (Off [mb] w w3) := O2.out.trans ho3
  clear hs3 ho3
  go_wp2_with fail
  go_end0
  exact ⟨rfl, M3.out, O3.out⟩

set_option maxHeartbeats 8000000 in
theorem stepA_else {d : Nat} (hO : StO d) (w : World) (mb n : Nat) (S : List UInt8 → Prop) (cs : List Value) (kx nx : Int) (tx mx : ByteArray) (ks : List Ex) (k2 : kx ≠ 2) (k9 : kx ≠ 9) (k10 : kx ≠ 10) (h : HEx w (fun g => g ≠ mb) (d + 1) cs (.mk kx nx tx mx ks [])) (ok : ∀ y ∈ ks, ∃ p deep, exOk d y p deep = true) (hset : SetAt w mb n S) (hcnt : n + (varL (d + 1) (.mk kx nx tx mx ks [])).length ≤ 2097152) :
    Calls Tryz.prog 127 #[.map (some mb), .agg cs.toArray] w fun e w' => e = .returned (.tuple #[]) ∧ SetAt w' mb (n + (varL (d + 1) (.mk kx nx tx mx ks [])).length) (stepS (d + 1) (.mk kx nx tx mx ks []) S) ∧ Off [mb] w w' := by
  have hv := varL_eq d kx nx tx mx ks []
  have hl : (varL (d + 1) (.mk kx nx tx mx ks [])).length = (ks.flatMap (varL d)).length := by
    rw [hv, if_neg k2]; simp
  have HL : Hid (n + (ks.flatMap (varL d)).length ≤ n + (varL (d + 1) (.mk kx nx tx mx ks [])).length) := by show _ ≤ _; omega
  have HCB : Hid (n + (ks.flatMap (varL d)).length ≤ 2097152) := by show _ ≤ _; omega
  generalize (varL (d + 1) (.mk kx nx tx mx ks [])).length = nl at *
  have HST : Hid (∀ z, ks.foldr (stepS d) S z ↔ stepS (d + 1) (.mk kx nx tx mx ks []) S z) := fun z => by
    rw [← step_else d kx nx tx mx ks [] k2 (fun h => k9 h.1) S z]
    have e : (fun z => S z ∨ ∃ c ∈ ([] : List Cl), inK z (listV (freeV d) (bndV d) (foldV (patV d) [] c.1) c.2)) = S := by funext z; simp
    rw [e]
  generalize stepS (d + 1) (.mk kx nx tx mx ks []) S = S2 at *
  obtain ⟨kv, cv, rfl, -, -, hts, -, f0, f1⟩ := h
  simp only [Ex.kind, Ex.n, Ex.text, Ex.mod, Ex.kids, Ex.clauses] at *
  have F0 : Hid (∀ w', Off [mb] w w' → Rows w' (fun g => g ≠ mb) 6 (HEx w' (fun g => g ≠ mb) d) kv ks) := fun w' ho => Rows.mono f0 ⟨ho.size, fun g hg hl => ho.block g hl (by simpa using hg)⟩ (fun _ h => h) (fun _ _ _ h => HEx.offN h ho)
  obtain ⟨p, cap, rfl, -⟩ := id f0
  obtain ⟨pc, capc, rfl, -⟩ := id f1
  simp only [List.length_nil] at *
  have BA : Hid (Below w.heap.size w (w.alloc (.cells #[.int .i64 kx, .int .i64 nx, .string tx, .string mx, .slice p ks.length cap, .slice pc 0 capc] 73))) := (Below.refl _ _).alloc (Nat.le_refl _) _
  have bA : Hid (Blk (w.alloc (.cells #[.int .i64 kx, .int .i64 nx, .string tx, .string mx, .slice p ks.length cap, .slice pc 0 capc] 73)) w.heap.size #[.int .i64 kx, .int .i64 nx, .string tx, .string mx, .slice p ks.length cap, .slice pc 0 capc] 73) := Blk.new
  have HSET : Hid (SetAt w mb n S) := hset
  have hbd : bindsB kx ks.length = false := by simp [bindsB, k9]
  have HOK : Hid (∀ y ∈ ks, ∃ p deep, exOk d y p deep = true) := ok
  have hmb := hset.lt
  have k2b : (kx == 2) = false := by simpa using k2
  have k10b : (kx == 10) = false := by simpa using k10
  clear hv hcnt hset hts hl f0 f1 ok
  go_enter Tryz.func127, Tryz.ntmps127
  go_wp2_with fail
  refine (binds_any _ _ _ _ _ _ _ _ _ _ _).mono ?_
  rintro e w1 ⟨rfl, hw1⟩
  rw [hbd]
  have BB : Below (w.alloc (.cells #[.int .i64 kx, .int .i64 nx, .string tx, .string mx, .slice p ks.length cap, .slice pc 0 capc] 73)).heap.size (w.alloc (.cells #[.int .i64 kx, .int .i64 nx, .string tx, .string mx, .slice p ks.length cap, .slice pc 0 capc] 73)) w1 := by rw [hw1]; exact (Below.refl _ _).alloc (Nat.le_refl _) _
  have B1 : Hid (Below w.heap.size w w1) := BA.out.trans (BB.mono BA.out.size)
  have b1 : Hid (Blk w1 w.heap.size #[.int .i64 kx, .int .i64 nx, .string tx, .string mx, .slice p ks.length cap, .slice pc 0 capc] 73) := bA.out.next BB
  have x0 := b1.out.cell 0 _ rfl
  have x4 := b1.out.cell 4 _ rfl
  clear hw1 BB
  go_wp2_with fail
  refine (hO _ mb _ _ _ ks (F0.out _ (Off.of_below B1.out)) HOK.out (HSET.out.keep (B1.out.block mb hmb)) HCB.out).mono ?_
  rintro e w3 ⟨rfl, hs3, ho3⟩
  have M3 : Hid (SetAt w3 mb (n + nl) S2) := (hs3.iff HST.out).more HL.out
  have O3 : Hid (Off [mb] w w3) := (Off.of_below B1.out).trans ho3
  clear hs3 ho3
  go_wp2_with fail
  go_end0
  exact ⟨rfl, M3.out, O3.out⟩

theorem stepA_of {d : Nat} (hA : StA d) : StA (d + 1) := by
  intro w mb n S cs x pat deep h hok hset hcnt
  have hO := ofAll_of hA
  have hW := addWanted_of (wantedBy_of hO)
  obtain ⟨k, nx, tx, mx, ks, cl⟩ := x
  obtain ⟨h1, h2, h3, h4, h5, h6⟩ := exOk_parts hok
  have hks : ∀ y ∈ ks, ∃ p deep, exOk d y p deep = true := fun y hy => by
    obtain ⟨p, -, h⟩ := h5 y hy
    exact ⟨p, _, h⟩
  by_cases k2 : k = 2
  · subst k2
    obtain rfl := h2 rfl
    exact stepA_var w mb n S cs nx tx mx cl h hset hcnt
  by_cases k9 : k = 9
  · subst k9
    obtain ⟨a, b, rfl, ha, pb, hb⟩ := h3 rfl
    exact stepA_two hA w mb n S cs nx tx mx a b cl _ pb h ha hb hset hcnt
  by_cases k10 : k = 10
  · subst k10
    exact stepA_case hO hW w mb n S cs nx tx mx ks cl h hks (fun c hc => ⟨⟨_, (h6 c hc).1⟩, fun y hy => ⟨_, _, (h6 c hc).2 y hy⟩⟩) hset hcnt
  · obtain rfl := h1 k10
    exact stepA_else hO w mb n S cs k nx tx mx ks k2 k9 k10 h hks hset hcnt
theorem stepA_all : ∀ d, StA d
  | 0 => fun w mb n S cs x pat deep h _ _ _ => h.elim
  | d + 1 => stepA_of (stepA_all d)
theorem wantedBy_all (d : Nat) : WbC d := wantedBy_of (ofAll_of (stepA_all d))
end Go.Proofs.YtigfmdfgioccjaaGreatDoor
/-
  Expressions and clauses that own their memory.
-/
namespace Go.Proofs.YtigfmdfgioccjaaGreatDoor
open Go.ChangeShapes Go.WideShapes Go.ChangeAt Go.RowKit
set_option linter.unusedVariables false

/-- Two cells that are a clause which owns its memory. -/
def OCl (w : World) (O : List Value → Ex → List Nat → Prop) (cs : List Value) (c : Cl) (fp : List Nat) : Prop :=
  ∃ pv bv f1 f2, cs = [pv, bv] ∧ fp = f1 ++ f2 ∧ ORows w 73 6 O pv c.1 f1 ∧ ORows w 73 6 O bv c.2 f2
/-- Six cells that are an expression which owns its memory. -/
def OEx (w : World) : Nat → List Value → Ex → List Nat → Prop
  | 0, _, _, _ => False
  | d + 1, cs, e, fp => ∃ kv cv f1 f2, cs = [.int .i64 e.kind, .int .i64 e.n, .string e.text, .string e.mod, kv, cv] ∧ fp = f1 ++ f2 ∧ okI e.kind ∧ okI e.n ∧ okS e.text ∧ okS e.mod ∧
      ORows w 73 6 (OEx w d) kv e.kids f1 ∧ ORows w 69 2 (OCl w (OEx w d)) cv e.clauses f2
abbrev OCls (w : World) (d : Nat) : List Value → Cl → List Nat → Prop := OCl w (OEx w d)

theorem OCl.keep' {w w' : World} {O O' : List Value → Ex → List Nat → Prop} {cs : List Value} {c : Cl} {fp : List Nat} (h : OCl w O cs c fp) (hk : KeepOn fp w w') (hO : ∀ cs x f, (∀ a ∈ f, a ∈ fp) → O cs x f → O' cs x f) : OCl w' O' cs c fp := by
  obtain ⟨pv, bv, f1, f2, rfl, rfl, h1, h2⟩ := h
  refine ⟨pv, bv, f1, f2, rfl, rfl, h1.keep (hk.sub (fun a ha => by simp [ha])) (fun cs x f _ hs => hO cs x f (fun a ha => by simp [hs a ha])), h2.keep (hk.sub (fun a ha => by simp [ha])) (fun cs x f _ hs => hO cs x f (fun a ha => by simp [hs a ha]))⟩
theorem OEx.keep {w w' : World} : ∀ {d : Nat} {cs : List Value} {e : Ex} {fp : List Nat}, OEx w d cs e fp → KeepOn fp w w' → OEx w' d cs e fp
  | 0, _, _, _, h, _ => h.elim
  | d + 1, cs, e, fp, h, hk => by
    obtain ⟨kv, cv, f1, f2, rfl, rfl, h1, h2, h3, h4, hr, hc⟩ := h
    refine ⟨kv, cv, f1, f2, rfl, rfl, h1, h2, h3, h4, hr.keep (hk.sub (fun a ha => by simp [ha])) (fun cs x f _ hs h => h.keep (hk.sub (fun a ha => by simp [hs a ha]))), hc.keep (hk.sub (fun a ha => by simp [ha])) (fun cs x f _ hs h => ?_)⟩
    exact h.keep' (hk.sub (fun a ha => by simp [hs a ha])) (fun cs x g hg h => h.keep (hk.sub (fun a ha => by simp [hs a (hg a ha)])))
theorem OCls.keep {w w' : World} {d : Nat} {cs : List Value} {c : Cl} {fp : List Nat} (h : OCl w (OEx w d) cs c fp) (hk : KeepOn fp w w') : OCl w' (OEx w' d) cs c fp :=
  h.keep' hk (fun cs x g hg h => h.keep (hk.sub hg))
theorem OCl.tree' {w : World} {S : Nat → Prop} {O : List Value → Ex → List Nat → Prop} {R : List Value → Ex → Prop} {cs : List Value} {c : Cl} {fp : List Nat} (h : OCl w O cs c fp) (hS : ∀ a ∈ fp, S a) (hO : ∀ cs x f, (∀ a ∈ f, a ∈ fp) → O cs x f → R cs x) : HCl w S R cs c := by
  obtain ⟨pv, bv, f1, f2, rfl, rfl, h1, h2⟩ := h
  exact ⟨pv, bv, rfl, h1.rows (fun a ha => hS a (by simp [ha])) (fun cs x f _ hs => hO cs x f (fun a ha => by simp [hs a ha])), h2.rows (fun a ha => hS a (by simp [ha])) (fun cs x f _ hs => hO cs x f (fun a ha => by simp [hs a ha]))⟩
theorem OEx.tree {w : World} {S : Nat → Prop} : ∀ {d : Nat} {cs : List Value} {e : Ex} {fp : List Nat}, OEx w d cs e fp → (∀ a ∈ fp, S a) → HEx w S d cs e
  | 0, _, _, _, h, _ => h.elim
  | d + 1, cs, e, fp, h, hS => by
    obtain ⟨kv, cv, f1, f2, rfl, rfl, h1, h2, h3, h4, hr, hc⟩ := h
    refine ⟨kv, cv, rfl, h1, h2, h3, h4, hr.rows (fun a ha => hS a (by simp [ha])) (fun cs x f _ hs h => h.tree (fun a ha => hS a (by simp [hs a ha]))), hc.rows (fun a ha => hS a (by simp [ha])) (fun cs x f _ hs h => ?_)⟩
    exact h.tree' (fun a ha => hS a (by simp [hs a ha])) (fun cs x g hg h => h.tree (fun a ha => hS a (by simp [hs a (hg a ha)])))
theorem OCls.tree {w : World} {S : Nat → Prop} {d : Nat} {cs : List Value} {c : Cl} {fp : List Nat} (h : OCl w (OEx w d) cs c fp) (hS : ∀ a ∈ fp, S a) : HCl w S (HEx w S d) cs c :=
  h.tree' hS (fun cs x g hg h => h.tree (fun a ha => hS a (hg a ha)))
theorem OCl.lt' {w : World} {O : List Value → Ex → List Nat → Prop} {cs : List Value} {c : Cl} {fp : List Nat} (h : OCl w O cs c fp) (hO : ∀ cs x f, O cs x f → ∀ a ∈ f, a < w.heap.size) : ∀ a ∈ fp, a < w.heap.size := by
  obtain ⟨pv, bv, f1, f2, rfl, rfl, h1, h2⟩ := h
  intro a ha
  rcases List.mem_append.1 ha with ha | ha
  · exact h1.lt hO a ha
  · exact h2.lt hO a ha
theorem OEx.lt {w : World} : ∀ {d : Nat} {cs : List Value} {e : Ex} {fp : List Nat}, OEx w d cs e fp → ∀ a ∈ fp, a < w.heap.size
  | 0, _, _, _, h => h.elim
  | d + 1, cs, e, fp, h => by
    obtain ⟨kv, cv, f1, f2, rfl, rfl, h1, h2, h3, h4, hr, hc⟩ := h
    intro a ha
    rcases List.mem_append.1 ha with ha | ha
    · exact hr.lt (fun cs x f h => h.lt) a ha
    · exact hc.lt (fun cs x f h => h.lt' (fun cs x f h => h.lt)) a ha
theorem OEx.shape {w : World} {d : Nat} {cs : List Value} {x : Ex} {fp : List Nat} (h : OEx w d cs x fp) : ∃ sk sn st se p1 n1 q1 p2 n2 q2, cs = [.int .i64 sk, .int .i64 sn, .string st, .string se, .slice p1 n1 q1, .slice p2 n2 q2] := by
  cases d with
  | zero => exact h.elim
  | succ d =>
    obtain ⟨kv, cv, f1, f2, rfl, rfl, _, _, _, _, hr, hc⟩ := h
    obtain ⟨p1, c1, rfl, _⟩ := hr.shape
    obtain ⟨p2, c2, rfl, _⟩ := hc.shape
    exact ⟨_, _, _, _, _, _, _, _, _, _, rfl⟩
theorem OCl.shape {w : World} {O : List Value → Ex → List Nat → Prop} {cs : List Value} {x : Cl} {fp : List Nat} (h : OCl w O cs x fp) : ∃ p1 n1 q1 p2 n2 q2, cs = [.slice p1 n1 q1, .slice p2 n2 q2] := by
  obtain ⟨pv, bv, f1, f2, rfl, rfl, h1, h2⟩ := h
  obtain ⟨p1, c1, rfl, _⟩ := h1.shape
  obtain ⟨p2, c2, rfl, _⟩ := h2.shape
  exact ⟨_, _, _, _, _, _, rfl⟩
end Go.Proofs.YtigfmdfgioccjaaGreatDoor
/-
  Modules that own their memory.
-/
namespace Go.Proofs.YtigfmdfgioccjaaGreatDoor
open Go.ChangeShapes Go.WideShapes Go.ChangeAt Go.RowKit
set_option linter.unusedVariables false

/-- Two cells that are a name with its number: no memory. -/
def ORf (_ : World) (_ : Nat) (cs : List Value) (r : Rf) (fp : List Nat) : Prop := HRf cs r ∧ fp = []
/-- Three cells that are a function which owns its memory. -/
def OFn (w : World) (d : Nat) (cs : List Value) (f : Fn') (fp : List Nat) : Prop :=
  ∃ cv, cs = [.string f.name, .int .i64 f.arity, cv] ∧ okS f.name ∧ okI f.arity ∧ ORows w 69 2 (OCl w (OEx w d)) cv f.clauses fp
/-- Three cells that are a module which owns its memory. -/
def OMd (w : World) (d : Nat) (cs : List Value) (m : Md) (fp : List Nat) : Prop :=
  ∃ ev fv f1 f2, cs = [.string m.name, ev, fv] ∧ fp = f1 ++ f2 ∧ okS m.name ∧ ORows w 44 2 (ORf w d) ev m.exports f1 ∧ ORows w 52 3 (OFn w d) fv m.funs f2

theorem ORf.keep {w w' : World} {d : Nat} {cs : List Value} {r : Rf} {fp : List Nat} (h : ORf w d cs r fp) (_ : KeepOn fp w w') : ORf w' d cs r fp := h
theorem ORf.tree {w : World} {d : Nat} {cs : List Value} {r : Rf} {fp : List Nat} (h : ORf w d cs r fp) : HRf cs r := h.1
theorem ORf.lt {w : World} {d : Nat} {cs : List Value} {r : Rf} {fp : List Nat} (h : ORf w d cs r fp) : ∀ a ∈ fp, a < w.heap.size := by rw [h.2]; simp
theorem ORf.shape {w : World} {d : Nat} {cs : List Value} {x : Rf} {fp : List Nat} (h : ORf w d cs x fp) : ∃ st sk, cs = [.string st, .int .i64 sk] := by
  obtain ⟨⟨rfl, _⟩, _⟩ := h
  exact ⟨_, _, rfl⟩
theorem OFn.keep {w w' : World} {d : Nat} {cs : List Value} {f : Fn'} {fp : List Nat} (h : OFn w d cs f fp) (hk : KeepOn fp w w') : OFn w' d cs f fp := by
  obtain ⟨cv, rfl, h1, h2, h3⟩ := h
  exact ⟨cv, rfl, h1, h2, h3.keep hk (fun cs x f _ hs h => OCls.keep h (hk.sub hs))⟩
theorem OFn.tree {w : World} {S : Nat → Prop} {d : Nat} {cs : List Value} {f : Fn'} {fp : List Nat} (h : OFn w d cs f fp) (hS : ∀ a ∈ fp, S a) : HFn w S d cs f := by
  obtain ⟨cv, rfl, h1, h2, h3⟩ := h
  exact ⟨cv, rfl, h1, h2, h3.rows hS (fun cs x f _ hs h => OCls.tree h (fun a ha => hS a (hs a ha)))⟩
theorem OFn.lt {w : World} {d : Nat} {cs : List Value} {f : Fn'} {fp : List Nat} (h : OFn w d cs f fp) : ∀ a ∈ fp, a < w.heap.size := by
  obtain ⟨cv, rfl, h1, h2, h3⟩ := h
  exact h3.lt (fun cs x f h => h.lt' (fun cs x f h => h.lt))
theorem OFn.shape {w : World} {d : Nat} {cs : List Value} {x : Fn'} {fp : List Nat} (h : OFn w d cs x fp) : ∃ st sk p1 n1 q1, cs = [.string st, .int .i64 sk, .slice p1 n1 q1] := by
  obtain ⟨cv, rfl, h1, h2, h3⟩ := h
  obtain ⟨p1, c1, rfl, _⟩ := h3.shape
  exact ⟨_, _, _, _, _, rfl⟩
theorem OMd.keep {w w' : World} {d : Nat} {cs : List Value} {m : Md} {fp : List Nat} (h : OMd w d cs m fp) (hk : KeepOn fp w w') : OMd w' d cs m fp := by
  obtain ⟨ev, fv, f1, f2, rfl, rfl, h1, h2, h3⟩ := h
  exact ⟨ev, fv, f1, f2, rfl, rfl, h1, h2.keep (hk.sub (fun a ha => by simp [ha])) (fun cs x f _ hs h => h), h3.keep (hk.sub (fun a ha => by simp [ha])) (fun cs x f _ hs h => h.keep (hk.sub (fun a ha => by simp [hs a ha])))⟩
theorem OMd.tree {w : World} {S : Nat → Prop} {d : Nat} {cs : List Value} {m : Md} {fp : List Nat} (h : OMd w d cs m fp) (hS : ∀ a ∈ fp, S a) : HMd w S d cs m := by
  obtain ⟨ev, fv, f1, f2, rfl, rfl, h1, h2, h3⟩ := h
  exact ⟨ev, fv, rfl, h1, h2.rows (fun a ha => hS a (by simp [ha])) (fun cs x f _ hs h => h.1), h3.rows (fun a ha => hS a (by simp [ha])) (fun cs x f _ hs h => h.tree (fun a ha => hS a (by simp [hs a ha])))⟩
theorem OMd.lt {w : World} {d : Nat} {cs : List Value} {m : Md} {fp : List Nat} (h : OMd w d cs m fp) : ∀ a ∈ fp, a < w.heap.size := by
  obtain ⟨ev, fv, f1, f2, rfl, rfl, h1, h2, h3⟩ := h
  intro a ha
  rcases List.mem_append.1 ha with ha | ha
  · exact h2.lt (fun cs x f h => h.lt) a ha
  · exact h3.lt (fun cs x f h => h.lt) a ha
theorem OMd.shape {w : World} {d : Nat} {cs : List Value} {x : Md} {fp : List Nat} (h : OMd w d cs x fp) : ∃ st p1 n1 q1 p2 n2 q2, cs = [.string st, .slice p1 n1 q1, .slice p2 n2 q2] := by
  obtain ⟨ev, fv, f1, f2, rfl, rfl, h1, h2, h3⟩ := h
  obtain ⟨p1, c1, rfl, _⟩ := h2.shape
  obtain ⟨p2, c2, rfl, _⟩ := h3.shape
  exact ⟨_, _, _, _, _, _, _, rfl⟩
end Go.Proofs.YtigfmdfgioccjaaGreatDoor
/-
  Rows of names with their numbers that the call owns and grows by append; trees that own their memory, told by the range of blocks in which they lie.
-/
namespace Go.Proofs.YtigfmdfgioccjaaGreatDoor
open Go.ChangeShapes Go.WideShapes Go.ChangeAt Go.RowKit
set_option linter.unusedVariables false

def refs (l : List Rf) : List Value := l.flatMap fun r => [.string r.name, .int .i64 r.arity]
theorem refs_length (l : List Rf) : (refs l).length = l.length * 2 := by
  induction l with
  | nil => rfl
  | cons x xs ih =>
    have h : refs (x :: xs) = [.string x.name, .int .i64 x.arity] ++ refs xs := rfl
    rw [h, List.length_append, ih]; simp; omega
theorem refs_append (a b : List Rf) : refs (a ++ b) = refs a ++ refs b := by simp [refs]
theorem refs_at : ∀ (l : List Rf) (i : Nat) (r : Rf), l[i]? = some r → ∀ j, j < 2 → (refs l)[i * 2 + j]? = [Value.string r.name, .int .i64 r.arity][j]?
  | [], i, r, h, _, _ => by simp at h
  | x :: xs, 0, r, h, j, hj => by
    simp at h; subst h
    have e : refs (x :: xs) = [.string x.name, .int .i64 x.arity] ++ refs xs := rfl
    rw [e, Nat.zero_mul, Nat.zero_add, List.getElem?_append_left (by simpa using hj)]
  | x :: xs, i + 1, r, h, j, hj => by
    have e : refs (x :: xs) = [.string x.name, .int .i64 x.arity] ++ refs xs := rfl
    simp at h
    rw [e, List.getElem?_append_right (by simp; omega), ← refs_at xs i r h j hj]
    congr 1
    simp; omega
theorem refs_oneCell (l : List Rf) : ∀ u ∈ refs l, u.oneCell' = true := by
  intro u hu
  simp only [refs, List.mem_flatMap] at hu
  obtain ⟨b, _, hu⟩ := hu
  simp at hu
  rcases hu with rfl | rfl <;> rfl
theorem info_ref : (Tryz.prog.info? 44).map (fun i => (i.zero, i.size, i.bytes)) = some (some (.agg #[.string ⟨#[]⟩, .int .i64 0]), 2, 24) := by kernel_rfl

/-- The row v holds just l; it lies in a block of its own at B or above. -/
def OwnR (w : World) (B : Nat) (v : Value) (l : List Rf) : Prop := w.ownsRow B 44 2 v l.length (refs l) ∧ B ≤ w.heap.size
theorem OwnR.next {w w' : World} {B : Nat} {v : Value} {l : List Rf} (h : OwnR w B v l) (hb : Below w.heap.size w w') : OwnR w' B v l := by
  refine ⟨⟨h.1.1, ?_⟩, Nat.le_trans h.2 hb.size⟩
  rcases h.1.2 with hn | ⟨g, cap, cur, hv, hB, hg, hr⟩
  · exact .inl hn
  · exact .inr ⟨g, cap, cur, hv, hB, (hb.block g (Array.getElem?_eq_some_iff.1 hg).1).trans hg, hr⟩
theorem OwnR.off {w : World} {B : Nat} {v : Value} {l : List Rf} (h : OwnR w B v l) {b : Nat} (hb : v.ownBlock = some b) : B ≤ b ∧ b < w.heap.size := by
  rcases h.1.2 with hn | ⟨g', cap', cur, hv', hB, hg, hr⟩
  · rw [hn.1] at hb; cases hb
  · rw [hv'] at hb
    simp [Value.ownBlock] at hb
    subst hb
    exact ⟨hB, (Array.getElem?_eq_some_iff.1 hg).1⟩
theorem OwnR.below {w w' : World} {B : Nat} {v : Value} {l : List Rf} (h : OwnR w B v l) (hg : w.grownBy w' v.ownBlock) : Below B w w' :=
  ⟨hg.os, hg.tape, hg.output, hg.size, fun j hj => hg.block j (by have := h.2; omega) (fun e => by have := (h.off e.symm).1; omega)⟩
theorem OwnR.of {w' : World} {B n : Nat} {v : Value} {l m : List Rf} {xs : List Value} (h : w'.ownsRow B 44 2 v n xs) (hn : n = (l ++ m).length) (hx : xs = refs l ++ refs m) (hB : B ≤ w'.heap.size) : OwnR w' B v (l ++ m) := by
  subst hn; subst hx; rw [← refs_append] at h; exact ⟨h, hB⟩
theorem OwnR.base {w : World} {B B' : Nat} {v : Value} {l : List Rf} (h : OwnR w B v l) (hB : B' ≤ B) : OwnR w B' v l := by
  refine ⟨⟨h.1.1, ?_⟩, Nat.le_trans hB h.2⟩
  rcases h.1.2 with hn | ⟨g, cap, cur, hv, hb, hr⟩
  · exact .inl hn
  · exact .inr ⟨g, cap, cur, hv, Nat.le_trans hB hb, hr⟩
/-- The empty row that '[]Ref{}' makes. -/
theorem OwnR.fresh {w : World} : OwnR (w.alloc (.cells #[] 44)) w.heap.size (.slice (some ⟨w.heap.size, 0, none⟩) 0 0) [] := by
  refine ⟨⟨by simp [refs], .inr ⟨w.heap.size, 0, #[], rfl, Nat.le_refl _, ?_, Nat.le_refl _, Nat.zero_le _, rfl, rfl⟩⟩, by simp⟩
  exact Blk.new (w := w) (cs := #[]) (t := 44)
/-- The row of one that an append lays. -/
theorem one_ref {w : World} {s : ByteArray} {n : Int} : ∀ j u, (refs [⟨s, n⟩])[j]? = some u → (w.alloc (.cells #[.string s, .int .i64 n] 44)).cell? ((⟨w.heap.size, 0, none⟩ : Addr).add j) = some u := by
  intro j u h
  have hb := Blk.new (w := w) (cs := #[.string s, .int .i64 n]) (t := 44)
  have e : refs [⟨s, n⟩] = [.string s, .int .i64 n] := rfl
  rw [e] at h
  match j, h with
  | 0, h => simp at h; subst h; exact hb.cell 0 _ rfl
  | 1, h => simp at h; subst h; exact hb.cell 1 _ rfl
  | j + 2, h => simp at h

/-- A tree that owns its memory, all of it in blocks from B up to C. -/
def OwnT {α : Type} (O : World → Value → α → List Nat → Prop) (w : World) (B C : Nat) (v : Value) (x : α) : Prop :=
  ∃ fp, O w v x fp ∧ fp.Nodup ∧ (∀ a ∈ fp, B ≤ a ∧ a < C) ∧ B ≤ C ∧ C ≤ w.heap.size
def KeepsO {α : Type} (O : World → Value → α → List Nat → Prop) : Prop := ∀ (w w' : World) (v : Value) (x : α) (fp : List Nat), O w v x fp → KeepOn fp w w' → O w' v x fp
theorem OwnT.below {α : Type} {O : World → Value → α → List Nat → Prop} (hO : KeepsO O) {w w' : World} {B C N : Nat} {v : Value} {x : α} (h : OwnT O w B C v x) (hb : Below N w w') (hN : C ≤ N) : OwnT O w' B C v x := by
  obtain ⟨fp, h1, h2, h3, h4, h5⟩ := h
  exact ⟨fp, hO _ _ _ _ _ h1 (fun a ha => hb.block a (by have := (h3 a ha).2; omega)), h2, h3, h4, Nat.le_trans h5 hb.size⟩
theorem OwnT.next {α : Type} {O : World → Value → α → List Nat → Prop} (hO : KeepsO O) {w w' : World} {B C : Nat} {v : Value} {x : α} (h : OwnT O w B C v x) (hb : Below w.heap.size w w') : OwnT O w' B C v x := by
  obtain ⟨fp, h1, h2, h3, h4, h5⟩ := h
  exact ⟨fp, hO _ _ _ _ _ h1 (fun a ha => hb.block a (by have := (h3 a ha).2; omega)), h2, h3, h4, Nat.le_trans h5 hb.size⟩
theorem OwnT.base {α : Type} {O : World → Value → α → List Nat → Prop} {w : World} {B B' C : Nat} {v : Value} {x : α} (h : OwnT O w B C v x) (hB : B' ≤ B) : OwnT O w B' C v x := by
  obtain ⟨fp, h1, h2, h3, h4, h5⟩ := h
  exact ⟨fp, h1, h2, fun a ha => ⟨by have := (h3 a ha).1; omega, (h3 a ha).2⟩, by omega, h5⟩
/-- Nothing that was there has turned, but for the blocks from B up to C. -/
structure OffR (B C : Nat) (w w' : World) : Prop where
  os : w'.os = w.os
  tape : w'.tape = w.tape
  output : w'.output = w.output
  size : w.heap.size ≤ w'.heap.size
  block : ∀ a, a < w.heap.size → (a < B ∨ C ≤ a) → w'.heap[a]? = w.heap[a]?
theorem OffR.of {B C : Nat} {fp : List Nat} {w w' : World} (h : Off fp w w') (hr : ∀ a ∈ fp, B ≤ a ∧ a < C) : OffR B C w w' :=
  ⟨h.os, h.tape, h.output, h.size, fun a ha hb => h.block a ha (fun hm => by have := hr a hm; omega)⟩
theorem OffR.below {B C N : Nat} {w w' : World} (h : OffR B C w w') (hN : N ≤ B) (hs : N ≤ w.heap.size) : Below N w w' :=
  ⟨h.os, h.tape, h.output, h.size, fun a ha => h.block a (by omega) (.inl (by omega))⟩
theorem OwnT.offR {α : Type} {O : World → Value → α → List Nat → Prop} (hO : KeepsO O) {w w' : World} {B C B' C' : Nat} {v : Value} {x : α} (h : OwnT O w B C v x) (ho : OffR B' C' w w') (hd : C ≤ B' ∨ C' ≤ B) : OwnT O w' B C v x := by
  obtain ⟨fp, h1, h2, h3, h4, h5⟩ := h
  exact ⟨fp, hO _ _ _ _ _ h1 (fun a ha => ho.block a (by have := (h3 a ha).2; omega) (by have := h3 a ha; omega)), h2, h3, h4, Nat.le_trans h5 ho.size⟩

/-- Rows of names with their numbers. -/
def ORs (w : World) (v : Value) (l : List Rf) (fp : List Nat) : Prop := ORows w 44 2 (ORf w 0) v l fp
theorem ORs.keeps : KeepsO ORs := fun w w' v x fp h hk => ORows.keep h hk (fun cs x f _ hs h => h)
theorem ORs.rows {w : World} {B C : Nat} {v : Value} {l : List Rf} (h : OwnT ORs w B C v l) : Rows w All 2 HRf v l := by
  obtain ⟨fp, h1, -⟩ := h
  exact ORows.rows h1 (fun _ _ => trivial) (fun cs x f _ hs h => h.1)
theorem OwnR.tree {w : World} {B : Nat} {v : Value} {l : List Rf} (h : OwnR w B v l) (hl : ∀ r ∈ l, okS r.name ∧ okI r.arity) : OwnT ORs w B w.heap.size v l := by
  obtain ⟨h, hB⟩ := h
  rcases h.2 with ⟨rfl, hn⟩ | ⟨g, cap, cur, rfl, hb, hg, h1, h2, h3, h4⟩
  · obtain rfl := List.length_eq_zero_iff.1 hn
    exact ⟨[], .inl ⟨rfl, rfl, _, _, rfl, Nat.zero_le _⟩, by simp, fun a ha => by simp at ha, hB, Nat.le_refl _⟩
  · by_cases hne : l = []
    · subst hne
      exact ⟨[], .inl ⟨rfl, rfl, _, _, rfl, h2⟩, by simp, fun a ha => by simp at ha, hB, Nat.le_refl _⟩
    · have hgl : g < w.heap.size := (Array.getElem?_eq_some_iff.1 hg).1
      refine ⟨[g], .inr ⟨hne, refs l, g, cap, l.map (fun _ => []), ⟨h.1, .inr ⟨g, cap, cur, rfl, Nat.zero_le _, hg, h1, h2, h3, h4⟩⟩, rfl, by simp, ?_, fun i x f hi hf => ?_⟩, by simp, fun a ha => ?_, hB, Nat.le_refl _⟩
      · have : (l.map fun _ => ([] : List Nat)).flatten = [] := by
          rw [List.flatten_eq_nil_iff]; intro x hx; simp at hx; exact hx.2
        rw [this]
      · rw [List.getElem?_map, hi] at hf
        simp at hf
        subst hf
        exact ⟨_, rfl, fun j hj => refs_at l i x hi j hj, ⟨rfl, hl x (List.mem_of_getElem? hi)⟩, rfl⟩
      · simp at ha; subst ha; exact ⟨hb, hgl⟩
end Go.Proofs.YtigfmdfgioccjaaGreatDoor
/-
  The program's isLoose, slices.IndexFunc and ContainsFunc over it, and Loose, by contract.
-/
namespace Go.Proofs.YtigfmdfgioccjaaGreatDoor
open Go.ChangeShapes Go.WideShapes Go.ChangeAt Go.RowKit Go.Maps Go.WideMaps
set_option linter.unusedVariables false
set_option maxRecDepth 100000

theorem SetAt.len {w : World} {mb n : Nat} {S : List UInt8 → Prop} (h : SetAt w mb n S) : ∃ k : Nat, k ≤ n ∧ (∀ ty, (Builtin.len_ #[129] ty #[.map (some mb)]).run Tryz.prog w = .ok (goInt k) w) ∧ (0 < k ↔ ∃ z, S z) := by
  obtain ⟨D, hm, hD, hh⟩ := h
  obtain ⟨es, clock, hes, -, hsz, rfl⟩ := hm
  have h2 : ∀ (q : List (Lit × DataW Unit)), (q.foldr DataW.insert []).length = q.length := fun q => by
    induction q with
    | nil => rfl
    | cons x xs ih => rw [List.foldr_cons, DataW.length_insert, ih]; rfl
  refine ⟨es.size, hsz, fun ty => run_len_map (w := w) 129 ty mb es clock Tryz.underlying129 hes, ?_⟩
  generalize hq : (es.toList.map _) = q at hD hh
  have hql : (q.foldr DataW.insert []).length = es.size := by rw [h2, ← hq, List.length_map, Array.length_toList]
  have hk := hD.keys _ rfl
  generalize q.foldr DataW.insert [] = l at hql hk hh
  constructor
  · intro h0
    cases l with
    | nil => simp at hql; omega
    | cons p ps =>
      obtain ⟨⟨x, hx⟩, -⟩ := hk p (by simp)
      refine ⟨x, (hh x).1 ?_⟩
      rw [has_eq, List.any_eq_true]
      exact ⟨p, by simp, by rw [hx]; exact WideAt.sameKey_self trivial⟩
  · rintro ⟨z, hz⟩
    have := (hh z).2 hz
    rw [has_eq, List.any_eq_true] at this
    obtain ⟨p, hp, -⟩ := this
    have := List.length_pos_of_mem hp
    omega

set_option maxHeartbeats 4000000 in
theorem isLoose_any (d : Nat) (w : World) (cs : List Value) (c : Cl) (h : HCl w All (HEx w All d) cs c) (hok : clOkD d c) (hcnt : (clVarL d c).length ≤ 2097152) :
    Calls Tryz.prog 65 #[.agg cs.toArray] w fun e w' => e = .returned (.bool (looseB d c)) ∧ Below w.heap.size w w' := by
  have HH : Hid (∀ w', Below w.heap.size w w' → HCl w' All (HEx w' All d) cs c) := fun w' hb => HCl.mono h (SameOn.of_below hb) (fun _ h => h) (fun _ _ h => h.mono (SameOn.of_below hb) (fun _ h => h))
  obtain ⟨pv, bv, rfl, rp, rb⟩ := h
  obtain ⟨pp, capp, rfl, -⟩ := rp
  obtain ⟨pb, capb, rfl, -⟩ := rb
  have HBC : Hid (Below w.heap.size w (w.alloc (.cells #[.slice pp c.1.length capp, .slice pb c.2.length capb] 69))) := (Below.refl _ _).alloc (Nat.le_refl _) _
  go_enter Tryz.func65, Tryz.ntmps65
  go_wp2_with fail
  refine (wantedBy_all d _ _ c (HH.out _ HBC.out) hok hcnt).mono ?_
  rintro e w1 ⟨mb, rfl, -, hs, hb⟩
  obtain ⟨k, hk, hlen, hz⟩ := hs.len
  have B1 : Hid (Below w.heap.size w w1) := HBC.out.trans (hb.mono HBC.out.size)
  have HL : Hid (looseB d c = decide (0 < k)) := by
    show _ = _
    by_cases h0 : 0 < k
    · rw [decide_eq_true h0]; exact (looseB_in d c).2 (hz.1 h0)
    · rw [decide_eq_false h0]
      cases hl : looseB d c with
      | false => rfl
      | true => exact absurd (hz.2 ((looseB_in d c).1 hl)) h0
  have hk2 : k ≤ 2097152 := by omega
  clear hs hb hz hk HH
  go_wp2_with fail
  go_ret
  refine ⟨?_, B1.out⟩
  rw [HL.out]
  by_cases h0 : 0 < k
  · simp [h0]
  · simp [h0]

/-- The first clause that wants a name. -/
theorem idx_any (d : Nat) (w : World) (v : Value) (cl : List Cl) (h : Rows w All 2 (HCl w All (HEx w All d)) v cl) (hok : ∀ c ∈ cl, clOkD d c) (hcnt : ∀ c ∈ cl, (clVarL d c).length ≤ 2097152) :
    Calls Tryz.prog 91 #[v, .func (.func 65) #[] #[]] w fun e w' => (∃ z : Int, e = .returned (.int .i64 z) ∧ -1 ≤ z ∧ decide (0 ≤ z) = cl.any (looseB d)) ∧ Below w.heap.size w w' := by
  have HR : Hid (Rows w All 2 (HCl w All (HEx w All d)) v cl) := h
  obtain ⟨p, cap, rfl, hcl, hcm, -⟩ := id h
  have hnb : cl.length ≤ 9223372036854775807 := by unfold maxLen at hcm; omega
  have HOK : Hid (∀ c ∈ cl, clOkD d c) := hok
  have HC : Hid (∀ c ∈ cl, (clVarL d c).length ≤ 2097152) := hcnt
  generalize hn : cl.length = nc at *
  have HN : Hid (cl.length = nc) := hn
  clear h hok hcnt hn
  go_enter Tryz.func91, Tryz.ntmps91
  go_wp2_with fail
  go_loopw [8] (fun iv wr => ∃ k : Nat, k ≤ nc ∧ iv = .int .i64 k ∧ Hid ((cl.take k).any (looseB d) = false) ∧ Hid (Below w.heap.size w wr)) (fun iv _ => nc - (intOf iv).toNat)
  case atStart => exact ⟨0, Nat.zero_le _, rfl, by show _ = _; simp, Below.refl _ _⟩
  case round =>
    obtain ⟨k, hk, rfl, HA, HB⟩ := hrel
    by_cases hlt : k < nc
    · obtain ⟨c, hck⟩ : ∃ c, cl[k]? = some c := ⟨cl[k]'(by rw [HN.out]; exact hlt), List.getElem?_eq_getElem _⟩
      obtain ⟨p', cap', hv, -, -, hx⟩ := HR.out
      simp only [Value.slice.injEq] at hv
      obtain ⟨rfl, -, rfl⟩ := hv
      obtain ⟨g, off, rfl, -, hgl, hat⟩ := hx (by intro h; rw [h] at hck; simp at hck)
      obtain ⟨cs, hcsl, hcs, r1⟩ := hat k c hck
      have E1 : Hid (HCl wr All (HEx wr All d) cs c) := HCl.mono r1 (SameOn.of_below HB.out) (fun _ h => h) (fun _ _ h => h.mono (SameOn.of_below HB.out) (fun _ h => h))
      obtain ⟨pv, bv, rfl, rp, rb⟩ := r1
      obtain ⟨pp, capp, rfl, -⟩ := rp
      obtain ⟨pb, capb, rfl, -⟩ := rb
      have a0 := hcs 0 (by omega)
      have a1 := hcs 1 (by omega)
      rw [← HB.out.cell (p := ⟨g, _, none⟩) hgl] at a0 a1
      simp at a0 a1
      have HOKc : Hid (clOkD d c) := HOK.out c (List.mem_of_getElem? hck)
      have HCc : Hid ((clVarL d c).length ≤ 2097152) := HC.out c (List.mem_of_getElem? hck)
      have HT : Hid (looseB d c = true → cl.any (looseB d) = true) := fun h => by rw [List.any_eq_true]; exact ⟨c, List.mem_of_getElem? hck, h⟩
      have HF : Hid (looseB d c = false → (cl.take (k + 1)).any (looseB d) = false) := fun h => by
        rw [List.take_add_one, hck, List.any_append, HA.out]; simp [h]
      have hki : (k : Int) < (nc : Int) := by omega
      have hk0 : (0 : Int) ≤ (k : Int) := by omega
      clear hat hcs hcsl hx
      go_wp2_with fail
      refine (isLoose_any d _ _ c E1.out HOKc.out HCc.out).mono ?_
      rintro e w2 ⟨rfl, hb2⟩
      have B2 : Hid (Below w.heap.size w w2) := HB.out.trans (hb2.mono HB.out.size)
      clear hb2 a0 a1
      cases hl : looseB d c with
      | true =>
        have HT' : Hid (cl.any (looseB d) = true) := HT.out hl
        clear HT HF
        go_wp2_with fail
        go_ret
        exact ⟨⟨_, rfl, by omega, by rw [HT'.out]; exact decide_eq_true (by omega)⟩, B2.out⟩
      | false =>
        have HF' : Hid ((cl.take (k + 1)).any (looseB d) = false) := HF.out hl
        clear HT HF
        go_wp2_with fail
        exact ⟨⟨k + 1, by omega, by go_num, HF'.out, B2.out⟩, by simp [intOf]; omega⟩
    · have HS : Hid (cl.any (looseB d) = false) := by
        have h1 := HA.out
        rwa [List.take_of_length_le (by rw [HN.out]; omega)] at h1
      go_wp2_with fail
      go_ret
      exact ⟨⟨_, rfl, by omega, by rw [HS.out]; rfl⟩, HB.out⟩
theorem contains_any (d : Nat) (w : World) (v : Value) (cl : List Cl) (h : Rows w All 2 (HCl w All (HEx w All d)) v cl) (hok : ∀ c ∈ cl, clOkD d c) (hcnt : ∀ c ∈ cl, (clVarL d c).length ≤ 2097152) :
    Calls Tryz.prog 64 #[v, .func (.func 65) #[] #[]] w fun e w' => e = .returned (.bool (cl.any (looseB d))) ∧ Below w.heap.size w w' := by
  have HR : Hid (Rows w All 2 (HCl w All (HEx w All d)) v cl) := h
  obtain ⟨p, cap, rfl, -⟩ := id h
  clear h
  go_enter Tryz.func64, Tryz.ntmps64
  go_wp2_with fail
  refine (idx_any d _ _ cl HR.out hok hcnt).mono ?_
  rintro e w1 ⟨⟨z, rfl, hz1, hz⟩, hb⟩
  have HZ : Hid (decide (0 ≤ z) = cl.any (looseB d)) := hz
  clear hz
  go_wp2_with fail
  go_ret
  exact ⟨by rw [← HZ.out]; rfl, hb⟩

set_option maxHeartbeats 8000000 in
theorem implLoose_any (d : Nat) (w : World) (cs : List Value) (m : Md) (hT : Tabs w) (h : HMd w All d cs m) (hw : wtMd d m ≤ 1048576) :
    Calls Tryz.prog 38 #[.agg cs.toArray] w fun e w' => ∃ u, e = .returned u ∧ OwnR w' w.heap.size u (looseM d m) ∧ Below w.heap.size w w' := by
  have HT : Hid (Tabs w) := hT
  have HM : Hid (∀ w', Below w.heap.size w w' → HMd w' All d cs m) := fun w' hb => h.mono (SameOn.of_below hb) (fun _ h => h)
  obtain ⟨ev, fv, rfl, hs, f0, f1⟩ := h
  have HF1 : Hid (Rows w All 3 (HFn w All d) fv m.funs) := f1
  obtain ⟨pe, ce, rfl, -⟩ := f0
  obtain ⟨pf, cf, rfl, hcf, hcmf, -⟩ := id f1
  have hnf : m.funs.length ≤ 9223372036854775807 := by unfold maxLen at hcmf; omega
  have HCN : Hid (∀ f ∈ m.funs, ∀ c ∈ f.clauses, (clVarL d c).length ≤ 2097152) := fun f hf c hc => by
    have h0 : wtMd d m = m.name.size + wtS wtRf m.exports + wtS (wtFn d) m.funs := rfl
    obtain ⟨i, hi⟩ := List.mem_iff_getElem?.1 hf
    have h1 := sum_take_succ (wtFn d) m.funs i f hi
    have h2 := sum_take_le (wtFn d) m.funs (i + 1)
    have h3 : wtFn d f = f.name.size + wtS (wtCl (wtEx d)) f.clauses := rfl
    obtain ⟨j, hj⟩ := List.mem_iff_getElem?.1 hc
    have h4 := sum_take_succ (wtCl (wtEx d)) f.clauses j c hj
    have h5 := sum_take_le (wtCl (wtEx d)) f.clauses (j + 1)
    have h6 : wtCl (wtEx d) c = wtS (wtEx d) c.1 + wtS (wtEx d) c.2 := rfl
    have h7 := flat_len (varL d) (wtEx d) c.1 (fun y _ => varL_len d y)
    have h8 := flat_len (varL d) (wtEx d) c.2 (fun y _ => varL_len d y)
    have h9 : (clVarL d c).length = (c.1.flatMap (varL d)).length + (c.2.flatMap (varL d)).length := by unfold clVarL; rw [List.length_append]
    have w1 : wtS (wtFn d) m.funs = m.funs.length + (m.funs.map (wtFn d)).sum := rfl
    have w2 : wtS (wtCl (wtEx d)) f.clauses = f.clauses.length + (f.clauses.map (wtCl (wtEx d))).sum := rfl
    omega
  have HFL : Hid (m.funs.length ≤ 1048576) := by
    have h0 : wtMd d m = m.name.size + wtS wtRf m.exports + wtS (wtFn d) m.funs := rfl
    have w1 : wtS (wtFn d) m.funs = m.funs.length + (m.funs.map (wtFn d)).sum := rfl
    show _ ≤ _
    omega
  have BA : Below w.heap.size w (w.alloc (.cells #[.string m.name, .slice pe m.exports.length ce, .slice pf m.funs.length cf] 42)) := (Below.refl _ _).alloc (Nat.le_refl _) _
  have BB : Hid (Below w.heap.size w ((w.alloc (.cells #[.string m.name, .slice pe m.exports.length ce, .slice pf m.funs.length cf] 42)).alloc (.cells #[] 44))) := BA.alloc BA.size _
  have bA : Hid (Blk ((w.alloc (.cells #[.string m.name, .slice pe m.exports.length ce, .slice pf m.funs.length cf] 42)).alloc (.cells #[] 44)) w.heap.size #[.string m.name, .slice pe m.exports.length ce, .slice pf m.funs.length cf] 42) := Blk.new.alloc
  have O0 : Hid (OwnR ((w.alloc (.cells #[.string m.name, .slice pe m.exports.length ce, .slice pf m.funs.length cf] 42)).alloc (.cells #[] 44)) w.heap.size (.slice (some ⟨w.heap.size + 1, 0, none⟩) 0 0) []) := by
    have := (OwnR.fresh (w := w.alloc (.cells #[.string m.name, .slice pe m.exports.length ce, .slice pf m.funs.length cf] 42))).base BA.size
    rwa [alloc_hs] at this
  have HLM : Hid (looseM d m = if mdOk d m then looseL d m.funs else []) := rfl
  clear f1 hT hs BA hw
  cases hok : mdOk d m with
  | false =>
    rw [hok] at HLM
    go_enter Tryz.func38, Tryz.ntmps38
    go_wp2_with fail
    refine (implModuleOk_any d _ _ m (HT.out.below BB.out) (HM.out _ BB.out)).mono ?_
    rintro e w1 ⟨rfl, hb⟩
    rw [hok]
    have B1 : Hid (Below w.heap.size w w1) := BB.out.trans (hb.mono BB.out.size)
    have O1 : Hid (OwnR w1 w.heap.size (.slice (some ⟨w.heap.size + 1, 0, none⟩) 0 0) []) := O0.out.next hb
    clear hb
    go_wp2_with fail
    go_ret
    exact ⟨_, rfl, by rw [HLM.out]; exact O1.out, B1.out⟩
  | true =>
    have HOKC : Hid (∀ f ∈ m.funs, ∀ c ∈ f.clauses, clOkD d c) := fun f hf c hc => by
      obtain ⟨h1, h2⟩ := mdOk_clauses hok f hf c hc
      exact ⟨⟨40, h1⟩, fun y hy => ⟨_, _, h2 y hy⟩⟩
    rw [hok] at HLM
    obtain ⟨i, hi, hz0, hz1, hz2⟩ : ∃ i, Tryz.prog.info? 44 = some i ∧ i.zero = some (.agg #[.string ⟨#[]⟩, .int .i64 0]) ∧ i.size = 2 ∧ i.bytes = 24 := info_parts info_ref
    generalize hn : m.funs.length = nf at *
    have HN : Hid (m.funs.length = nf) := hn
    clear hn
    go_enter Tryz.func38, Tryz.ntmps38
    go_wp2_with fail
    refine (implModuleOk_any d _ _ m (HT.out.below BB.out) (HM.out _ BB.out)).mono ?_
    rintro e w1 ⟨rfl, hb⟩
    rw [hok]
    have B1 : Hid (Below w.heap.size w w1) := BB.out.trans (hb.mono BB.out.size)
    have O1 : Hid (OwnR w1 w.heap.size (.slice (some ⟨w.heap.size + 1, 0, none⟩) 0 0) []) := O0.out.next hb
    have b1 := bA.out.next hb
    have x2 := b1.cell 2 _ rfl
    clear hb b1
    go_wp2_with fail
    go_loopw [3, 14] (fun u iv wr => ∃ k : Nat, k ≤ nf ∧ iv = .int .i64 k ∧ Hid (OwnR wr w.heap.size u (looseL d (m.funs.take k))) ∧ Hid (Below w.heap.size w wr)) (fun _ iv _ => nf - (intOf iv).toNat)
    case atStart => exact ⟨0, Nat.zero_le _, rfl, by show OwnR _ _ _ _; simpa [looseL] using O1.out, B1.out⟩
    case round =>
      clear O1 B1 x2 O0 BB bA
      obtain ⟨k, hk, rfl, HO, HB⟩ := hrel
      by_cases hlt : k < nf
      · obtain ⟨f, hfk⟩ : ∃ f, m.funs[k]? = some f := ⟨m.funs[k]'(by rw [HN.out]; exact hlt), List.getElem?_eq_getElem _⟩
        obtain ⟨p', cap', hv, -, -, hx⟩ := HF1.out
        simp only [Value.slice.injEq] at hv
        obtain ⟨rfl, -, rfl⟩ := hv
        obtain ⟨g, off, rfl, -, hgl, hat⟩ := hx (by intro h; rw [h] at hfk; simp at hfk)
        obtain ⟨cs, hcsl, hcs, r1⟩ := hat k f hfk
        obtain ⟨cv, rfl, hfs, hfi, rc⟩ := r1
        have RC : Hid (∀ w', Below w.heap.size w w' → Rows w' All 2 (HCl w' All (HEx w' All d)) cv f.clauses) := fun w' hb => Rows.mono rc (SameOn.of_below hb) (fun _ h => h) (fun _ _ _ h => HCl.mono h (SameOn.of_below hb) (fun _ h => h) (fun _ _ h => h.mono (SameOn.of_below hb) (fun _ h => h)))
        obtain ⟨pc, cc, rfl, -⟩ := rc
        have a0 := hcs 0 (by omega)
        have a1 := hcs 1 (by omega)
        have a2 := hcs 2 (by omega)
        rw [← HB.out.cell (p := ⟨g, _, none⟩) hgl] at a0 a1 a2
        simp at a0 a1 a2
        have HOKf : Hid (∀ c ∈ f.clauses, clOkD d c) := HOKC.out f (List.mem_of_getElem? hfk)
        have HCf : Hid (∀ c ∈ f.clauses, (clVarL d c).length ≤ 2097152) := HCN.out f (List.mem_of_getElem? hfk)
        have HSN : Hid (looseL d (m.funs.take (k + 1)) = if f.clauses.any (looseB d) then looseL d (m.funs.take k) ++ [⟨f.name, f.arity⟩] else looseL d (m.funs.take k)) := looseL_snoc d m.funs k f hfk
        have HLL : Hid ((looseL d (m.funs.take k)).length ≤ 1048576) := by
          have h1 := looseL_len d (m.funs.take k)
          rw [List.length_take, HN.out] at h1
          have h2 := HFL.out
          show _ ≤ _
          omega
        have hki : (k : Int) < (nf : Int) := by omega
        have hk0 : (0 : Int) ≤ (k : Int) := by omega
        have HBF : Hid (Below wr.heap.size wr (wr.alloc (.cells #[.string f.name, .int .i64 f.arity, .slice pc f.clauses.length cc] 52))) := (Below.refl _ _).alloc (Nat.le_refl _) _
        have bF : Hid (Blk (wr.alloc (.cells #[.string f.name, .int .i64 f.arity, .slice pc f.clauses.length cc] 52)) wr.heap.size #[.string f.name, .int .i64 f.arity, .slice pc f.clauses.length cc] 52) := Blk.new
        have BF : Hid (Below w.heap.size w (wr.alloc (.cells #[.string f.name, .int .i64 f.arity, .slice pc f.clauses.length cc] 52))) := HB.out.trans (HBF.out.mono HB.out.size)
        clear hat hcs hcsl hx
        generalize looseL d (m.funs.take k) = LK at *
        go_wp2_with fail
        refine (contains_any d _ _ f.clauses (RC.out _ BF.out) HOKf.out HCf.out).mono ?_
        rintro e w2 ⟨rfl, hb2⟩
        have K2 : Hid (Below wr.heap.size wr w2) := HBF.out.trans (hb2.mono HBF.out.size)
        have B2 : Hid (Below w.heap.size w w2) := HB.out.trans (K2.out.mono HB.out.size)
        have O2 : Hid (OwnR w2 w.heap.size u3 LK) := HO.out.next K2.out
        have b2 := bF.out.next hb2
        have y0 := b2.cell 0 _ rfl
        have y1 := b2.cell 1 _ rfl
        have y2 := b2.cell 2 _ rfl
        clear hb2 b2 a0 a1 a2
        cases hl : f.clauses.any (looseB d) with
        | false =>
          rw [hl] at HSN
          go_wp2_with fail
          exact ⟨⟨k + 1, by omega, by go_num, by show OwnR _ _ _ _; rw [HSN.out]; exact O2.out, B2.out⟩, by simp [intOf]; omega⟩
        | true =>
          rw [hl] at HSN
          go_wp2_with fail
          refine (refOf_any _ _ _ _ _ _).mono ?_
          rintro e w3 ⟨rfl, hb3⟩
          have B3 : Hid (Below w.heap.size w w3) := B2.out.trans (hb3.mono B2.out.size)
          have O3 : Hid (OwnR w3 w.heap.size u3 LK) := O2.out.next hb3
          have O4 : Hid (OwnR (w3.alloc (.cells #[.string f.name, .int .i64 f.arity] 44)) w.heap.size u3 LK) := O3.out.next ((Below.refl _ _).alloc (Nat.le_refl _) _)
          have B4 : Hid (Below w.heap.size w (w3.alloc (.cells #[.string f.name, .int .i64 f.arity] 44))) := B3.out.alloc B3.out.size _
          have hLL := HLL.out
          clear hb3 y0 y1 y2
          have N1 : Hid (∀ j u, (refs [⟨f.name, f.arity⟩])[j]? = some u → (w3.alloc (.cells #[.string f.name, .int .i64 f.arity] 44)).cell? ((⟨w3.heap.size, 0, none⟩ : Addr).add j) = some u) := one_ref
          go_wp2_with (at_builtin; refine wpList_append_own _ rfl _ _ 39 rfl w.heap.size 44 i (.agg #[.string ⟨#[]⟩, .int .i64 0]) 2 24 Tryz.underlying39 hi hz0 hz1 hz2 rfl (by decide) _ _ _ rfl O4.out.1 _ 1 1 (refs [⟨f.name, f.arity⟩]) rfl rfl N1.out (refs_oneCell _) (by unfold maxLen; omega) (by omega) O4.out.2 ?_)
          intro v5 w5 hown hgr _
          have O5 : Hid (OwnR w5 w.heap.size v5 (LK ++ [⟨f.name, f.arity⟩])) := OwnR.of hown (by simp) rfl (Nat.le_trans O4.out.2 hgr.size)
          have B5 : Hid (Below w.heap.size w w5) := B4.out.trans (O4.out.below hgr)
          clear hown hgr
          go_wp2_with fail
          exact ⟨⟨k + 1, by omega, by go_num, by show OwnR _ _ _ _; rw [HSN.out]; exact O5.out, B5.out⟩, by simp [intOf]; omega⟩
      · have HS : Hid (OwnR wr w.heap.size u3 (looseM d m)) := by
          have h1 := HO.out
          rw [List.take_of_length_le (by rw [HN.out]; omega)] at h1
          show OwnR _ _ _ _
          rw [HLM.out]
          exact h1
        go_wp2_with fail
        go_ret
        exact ⟨_, rfl, HS.out, HB.out⟩
end Go.Proofs.YtigfmdfgioccjaaGreatDoor
/-
  All problems of a program, as the program tells them.
-/
namespace Go.Proofs.YtigfmdfgioccjaaGreatDoor
open Go.ChangeShapes Go.WideShapes Go.ChangeAt Go.RowKit
set_option linter.unusedVariables false
set_option maxRecDepth 100000

def callQ (ms : List Md) (m : Md) (d : Nat) (f : Fn') : List Pb := (f.clauses.flatMap fun c => c.2.flatMap (preX d)).foldl (stK f.name f.arity ms m) []
def looseQ (m : Md) (d : Nat) (f : Fn') : List Pb := if (looseM d m).any (sameRf f.name f.arity) then [⟨m.name, f.name, f.arity, cLoose⟩] else []
def modQ (ms : List Md) (d : Nat) (m : Md) : List Pb := m.exports.flatMap (exportP m) ++ m.funs.flatMap fun f => looseQ m d f ++ callQ ms m d f

theorem okS_cLoose : okS cLoose := by unfold okS cLoose maxLen; decide
theorem loose_ok {w : World} {d : Nat} {v : Value} {m : Md} (h : Rows w All 3 (HFn w All d) v m.funs) : ∀ r ∈ looseM d m, okS r.name ∧ okI r.arity := by
  intro r hr
  unfold looseM at hr
  split at hr
  · obtain ⟨f, hf, rfl⟩ := looseL_mem hr
    obtain ⟨i, hi⟩ := List.mem_iff_getElem?.1 hf
    obtain ⟨p, cap, _, _, _, hx⟩ := h
    obtain ⟨g, off, _, _, _, hat⟩ := hx (by intro e; rw [e] at hi; simp at hi)
    obtain ⟨cs, _, _, hv⟩ := hat i f hi
    obtain ⟨cv, _, h1, h2, _⟩ := hv
    exact ⟨h1, h2⟩
  · cases hr

set_option maxHeartbeats 16000000 in
theorem problems_any (d : Nat) (w : World) (pv : Value) (ms : List Md) (hT : Tabs w) (h : Rows w All 3 (HMd w All d) pv ms) (hw : ∀ m ∈ ms, wtMd d m ≤ 1048576) (hLen : (ms.flatMap (modQ ms d)).length ≤ 1048576)
    (hRun : ∀ m ∈ ms, ∀ f ∈ m.funs, Runs (fun (s : List Pb) _ => s.length + 1 ≤ 1048576) (stK f.name f.arity ms m) [] (f.clauses.flatMap fun c => c.2.flatMap (preX d))) :
    Calls Tryz.prog 22 #[.agg #[pv]] w fun e w' => ∃ u, e = .returned u ∧ OwnP w' w.heap.size u (ms.flatMap (modQ ms d)) ∧ Below w.heap.size w w' := by
  have HTAB : Hid (Tabs w) := hT
  have HMS : Hid (∀ w', Below w.heap.size w w' → Rows w' All 3 (HMd w' All d) pv ms) := fun w' hw => h.mono (SameOn.of_below hw) (fun _ h => h) (fun _ _ _ h => h.mono (SameOn.of_below hw) (fun _ h => h))
  obtain ⟨p, cap, rfl, hcl, hcm, hx⟩ := h
  have HX : Hid (ms ≠ [] → ∃ g off, p = some ⟨g, off, none⟩ ∧ All g ∧ g < w.heap.size ∧ ∀ i x, ms[i]? = some x → ∃ cs, cs.length = 3 ∧ (∀ j, j < 3 → w.cell? ⟨g, off + i * 3 + j, none⟩ = cs[j]?) ∧ HMd w All d cs x) := hx
  have HLEN : Hid ((ms.flatMap (modQ ms d)).length ≤ 1048576) := hLen
  have HWM : Hid (∀ m ∈ ms, wtMd d m ≤ 1048576) := hw
  have HRUN : Hid (∀ m ∈ ms, ∀ f ∈ m.funs, Runs (fun (s : List Pb) _ => s.length + 1 ≤ 1048576) (stK f.name f.arity ms m) [] (f.clauses.flatMap fun c => c.2.flatMap (preX d))) := hRun
  have hnb : ms.length ≤ 9223372036854775807 := by unfold maxLen at hcm; omega
  obtain ⟨ip, hip, hpz0, hpz1, hpz2⟩ := info_parts info_pb
  generalize hn : ms.length = n at *
  have HN : Hid (ms.length = n) := hn
  obtain ⟨W1, hW1⟩ : ∃ W1, W1 = w.alloc (.cells #[.slice p n cap] 56) := ⟨_, rfl⟩
  have b1 : Blk W1 w.heap.size #[.slice p n cap] 56 := by rw [hW1]; exact Blk.new
  have hs1 : W1.heap.size = w.heap.size + 1 := by rw [hW1, alloc_hs]
  have hb1 : Below w.heap.size w W1 := by rw [hW1]; exact (Below.refl _ _).alloc (Nat.le_refl _) _
  have hal : Below W1.heap.size W1 (W1.alloc (.cells #[] 47)) := (Below.refl _ _).alloc (Nat.le_refl _) _
  have B2 : Hid (Below w.heap.size w (W1.alloc (.cells #[] 47))) := hb1.trans (hal.mono hb1.size)
  have b2 : Hid (Blk (W1.alloc (.cells #[] 47)) w.heap.size #[.slice p n cap] 56) := b1.next hal
  have O2 : Hid (OwnP (W1.alloc (.cells #[] 47)) w.heap.size (.slice (some ⟨w.heap.size + 1, 0, none⟩) 0 0) []) := by
    have := (OwnG.fresh (w := W1) (e := 47) (c := 4) (R := HPb)).base (B' := w.heap.size) (by omega)
    rw [hs1] at this
    exact this
  have HW1 : Hid (W1 = w.alloc (.cells #[.slice p n cap] 56)) := hW1
  clear hx hn b1 hb1 hal hs1 hW1 hT hw hLen hRun hcl hcm
  go_enter Tryz.func22, Tryz.ntmps22
  go_wp2_with fail
  rw [← HW1.out]
  go_loopw [3, 13] (fun ov iv wx => ∃ a : Nat, a ≤ n ∧ iv = .int .i64 a ∧ Hid (OwnP wx w.heap.size ov ((ms.take a).flatMap (modQ ms d))) ∧ Hid (Below w.heap.size w wx) ∧ Hid (Blk wx w.heap.size #[.slice p n cap] 56)) (fun _ iv _ => n - (intOf iv).toNat)
  case atStart => exact ⟨0, Nat.zero_le _, rfl, by show OwnP _ _ _ _; simpa using O2.out, B2, b2⟩
  case round =>
    obtain ⟨a, ha, rfl, ho, hb, bb⟩ := hrel
    clear O2 B2 b2
    by_cases hlt : a < n
    · obtain ⟨m, hmk⟩ : ∃ m, ms[a]? = some m := ⟨ms[a]'(by rw [HN.out]; exact hlt), List.getElem?_eq_getElem _⟩
      have hmm := List.mem_of_getElem? hmk
      obtain ⟨g, off, rfl, -, hgl, hat⟩ := HX.out (by intro h; rw [h] at hmk; simp at hmk)
      obtain ⟨cs, hcsl, hcs, hm⟩ := hat a m hmk
      have HMM : Hid (∀ w', Below w.heap.size w w' → HMd w' All d cs m) := fun w' hw => hm.mono (SameOn.of_below hw) (fun _ h => h)
      have HWT : Hid (wtMd d m ≤ 1048576) := HWM.out m hmm
      have HEL : Hid (m.exports.length ≤ 1048576) := by
        have := HWT.out
        unfold wtMd wtS at this
        show _ ≤ _
        omega
      have HRF : Hid (∀ f ∈ m.funs, Runs (fun (s : List Pb) _ => s.length + 1 ≤ 1048576) (stK f.name f.arity ms m) [] (f.clauses.flatMap fun c => c.2.flatMap (preX d))) := HRUN.out m hmm
      obtain ⟨ev, fv, rfl, hms, he, hf⟩ := hm
      obtain ⟨pe, ce, rfl, -⟩ := he
      obtain ⟨pf, cf, rfl, hcf, hcmf, hxf⟩ := hf
      have HXF : Hid (m.funs ≠ [] → ∃ g off, pf = some ⟨g, off, none⟩ ∧ All g ∧ g < w.heap.size ∧ ∀ i x, m.funs[i]? = some x → ∃ cs, cs.length = 3 ∧ (∀ j, j < 3 → w.cell? ⟨g, off + i * 3 + j, none⟩ = cs[j]?) ∧ HFn w All d cs x) := hxf
      have a0 := hcs 0 (by omega)
      have a1 := hcs 1 (by omega)
      have a2 := hcs 2 (by omega)
      rw [← hb.out.cell (p := ⟨g, _, none⟩) hgl] at a0 a1 a2
      simp at a0 a1 a2
      have hki : (a : Int) < (n : Int) := by omega
      have hk0 : (0 : Int) ≤ (a : Int) := by omega
      have hnf : m.funs.length ≤ 9223372036854775807 := by unfold maxLen at hcmf; omega
      obtain ⟨HJ, HL⟩ := flat_takeG (modQ ms d) ms a m hmk
      have HJJ : Hid ((ms.take (a + 1)).flatMap (modQ ms d) = ((ms.take a).flatMap (modQ ms d) ++ m.exports.flatMap (exportP m)) ++ m.funs.flatMap fun f => looseQ m d f ++ callQ ms m d f) := by show _ = _; rw [HJ]; simp only [modQ, List.append_assoc]
      have HLL : Hid (((ms.take a).flatMap (modQ ms d)).length + ((m.exports.flatMap (exportP m)).length + (m.funs.flatMap fun f => looseQ m d f ++ callQ ms m d f).length) ≤ 1048576) := by
        have h1 := HLEN.out
        have h2 : (modQ ms d m).length = (m.exports.flatMap (exportP m)).length + (m.funs.flatMap fun f => looseQ m d f ++ callQ ms m d f).length := by simp only [modQ, List.length_append]
        show _ ≤ _
        omega
      generalize hA0 : (ms.take a).flatMap (modQ ms d) = A0 at *
      generalize hn1 : m.exports.length = ne at *
      have HN1 : Hid (m.exports.length = ne) := hn1
      generalize hn2 : m.funs.length = nf at *
      have HN2 : Hid (m.funs.length = nf) := hn2
      obtain ⟨W5, hW5⟩ : ∃ W5, W5 = wr.alloc (.cells #[.string m.name, .slice pe ne ce, .slice pf nf cf] 42) := ⟨_, rfl⟩
      obtain ⟨bm, hbm⟩ : ∃ bm, bm = wr.heap.size := ⟨_, rfl⟩
      have hal : Below wr.heap.size wr W5 := by rw [hW5]; exact (Below.refl _ _).alloc (Nat.le_refl _) _
      have b5 : Hid (Blk W5 bm #[.string m.name, .slice pe ne ce, .slice pf nf cf] 42) := by show Blk _ _ _ _; rw [hW5, hbm]; exact Blk.new
      have bp5 : Hid (Blk W5 w.heap.size #[.slice (some ⟨g, off, none⟩) n cap] 56) := bb.out.next hal
      have HB5 : Hid (Below w.heap.size w W5) := hb.out.trans (hal.mono hb.out.size)
      have HO5 : Hid (OwnP W5 w.heap.size u3 A0) := ho.out.next hal
      have HW5 : Hid (W5 = wr.alloc (.cells #[.string m.name, .slice pe ne ce, .slice pf nf cf] 42)) := hW5
      have HBM : Hid (wr.heap.size = bm) := hbm.symm
      have HMSN : Hid (okS m.name) := hms
      have y0 := b5.out.cell 0 _ rfl
      have y1 := b5.out.cell 1 _ rfl
      have y2 := b5.out.cell 2 _ rfl
      rw [hW5, hbm] at y0 y1 y2
      clear hxf hcs hcsl hat HJ HL hA0 ho hb bb hW5 hbm hms hn1 hn2 hmk hal hcf hcmf hmm
      go_wp2_with fail
      rw [← HW5.out, HBM.out]
      clear a0 a1 a2 y0 y1 y2
      refine (exportProblems_any d _ _ m (HMM.out _ HB5.out) (by rw [HN1.out]; exact HEL.out)).mono ?_
      rintro e w6 ⟨u6, rfl, o6, hb6⟩
      have R6 : Hid (Rows w6 All 4 HPb u6 (m.exports.flatMap (exportP m))) := o6.rows
      have b6 : Hid (Blk w6 bm #[.string m.name, .slice pe ne ce, .slice pf nf cf] 42) := b5.out.next hb6
      have bp6 : Hid (Blk w6 w.heap.size #[.slice (some ⟨g, off, none⟩) n cap] 56) := bp5.out.next hb6
      have HB6 : Hid (Below w.heap.size w w6) := HB5.out.trans (hb6.mono HB5.out.size)
      have HO6 : Hid (OwnP w6 w.heap.size u3 A0) := HO5.out.next hb6
      clear hb6 o6
      go_wp2_with (at_builtin; refine wpList_append_own_rows rfl _ _ 24 rfl _ 56 Tryz.underlying24 info_pb rfl (by decide) HO6.out rfl u6 (m.exports.flatMap (exportP m)) rfl R6.out pb_oneCell (by have := HLL.out; omega) (by decide) ?_; intro v7 w7 ho7 hb7 hap7; have n7 := (hap7.blk b6.out (by decide)).cell 0 _ rfl; have n8 := (hap7.blk b6.out (by decide)).cell 1 _ rfl; have n9 := (hap7.blk b6.out (by decide)).cell 2 _ rfl)
      have HO7 : Hid (OwnP w7 w.heap.size v7 (A0 ++ m.exports.flatMap (exportP m))) := ho7
      have HB7 : Hid (Below w.heap.size w w7) := HB6.out.trans hb7
      have b7 : Hid (Blk w7 bm #[.string m.name, .slice pe ne ce, .slice pf nf cf] 42) := hap7.blk b6.out (by decide)
      have bp7 : Hid (Blk w7 w.heap.size #[.slice (some ⟨g, off, none⟩) n cap] 56) := hap7.blk bp6.out (by decide)
      clear ho7 hb7 hap7
      clear n7 n8 n9
      refine (implLoose_any d _ _ m (HTAB.out.below HB7.out) (HMM.out _ HB7.out) HWT.out).mono ?_
      rintro e w8 ⟨u8', rfl, o8, hb8⟩
      have HLR : Hid (OwnR w8 0 u8' (looseM d m)) := o8.base (Nat.zero_le _)
      have b8 : Hid (Blk w8 bm #[.string m.name, .slice pe ne ce, .slice pf nf cf] 42) := b7.out.next hb8
      have bp8 : Hid (Blk w8 w.heap.size #[.slice (some ⟨g, off, none⟩) n cap] 56) := bp7.out.next hb8
      have HB8 : Hid (Below w.heap.size w w8) := HB7.out.trans (hb8.mono HB7.out.size)
      have HO8 : Hid (OwnP w8 w.heap.size v7 (A0 ++ m.exports.flatMap (exportP m))) := HO7.out.next hb8
      clear hb8 o8 HO7 HB7 b7 bp7 HO6 HB6 b6 bp6 R6 HO5 HB5 b5 bp5
      have HLOK : Hid (∀ r ∈ looseM d m, okS r.name ∧ okI r.arity) := by
        obtain ⟨_, _, he, _, _, hf⟩ := HMM.out w (Below.refl _ _)
        simp only [List.cons.injEq, and_true] at he
        exact loose_ok hf
      generalize hQ : (fun f : Fn' => looseQ m d f ++ callQ ms m d f) = Q9 at *
      have HQ : Hid ((fun f : Fn' => looseQ m d f ++ callQ ms m d f) = Q9) := hQ
      generalize hA1 : A0 ++ m.exports.flatMap (exportP m) = A1 at *
      have HLL2 : Hid (A1.length + (m.funs.flatMap Q9).length ≤ 1048576) := by
        have := HLL.out
        show _ ≤ _
        rw [← hA1, List.length_append]
        omega
      clear hQ HLL hA1
      have z2 := b8.out.cell 2 _ rfl
      go_wp2_with fail
      clear z2
      go_loopw [3, 26] (fun ov iv wx => ∃ b : Nat, b ≤ nf ∧ iv = .int .i64 b ∧ Hid (OwnP wx w.heap.size ov (A1 ++ (m.funs.take b).flatMap Q9)) ∧ Hid (Below w.heap.size w wx) ∧ Hid (Blk wx w.heap.size #[.slice (some ⟨g, off, none⟩) n cap] 56) ∧ Hid (Blk wx bm #[.string m.name, .slice pe ne ce, .slice pf nf cf] 42) ∧ Hid (OwnR wx 0 u8' (looseM d m))) (fun _ iv _ => nf - (intOf iv).toNat)
      case atStart => exact ⟨0, Nat.zero_le _, rfl, by show OwnP _ _ _ _; simpa using HO8.out, HB8, bp8, b8, HLR⟩
      case round =>
        obtain ⟨b, hbn, rfl, ho, hb, bb, bq, hl⟩ := hrel
        clear HLR b8 bp8 HB8 HO8
        by_cases hlt2 : b < nf
        · obtain ⟨f, hfk⟩ : ∃ f, m.funs[b]? = some f := ⟨m.funs[b]'(by rw [HN2.out]; exact hlt2), List.getElem?_eq_getElem _⟩
          have hff := List.mem_of_getElem? hfk
          obtain ⟨g2, off2, rfl, -, hgl2, hat2⟩ := HXF.out (by intro h; rw [h] at hfk; simp at hfk)
          obtain ⟨cs2, hcsl2, hcs2, hf2⟩ := hat2 b f hfk
          have HFF : Hid (∀ w', Below w.heap.size w w' → HFn w' All d cs2 f) := fun w' hw => hf2.mono (SameOn.of_below hw) (fun _ h => h)
          obtain ⟨cv, rfl, hfs, hfn, hfc⟩ := hf2
          obtain ⟨pc, cc, rfl, -⟩ := hfc
          have a0 := hcs2 0 (by omega)
          have a1 := hcs2 1 (by omega)
          have a2 := hcs2 2 (by omega)
          rw [← hb.out.cell (p := ⟨g2, _, none⟩) hgl2] at a0 a1 a2
          simp at a0 a1 a2
          have hkb : (b : Int) < (nf : Int) := by omega
          have hb0 : (0 : Int) ≤ (b : Int) := by omega
          have HR2 : Hid (Runs (fun (s : List Pb) _ => s.length + 1 ≤ 1048576) (stK f.name f.arity ms m) [] (f.clauses.flatMap fun c => c.2.flatMap (preX d))) := HRF.out f hff
          obtain ⟨HJ, HL⟩ := flat_takeG Q9 m.funs b f hfk
          have HJ9 : Hid (A1 ++ (m.funs.take (b + 1)).flatMap Q9 = (A1 ++ (m.funs.take b).flatMap Q9) ++ (looseQ m d f ++ callQ ms m d f)) := by show _ = _; rw [HJ, ← HQ.out, List.append_assoc]
          have HL9 : Hid ((A1 ++ (m.funs.take b).flatMap Q9).length + ((looseQ m d f).length + (callQ ms m d f).length) ≤ 1048576) := by
            have h1 := HLL2.out
            have h2 : (Q9 f).length = (looseQ m d f).length + (callQ ms m d f).length := by rw [← HQ.out]; simp only [List.length_append]
            show _ ≤ _
            rw [List.length_append]
            omega
          have HLQ : Hid (looseQ m d f = if (looseM d m).any (sameRf f.name f.arity) then [⟨m.name, f.name, f.arity, cLoose⟩] else []) := rfl
          generalize hA2 : A1 ++ (m.funs.take b).flatMap Q9 = A2 at *
          generalize hn3 : f.clauses.length = nc at *
          obtain ⟨W9, hW9⟩ : ∃ W9, W9 = wr.alloc (.cells #[.string f.name, .int .i64 f.arity, .slice pc nc cc] 52) := ⟨_, rfl⟩
          obtain ⟨bf, hbf⟩ : ∃ bf, bf = wr.heap.size := ⟨_, rfl⟩
          have hal : Below wr.heap.size wr W9 := by rw [hW9]; exact (Below.refl _ _).alloc (Nat.le_refl _) _
          have bf9 : Hid (Blk W9 bf #[.string f.name, .int .i64 f.arity, .slice pc nc cc] 52) := by show Blk _ _ _ _; rw [hW9, hbf]; exact Blk.new
          have bm9 : Hid (Blk W9 bm #[.string m.name, .slice pe ne ce, .slice (some ⟨g2, off2, none⟩) nf cf] 42) := bq.out.next hal
          have bp9 : Hid (Blk W9 w.heap.size #[.slice (some ⟨g, off, none⟩) n cap] 56) := bb.out.next hal
          have HB9 : Hid (Below w.heap.size w W9) := hb.out.trans (hal.mono hb.out.size)
          have HO9 : Hid (OwnP W9 w.heap.size u3 A2) := ho.out.next hal
          have HL8 : Hid (OwnR W9 0 u8' (looseM d m)) := hl.out.next hal
          have HW9 : Hid (W9 = wr.alloc (.cells #[.string f.name, .int .i64 f.arity, .slice pc nc cc] 52)) := hW9
          have HBF : Hid (wr.heap.size = bf) := hbf.symm
          have HFS : Hid (okS f.name) := hfs
          have HFI : Hid (okI f.arity) := hfn
          clear HJ HL hA2 hn3 hW9 hbf hal hcs2 hcsl2 hat2 ho hb bb bq hl hfs hfn hfk hff
          go_wp2_with fail
          rw [← HW9.out, HBF.out]
          clear a0 a1 a2
          refine (refOf_any f.name f.arity pc nc cc _).mono ?_
          rintro e w10 ⟨rfl, hb10⟩
          have bf10 : Hid (Blk w10 bf #[.string f.name, .int .i64 f.arity, .slice pc nc cc] 52) := bf9.out.next hb10
          have bm10 : Hid (Blk w10 bm #[.string m.name, .slice pe ne ce, .slice (some ⟨g2, off2, none⟩) nf cf] 42) := bm9.out.next hb10
          have bp10 : Hid (Blk w10 w.heap.size #[.slice (some ⟨g, off, none⟩) n cap] 56) := bp9.out.next hb10
          have HB10 : Hid (Below w.heap.size w w10) := HB9.out.trans (hb10.mono HB9.out.size)
          have HO10 : Hid (OwnP w10 w.heap.size u3 A2) := HO9.out.next hb10
          have HL10 : Hid (OwnR w10 0 u8' (looseM d m)) := HL8.out.next hb10
          clear hb10 bf9 bm9 bp9 HB9 HO9 HL8 HW9 HBF
          go_wp2_with fail
          refine (containsR_any _ _ (looseM d m) f.name f.arity (ORs.rows (HL10.out.tree HLOK.out))).mono ?_
          rintro e w11 ⟨rfl, hb11⟩
          have bf11 : Hid (Blk w11 bf #[.string f.name, .int .i64 f.arity, .slice pc nc cc] 52) := bf10.out.next hb11
          have bm11 : Hid (Blk w11 bm #[.string m.name, .slice pe ne ce, .slice (some ⟨g2, off2, none⟩) nf cf] 42) := bm10.out.next hb11
          have bp11 : Hid (Blk w11 w.heap.size #[.slice (some ⟨g, off, none⟩) n cap] 56) := bp10.out.next hb11
          have HB11 : Hid (Below w.heap.size w w11) := HB10.out.trans (hb11.mono HB10.out.size)
          have HO11 : Hid (OwnP w11 w.heap.size u3 A2) := HO10.out.next hb11
          have HL11 : Hid (OwnR w11 0 u8' (looseM d m)) := HL10.out.next hb11
          clear hb11 bf10 bm10 bp10 HB10 HO10 HL10
          have fz0 := bf11.out.cell 0 _ rfl
          have fz1 := bf11.out.cell 1 _ rfl
          have fz2 := bf11.out.cell 2 _ rfl
          have mz0 := bm11.out.cell 0 _ rfl
          have mz1 := bm11.out.cell 1 _ rfl
          have mz2 := bm11.out.cell 2 _ rfl
          have pz0 := bp11.out.cell 0 _ rfl
          cases hLS : (looseM d m).any (sameRf f.name f.arity) with
          | false =>
            have HQ0 : Hid (looseQ m d f = []) := by show _ = _; rw [HLQ.out, hLS]; rfl
            go_wp2_with fail
            clear fz0 fz1 fz2 mz0 mz1 mz2 pz0
            refine (callProblems_any d _ _ ms _ m _ f (HMS.out _ HB11.out) (HMM.out _ HB11.out) (HFF.out _ HB11.out) HR2.out).mono ?_
            rintro e w15 ⟨u15, rfl, o15, hb15⟩
            have R15 : Hid (Rows w15 All 4 HPb u15 (callQ ms m d f)) := o15.rows
            have bm15 : Hid (Blk w15 bm #[.string m.name, .slice pe ne ce, .slice (some ⟨g2, off2, none⟩) nf cf] 42) := bm11.out.next hb15
            have bp15 : Hid (Blk w15 w.heap.size #[.slice (some ⟨g, off, none⟩) n cap] 56) := bp11.out.next hb15
            have HB15 : Hid (Below w.heap.size w w15) := HB11.out.trans (hb15.mono HB11.out.size)
            have HO15 : Hid (OwnP w15 w.heap.size u3 A2) := HO11.out.next hb15
            have HL15 : Hid (OwnR w15 0 u8' (looseM d m)) := HL11.out.next hb15
            clear hb15 o15
            go_wp2_with (at_builtin; refine wpList_append_own_rows rfl _ _ 24 rfl _ 56 Tryz.underlying24 info_pb rfl (by decide) HO15.out rfl u15 (callQ ms m d f) rfl R15.out pb_oneCell (by have := HL9.out; rw [HQ0.out] at this; simp only [List.length_nil] at this; omega) (by decide) ?_; intro v16 w16 ho16 hb16 hap16)
            have HO16 : Hid (OwnP w16 w.heap.size v16 (A1 ++ (m.funs.take (b + 1)).flatMap Q9)) := by show OwnP _ _ _ _; rw [HJ9.out, HQ0.out]; simpa using ho16
            have HB16 : Hid (Below w.heap.size w w16) := HB15.out.trans hb16
            have bp16 : Hid (Blk w16 w.heap.size #[.slice (some ⟨g, off, none⟩) n cap] 56) := hap16.blk bp15.out (by decide)
            have bm16 : Hid (Blk w16 bm #[.string m.name, .slice pe ne ce, .slice (some ⟨g2, off2, none⟩) nf cf] 42) := hap16.blk bm15.out (by decide)
            have HL16 : Hid (OwnR w16 0 u8' (looseM d m)) := ⟨hap16.owns HL15.out.1 (by decide), Nat.zero_le _⟩
            clear ho16 hb16 hap16
            go_wp2_with fail
            exact ⟨⟨b + 1, by omega, by go_num, HO16, HB16, bp16, bm16, HL16⟩, by simp [intOf]; omega⟩
          | true =>
            have HQ1 : Hid (looseQ m d f = [⟨m.name, f.name, f.arity, cLoose⟩]) := by show _ = _; rw [HLQ.out, hLS]; rfl
            have HPB : Hid (HPb [.string m.name, .string f.name, .int .i64 f.arity, .string ⟨#[108, 111, 111, 115, 101]⟩] ⟨m.name, f.name, f.arity, cLoose⟩) := ⟨rfl, HMSN.out, HFS.out, HFI.out, okS_cLoose⟩
            have HL91 : Hid (A2.length + 1 ≤ 1048576) := by
              have := HL9.out
              rw [HQ1.out] at this
              show _ ≤ _
              simp only [List.length_cons, List.length_nil] at this
              omega
            have NXT : Hid (∀ w9, Below w.heap.size w11 w9 → ApartE 47 w11 w9 → Blk w9 bf #[.string f.name, .int .i64 f.arity, .slice pc nc cc] 52 ∧ Blk w9 bm #[.string m.name, .slice pe ne ce, .slice (some ⟨g2, off2, none⟩) nf cf] 42 ∧ Blk w9 w.heap.size #[.slice (some ⟨g, off, none⟩) n cap] 56 ∧ OwnR w9 0 u8' (looseM d m) ∧ Below w.heap.size w w9) := fun w9 hb9 hap9 =>
              ⟨hap9.blk bf11.out (by decide), hap9.blk bm11.out (by decide), hap9.blk bp11.out (by decide), ⟨hap9.owns HL11.out.1 (by decide), Nat.zero_le _⟩, HB11.out.trans hb9⟩
            go_wp2_with fail
            go_region_law
              (first
                | (go_simp; go_at_call 40; refine (refOf_any _ _ _ _ _ _).mono ?_; rintro e w12 ⟨rfl, hb12⟩; have K12 : Hid (Below w11.heap.size w11 w12) := ⟨hb12.os, hb12.tape, hb12.output, hb12.size, hb12.block⟩; have m12 := bm11.out.next K12.out; have mx0 := m12.cell 0 _ rfl; have mx1 := m12.cell 1 _ rfl; have mx2 := m12.cell 2 _ rfl; clear hb12 m12; dsimp only)
                | (go_simp; go_at_call 41; refine (problemOf_any _ m.name pe (some ⟨g2, off2, none⟩) ne ce nf cf f.name f.arity ⟨#[108, 111, 111, 115, 101]⟩).mono ?_; rintro e w13 ⟨rfl, hb13⟩; have K13 : Hid (Below w11.heap.size w11 w13) := K12.out.trans (hb13.mono K12.out.size); have HOA : Hid (OwnP (w13.alloc (.cells #[.string m.name, .string f.name, .int .i64 f.arity, .string ⟨#[108, 111, 111, 115, 101]⟩] 47)) w.heap.size u3 A2) := (HO11.out.next K13.out).next ((Below.refl _ _).alloc (Nat.le_refl _) _); have HGA : Hid (Blk (w13.alloc (.cells #[.string m.name, .string f.name, .int .i64 f.arity, .string ⟨#[108, 111, 111, 115, 101]⟩] 47)) w13.heap.size #[.string m.name, .string f.name, .int .i64 f.arity, .string ⟨#[108, 111, 111, 115, 101]⟩] 47) := Blk.new; have KA13 : Hid (Below w11.heap.size w11 (w13.alloc (.cells #[.string m.name, .string f.name, .int .i64 f.arity, .string ⟨#[108, 111, 111, 115, 101]⟩] 47))) := K13.out.alloc K13.out.size _; clear hb13; dsimp only)
                | (refine step_append_blk (by rfl) _ _ _ (by rfl) _ 56 Tryz.underlying24 info_pb rfl (by decide) HOA.out w13.heap.size #[.string m.name, .string f.name, .int .i64 f.arity, .string ⟨#[108, 111, 111, 115, 101]⟩] HGA.out ⟨m.name, f.name, f.arity, cLoose⟩ HPB.out rfl (pb_oneCell _ _ HPB.out) (by rfl) (by rfl) HL91.out (by decide) ?_; intro v9 w9 ho9 hb9 hap9; have HO14 : Hid (OwnP w9 w.heap.size v9 (A2 ++ [⟨m.name, f.name, f.arity, cLoose⟩])) := ho9; have nx9 := NXT.out w9 ((KA13.out.mono HB11.out.size).trans hb9) ((ApartE.of_below KA13.out).trans hap9); have HNX : Hid (Blk w9 bf #[.string f.name, .int .i64 f.arity, .slice pc nc cc] 52 ∧ Blk w9 bm #[.string m.name, .slice pe ne ce, .slice (some ⟨g2, off2, none⟩) nf cf] 42 ∧ Blk w9 w.heap.size #[.slice (some ⟨g, off, none⟩) n cap] 56 ∧ OwnR w9 0 u8' (looseM d m) ∧ Below w.heap.size w w9) := nx9; have fv0 := nx9.1.cell 0 _ rfl; have fv1 := nx9.1.cell 1 _ rfl; have fv2 := nx9.1.cell 2 _ rfl; have mv0 := nx9.2.1.cell 0 _ rfl; have mv1 := nx9.2.1.cell 1 _ rfl; have mv2 := nx9.2.1.cell 2 _ rfl; have pv0 := nx9.2.2.1.cell 0 _ rfl; clear ho9 hb9 hap9 nx9))
            all_goals
              go_wp2_with fail
              clear fz0 fz1 fz2 mz0 mz1 mz2 pz0 fv0 fv1 fv2 mv0 mv1 mv2 pv0
              refine (callProblems_any d _ _ ms _ m _ f (HMS.out _ HNX.out.2.2.2.2) (HMM.out _ HNX.out.2.2.2.2) (HFF.out _ HNX.out.2.2.2.2) HR2.out).mono ?_
              rintro e w15 ⟨u15, rfl, o15, hb15⟩
              have R15 : Hid (Rows w15 All 4 HPb u15 (callQ ms m d f)) := o15.rows
              have bm15 : Hid (Blk w15 bm #[.string m.name, .slice pe ne ce, .slice (some ⟨g2, off2, none⟩) nf cf] 42) := HNX.out.2.1.next hb15
              have bp15 : Hid (Blk w15 w.heap.size #[.slice (some ⟨g, off, none⟩) n cap] 56) := HNX.out.2.2.1.next hb15
              have HB15 : Hid (Below w.heap.size w w15) := HNX.out.2.2.2.2.trans (hb15.mono HNX.out.2.2.2.2.size)
              have HO15 : Hid (OwnP w15 w.heap.size v9 (A2 ++ [⟨m.name, f.name, f.arity, cLoose⟩])) := HO14.out.next hb15
              have HL15 : Hid (OwnR w15 0 u8' (looseM d m)) := HNX.out.2.2.2.1.next hb15
              clear hb15 o15
              go_wp2_with (at_builtin; refine wpList_append_own_rows rfl _ _ 24 rfl _ 56 Tryz.underlying24 info_pb rfl (by decide) HO15.out rfl u15 (callQ ms m d f) rfl R15.out pb_oneCell (by have := HL9.out; rw [HQ1.out] at this; simp only [List.length_append, List.length_cons, List.length_nil] at this ⊢; omega) (by decide) ?_; intro v16 w16 ho16 hb16 hap16)
              have HO16 : Hid (OwnP w16 w.heap.size v16 (A1 ++ (m.funs.take (b + 1)).flatMap Q9)) := by show OwnP _ _ _ _; rw [HJ9.out, HQ1.out]; simpa using ho16
              have HB16 : Hid (Below w.heap.size w w16) := HB15.out.trans hb16
              have bp16 : Hid (Blk w16 w.heap.size #[.slice (some ⟨g, off, none⟩) n cap] 56) := hap16.blk bp15.out (by decide)
              have bm16 : Hid (Blk w16 bm #[.string m.name, .slice pe ne ce, .slice (some ⟨g2, off2, none⟩) nf cf] 42) := hap16.blk bm15.out (by decide)
              have HL16 : Hid (OwnR w16 0 u8' (looseM d m)) := ⟨hap16.owns HL15.out.1 (by decide), Nat.zero_le _⟩
              clear ho16 hb16 hap16
              go_wp2_with fail
              exact ⟨⟨b + 1, by omega, by go_num, HO16, HB16, bp16, bm16, HL16⟩, by simp [intOf]; omega⟩
        · have HR : Hid (OwnP wr w.heap.size u3 ((ms.take (a + 1)).flatMap (modQ ms d))) := by
            have h1 := ho.out
            rw [show m.funs.take b = m.funs from List.take_of_length_le (by rw [HN2.out]; omega)] at h1
            show OwnP _ _ _ _
            rw [HJJ.out]
            exact h1
          clear ho
          go_wp2_with fail
          exact ⟨⟨a + 1, by omega, by go_num, HR, hb, bb⟩, by simp [intOf]; omega⟩
    · have HR : Hid (OwnP wr w.heap.size u3 (ms.flatMap (modQ ms d))) := by
        have h1 := ho.out
        rwa [show ms.take a = ms from List.take_of_length_le (by rw [HN.out]; omega)] at h1
      clear ho
      go_wp2_with fail
      go_ret
      exact ⟨_, rfl, HR.out, hb.out⟩
end Go.Proofs.YtigfmdfgioccjaaGreatDoor
/-
  Of a right program the program's problems are the specification's.
-/
namespace Go.Proofs.YtigfmdfgioccjaaGreatDoor
open Go.ChangeShapes Go.WideShapes Go.ChangeAt Go.RowKit
set_option linter.unusedVariables false

theorem pgOk_mem {d : Nat} {ms : List Md} (h : pgOk d ms = true) : ∀ m ∈ ms, mdOk d m = true := by
  intro m hm
  obtain ⟨k, hk⟩ := List.mem_iff_getElem?.1 hm
  have hl : k < ms.length := (List.getElem?_eq_some_iff.1 hk).1
  cases hb : mdOk d m with
  | true => rfl
  | false =>
    have h1 := mdsAt_bad hk hb
    unfold pgOk at h
    rw [rangeT_at _ _ k hl h1] at h
    simp at h

theorem flatMap_none {α β : Type} {f : α → List β} : ∀ {l : List α}, (∀ x ∈ l, f x = []) → l.flatMap f = []
  | [], _ => rfl
  | x :: l, h => by rw [List.flatMap_cons, h x List.mem_cons_self, flatMap_none (fun y hy => h y (List.mem_cons_of_mem _ hy))]; rfl
theorem flatMap_same {α β : Type} {f g : α → List β} : ∀ {l : List α}, (∀ x ∈ l, f x = g x) → l.flatMap f = l.flatMap g
  | [], _ => rfl
  | x :: l, h => by rw [List.flatMap_cons, List.flatMap_cons, h x List.mem_cons_self, flatMap_same (fun y hy => h y (List.mem_cons_of_mem _ hy))]

theorem pat_none (ms : List Md) (m : Md) : ∀ (d : Nat) (x : Ex) (deep : Int), exOk d x true deep = true → (preX d x).flatMap (callL ms m) = []
  | 0, _, _, h => by simp [exOk] at h
  | d + 1, .mk k n t mo ks cs, deep, h => by
    obtain ⟨h1, h2, h3, h4, h5, h6⟩ := exOk_parts h
    have hk := h4 rfl
    have hcs : cs = [] := h1 (by omega)
    subst hcs
    have hc : callL ms m (.mk k n t mo ks []) = [] := by unfold callL; rw [if_neg (by simp only [Ex.kind]; omega)]
    have hkids : ks.flatMap (fun y => (preX d y).flatMap (callL ms m)) = [] := flatMap_none (fun y hy => by
      obtain ⟨p, hp, he⟩ := h5 y hy
      rw [hp rfl] at he
      exact pat_none ms m d y _ he)
    simp only [preX, Ex.kids, Ex.clauses, List.flatMap_nil, List.append_nil, List.flatMap_cons, hc, List.nil_append, List.flatMap_assoc]
    exact hkids

theorem pre_codes (ms : List Md) (m : Md) : ∀ (d : Nat) (x : Ex) (p : Bool) (deep : Int), exOk d x p deep = true → (preX d x).flatMap (callL ms m) = codesX ms m d x
  | 0, _, _, _, h => by simp [exOk] at h
  | d + 1, .mk k n t mo ks cs, p, deep, h => by
    obtain ⟨h1, h2, h3, h4, h5, h6⟩ := exOk_parts h
    have hkids : ks.flatMap (fun y => (preX d y).flatMap (callL ms m)) = ks.flatMap (codesX ms m d) := flatMap_same (fun y hy => by
      obtain ⟨q, _, he⟩ := h5 y hy
      exact pre_codes ms m d y q _ he)
    have hcl : cs.flatMap (fun c : Cl => (c.1.flatMap (preX d) ++ c.2.flatMap (preX d)).flatMap (callL ms m)) = cs.flatMap (fun c : Cl => c.2.flatMap (codesX ms m d)) := flatMap_same (fun c hc => by
      rw [List.flatMap_append, List.flatMap_assoc, List.flatMap_assoc]
      rw [flatMap_none (fun y hy => pat_none ms m d y _ ((h6 c hc).1 y hy)), List.nil_append]
      exact flatMap_same (fun y hy => pre_codes ms m d y false _ ((h6 c hc).2 y hy)))
    simp only [preX, codesX, withinX, bodiesOf, Ex.kids, Ex.clauses, List.flatMap_cons, List.flatMap_append, List.flatMap_assoc] at *
    rw [hkids, hcl]

/-! Codes, each once. -/
theorem onceS_append : ∀ (a b l : List ByteArray), onceS l (a ++ b) = onceS (onceS l a) b
  | [], b, l => rfl
  | y :: a, b, l => onceS_append a b _
theorem onceS_ahead (pre : List ByteArray) : ∀ (C l : List ByteArray), (∀ c ∈ C, hasS pre c = false) → onceS (pre ++ l) C = pre ++ onceS l C
  | [], l, _ => rfl
  | y :: C, l, h => by
    have h1 : hasS (pre ++ l) y = hasS l y := by
      have := h y List.mem_cons_self
      unfold hasS at *
      rw [List.any_append, this, Bool.false_or]
    show onceS (if hasS (pre ++ l) y then pre ++ l else (pre ++ l) ++ [y]) C = pre ++ onceS (if hasS l y then l else l ++ [y]) C
    rw [h1]
    split
    · exact onceS_ahead pre C l (fun c hc => h c (List.mem_cons_of_mem _ hc))
    · rw [List.append_assoc]
      exact onceS_ahead pre C _ (fun c hc => h c (List.mem_cons_of_mem _ hc))
theorem foldC_once (ms : List Md) (m : Md) (d : Nat) : ∀ (l : List Ex) (o : List ByteArray), l.foldl (fun o b => onceS o (codesX ms m d b)) o = onceS o (l.flatMap (codesX ms m d))
  | [], o => rfl
  | x :: l, o => by
    rw [List.foldl_cons, foldC_once ms m d l, List.flatMap_cons, onceS_append]
theorem codeOf_ne (x : Ex) : (codeOf x).toList ≠ [] := by unfold codeOf; split <;> simp [cCall, cFar, ByteArray.toList_eq]
theorem codeOf_loose (x : Ex) : hasS [cLoose] (codeOf x) = false := by unfold codeOf; split <;> simp [hasS, cCall, cFar, cLoose, ByteArray.toList_eq]
theorem callL_wrong (ms : List Md) (m : Md) (x : Ex) : callL ms m x = if x.kind = 8 then (if wrongB ms m x then [codeOf x] else []) else [] := by
  unfold callL
  rw [callC_wrong]
  cases wrongB ms m x
  · simp
  · simp only [if_true, if_neg (codeOf_ne x)]
theorem callL_ahead (ms : List Md) (m : Md) (x : Ex) : ∀ c ∈ callL ms m x, hasS [cLoose] c = false := by
  rw [callL_wrong]
  split
  · split
    · intro c hc
      rw [List.mem_singleton.1 hc]
      exact codeOf_loose x
    · intro c hc; cases hc
  · intro c hc; cases hc

theorem codesX_ahead (ms : List Md) (m : Md) : ∀ (d : Nat) (x : Ex), ∀ c ∈ codesX ms m d x, hasS [cLoose] c = false
  | 0, _, c, h => by cases h
  | d + 1, x, c, h => by
    simp only [codesX, List.mem_append, List.mem_flatMap] at h
    rcases h with h | ⟨y, _, h⟩
    · exact callL_ahead ms m x c h
    · exact codesX_ahead ms m d y c h

/-- The program's list is the codes, each once. -/
theorem st_fold (ms : List Md) (m : Md) (fs : ByteArray) (fn : Int) : ∀ (L : List Ex) (s : List ByteArray),
    L.foldl (stK fs fn ms m) (s.map fun c => ⟨m.name, fs, fn, c⟩) = (onceS s (L.flatMap (callL ms m))).map fun c => ⟨m.name, fs, fn, c⟩
  | [], s => rfl
  | x :: L, s => by
    have hst : stK fs fn ms m (s.map fun c => ⟨m.name, fs, fn, c⟩) x = (onceS s (callL ms m x)).map fun c => ⟨m.name, fs, fn, c⟩ := by
      unfold stK stC
      rw [callL_wrong]
      have ha : (s.map fun c => (⟨m.name, fs, fn, c⟩ : Pb)).any (samePb ⟨m.name, fs, fn, codeOf x⟩) = hasS s (codeOf x) := by
        rw [List.any_map]
        unfold hasS
        congr 1
        funext y
        simp only [Function.comp, samePb, beq_self_eq_true, Bool.true_and]
        exact Bool.beq_comm
      split
      · rw [ha]
        cases wrongB ms m x
        · simp [onceS]
        · simp only [Bool.true_and, if_true, onceS]
          cases hasS s (codeOf x) <;> simp
      · simp [onceS]
    rw [List.foldl_cons, hst, st_fold ms m fs fn L, List.flatMap_cons, onceS_append]

theorem bodies_pre (f : Fn') (d : Nat) : (f.clauses.flatMap fun c : Cl => c.2.flatMap (preX d)) = (bodiesOf f.clauses).flatMap (preX d) := by
  unfold bodiesOf
  rw [List.flatMap_assoc]

/-! A function is told by its name and arity. -/
theorem fn_once {d : Nat} {m : Md} (h : mdOk d m = true) {f g : Fn'} (hf : f ∈ m.funs) (hg : g ∈ m.funs) (h1 : g.name.toList = f.name.toList) (h2 : g.arity = f.arity) : g = f := by
  unfold mdOk fnsB at h
  simp only [Bool.and_eq_true, List.all_eq_true] at h
  have hall := h.2.2.2
  obtain ⟨i, hi⟩ := List.mem_iff_getElem?.1 hf
  obtain ⟨j, hj⟩ := List.mem_iff_getElem?.1 hg
  have key : ∀ (i j : Nat) (f g : Fn'), m.funs[i]? = some f → m.funs[j]? = some g → f.name.toList = g.name.toList → f.arity = g.arity → ¬ i < j := by
    intro i j f g hi hj e1 e2 hlt
    have hl : j < m.funs.length := (List.getElem?_eq_some_iff.1 hj).1
    have h3 := hall j (by simpa using hl)
    unfold fnsAt at h3
    rw [hj] at h3
    simp only [Bool.and_eq_true, Bool.not_eq_true'] at h3
    have h4 := List.any_eq_false.1 h3.2 f (by
      refine List.mem_iff_getElem?.2 ⟨i, ?_⟩
      rw [List.getElem?_take_of_lt hlt]; exact hi)
    apply h4
    simp [sameR, e1, e2]
  have e1 := key i j f g hi hj h1.symm h2.symm
  have e2 := key j i g f hj hi h1 h2
  have : i = j := by omega
  subst this
  rw [hi] at hj
  exact (Option.some.inj hj).symm
theorem loose_any {d : Nat} {m : Md} (h : mdOk d m = true) {f : Fn'} (hf : f ∈ m.funs) : (looseM d m).any (sameRf f.name f.arity) = looseF d f := by
  unfold looseM
  rw [if_pos h]
  cases hl : looseF d f with
  | true =>
    rw [List.any_eq_true]
    refine ⟨rfOf f, ?_, by simp [sameRf, rfOf]⟩
    unfold looseL
    exact List.mem_map.2 ⟨f, List.mem_filter.2 ⟨hf, hl⟩, rfl⟩
  | false =>
    rw [List.any_eq_false]
    intro r hr hs
    unfold looseL at hr
    obtain ⟨g, hg, rfl⟩ := List.mem_map.1 hr
    obtain ⟨hg1, hg2⟩ := List.mem_filter.1 hg
    simp only [sameRf, rfOf, Bool.and_eq_true, beq_iff_eq] at hs
    have := fn_once h hf hg1 hs.1 hs.2
    subst this
    rw [hl] at hg2
    cases hg2

theorem funQ_eq {d : Nat} {ms : List Md} {m : Md} (h : mdOk d m = true) {f : Fn'} (hf : f ∈ m.funs) : looseQ m d f ++ callQ ms m d f = funP ms m d f := by
  have hc := mdOk_clauses h f hf
  have h1 : callQ ms m d f = (onceS [] ((bodiesOf f.clauses).flatMap (codesX ms m d))).map fun c => ⟨m.name, f.name, f.arity, c⟩ := by
    unfold callQ
    have := st_fold ms m f.name f.arity (f.clauses.flatMap fun c => c.2.flatMap (preX d)) []
    rw [List.map_nil] at this
    rw [this, bodies_pre, List.flatMap_assoc]
    rw [flatMap_same (f := fun y => (preX d y).flatMap (callL ms m)) (g := codesX ms m d) (fun y hy => by
      unfold bodiesOf at hy
      obtain ⟨c, hcm, hy⟩ := List.mem_flatMap.1 hy
      exact pre_codes ms m d y false _ ((hc c hcm).2 y hy))]
  have h2 : looseQ m d f = (lsL (looseF d f)).map fun c => ⟨m.name, f.name, f.arity, c⟩ := by
    unfold looseQ lsL
    rw [loose_any h hf]
    cases looseF d f <;> rfl
  have h3 : funC ms m d f = lsL (looseF d f) ++ onceS [] ((bodiesOf f.clauses).flatMap (codesX ms m d)) := by
    unfold funC
    rw [foldC_once]
    have h4 : ∀ c ∈ (bodiesOf f.clauses).flatMap (codesX ms m d), hasS (lsL (looseF d f)) c = false := by
      intro c hc
      obtain ⟨y, _, hy⟩ := List.mem_flatMap.1 hc
      unfold lsL
      split
      · exact codesX_ahead ms m d y c hy
      · rfl
    have := onceS_ahead (lsL (looseF d f)) _ [] h4
    rwa [List.append_nil] at this
  unfold funP
  rw [h3, h1, h2, List.map_append]

theorem modQ_eq {d : Nat} {ms : List Md} {m : Md} (h : mdOk d m = true) : modQ ms d m = modP ms d m := by
  unfold modQ modP
  rw [flatMap_same (fun f hf => funQ_eq h hf)]

theorem allQ_eq {d : Nat} {ms : List Md} (h : pgOk d ms = true) : ms.flatMap (modQ ms d) = ms.flatMap (modP ms d) :=
  flatMap_same (fun m hm => modQ_eq (pgOk_mem h m hm))

/-! The list is short. -/
theorem flat_lenW {α β : Type} (f : α → List β) (g : α → Nat) : ∀ (l : List α), (∀ x ∈ l, (f x).length ≤ 1 + g x) → (l.flatMap f).length ≤ wtS g l
  | [], _ => by simp [wtS]
  | x :: l, h => by
    have h1 := flat_lenW f g l (fun y hy => h y (List.mem_cons_of_mem _ hy))
    have h2 := h x List.mem_cons_self
    rw [List.flatMap_cons, List.length_append]
    unfold wtS at *
    simp only [List.length_cons, List.map_cons, List.sum_cons]
    omega
theorem preX_len : ∀ (d : Nat) (x : Ex), (preX d x).length ≤ 1 + wtEx d x
  | 0, x => by simp [preX]
  | d + 1, x => by
    have h1 := flat_lenW (preX d) (wtEx d) x.kids (fun y _ => preX_len d y)
    have h2 := flat_lenW (fun c : Cl => c.1.flatMap (preX d) ++ c.2.flatMap (preX d)) (wtCl (wtEx d)) x.clauses (fun c _ => by
      have h3 := flat_lenW (preX d) (wtEx d) c.1 (fun y _ => preX_len d y)
      have h4 := flat_lenW (preX d) (wtEx d) c.2 (fun y _ => preX_len d y)
      unfold wtCl
      rw [List.length_append]
      omega)
    simp only [preX, wtEx, List.length_cons, List.length_append]
    omega
theorem stK_len (fs : ByteArray) (fn : Int) (ms : List Md) (m : Md) (s : List Pb) (x : Ex) : (stK fs fn ms m s x).length ≤ s.length + 1 := by
  unfold stK stC
  split
  · split
    · simp
    · omega
  · omega
theorem runs_of (fs : ByteArray) (fn : Int) (ms : List Md) (m : Md) : ∀ (L : List Ex) (s : List Pb), s.length + L.length ≤ 1048576 → Runs (fun (s : List Pb) _ => s.length + 1 ≤ 1048576) (stK fs fn ms m) s L
  | [], s, _ => trivial
  | x :: L, s, h => by
    simp only [List.length_cons] at h
    have := stK_len fs fn ms m s x
    exact ⟨by omega, runs_of fs fn ms m L _ (by omega)⟩
theorem wt_mem {α : Type} (f : α → Nat) {l : List α} {x : α} (h : x ∈ l) : f x ≤ wtS f l := by
  obtain ⟨k, hk⟩ := List.mem_iff_getElem?.1 h
  have h1 := sum_take_succ f l k x hk
  have h2 := sum_take_le f l (k + 1)
  unfold wtS; omega
theorem runs_all {d : Nat} {ms : List Md} (hw : wtS (wtMd d) ms ≤ 1048576) : ∀ m ∈ ms, ∀ f ∈ m.funs, Runs (fun (s : List Pb) _ => s.length + 1 ≤ 1048576) (stK f.name f.arity ms m) [] (f.clauses.flatMap fun c => c.2.flatMap (preX d)) := by
  intro m hm f hf
  refine runs_of _ _ _ _ _ _ ?_
  have h1 := wt_mem (wtMd d) hm
  have h2 := wt_mem (wtFn d) hf
  have h3 := flat_lenW (fun c : Cl => c.2.flatMap (preX d)) (wtCl (wtEx d)) f.clauses (fun c _ => by
    have h4 := flat_lenW (preX d) (wtEx d) c.2 (fun y _ => preX_len d y)
    unfold wtCl
    omega)
  have h5 : wtMd d m = m.name.size + wtS wtRf m.exports + wtS (wtFn d) m.funs := rfl
  have h6 : wtFn d f = f.name.size + wtS (wtCl (wtEx d)) f.clauses := rfl
  rw [List.length_nil]
  omega
end Go.Proofs.YtigfmdfgioccjaaGreatDoor
/-
  Check and Good of both sides.
-/
namespace Go.Proofs.YtigfmdfgioccjaaGreatDoor
open Go.ChangeShapes Go.WideShapes Go.ChangeAt Go.RowKit
set_option linter.unusedVariables false
set_option maxRecDepth 100000

set_option maxHeartbeats 8000000 in
/-- THE PROGRAM's Check. -/
theorem implCheck_any (d : Nat) (w : World) (v : Value) (ms : List Md) (hT : Tabs w) (h : Rows w All 3 (HMd w All d) v ms) (hw : wtS (wtMd d) ms ≤ 1048576) :
    Calls Tryz.prog 8 #[v] w fun e w' => ∃ u, e = .returned u ∧ OwnP w' w.heap.size u (checkP d ms) ∧ Below w.heap.size w w' := by
  have HTAB : Hid (Tabs w) := hT
  have HMS : Hid (∀ w', Below w.heap.size w w' → Rows w' All 3 (HMd w' All d) v ms) := fun w' hw => h.mono (SameOn.of_below hw) (fun _ h => h) (fun _ _ _ h => h.mono (SameOn.of_below hw) (fun _ h => h))
  have HWM : Hid (∀ m ∈ ms, wtMd d m ≤ 1048576) := fun m hm => Nat.le_trans (wt_mem (wtMd d) hm) hw
  have HRUN : Hid (∀ m ∈ ms, ∀ f ∈ m.funs, Runs (fun (s : List Pb) _ => s.length + 1 ≤ 1048576) (stK f.name f.arity ms m) [] (f.clauses.flatMap fun c => c.2.flatMap (preX d))) := runs_all hw
  have HLEN : Hid ((ms.flatMap (modP ms d)).length ≤ 1048576) := Nat.le_trans (allP_len ms ms d) hw
  have HO0 : Hid (Rows w All 3 (HMd w All d) v ms) := h
  obtain ⟨p, cap, rfl, -⟩ := h
  clear hT hw
  go_enter Tryz.func8, Tryz.ntmps8
  go_wp2_with fail
  refine (implProgramOk_any d _ _ ms HTAB.out HO0.out).mono ?_
  rintro e w1 ⟨rfl, hb1⟩
  have HB1 : Hid (Below w.heap.size w w1) := hb1
  clear hb1
  cases hG : pgOk d ms with
  | false =>
    have HC : Hid (checkP d ms = []) := by show _ = _; unfold checkP; rw [hG]; rfl
    go_wp2_with fail
    have ho := (OwnG.fresh (w := w1) (e := 47) (c := 4) (R := HPb)).base (B' := w.heap.size) HB1.out.size
    go_ret
    exact ⟨_, rfl, by rw [HC.out]; exact ho, HB1.out.alloc HB1.out.size _⟩
  | true =>
    have HC : Hid (checkP d ms = ms.flatMap (modQ ms d)) := by show _ = _; unfold checkP; rw [if_pos hG, allQ_eq hG]
    have HLQ : Hid ((ms.flatMap (modQ ms d)).length ≤ 1048576) := by show _ ≤ _; rw [allQ_eq hG]; exact HLEN.out
    go_wp2_with fail
    refine (problems_any d _ _ ms (HTAB.out.below HB1.out) (HMS.out _ HB1.out) HWM.out HLQ.out HRUN.out).mono ?_
    rintro e w2 ⟨u2, rfl, ho2, hb2⟩
    have HO2 : Hid (OwnP w2 w1.heap.size u2 (ms.flatMap (modQ ms d))) := ho2
    have HB2 : Hid (Below w.heap.size w w2) := HB1.out.trans (hb2.mono HB1.out.size)
    clear ho2 hb2
    go_wp2_with fail
    go_ret
    exact ⟨_, rfl, by rw [HC.out]; exact HO2.out.base HB1.out.size, HB2.out⟩

def goodB (d : Nat) (ms : List Md) : Bool := pgOk d ms && (checkP d ms).isEmpty

set_option maxHeartbeats 8000000 in
/-- THE PROGRAM's Good. -/
theorem implGood_any (d : Nat) (w : World) (v : Value) (ms : List Md) (hT : Tabs w) (h : Rows w All 3 (HMd w All d) v ms) (hw : wtS (wtMd d) ms ≤ 1048576) :
    Calls Tryz.prog 15 #[v] w fun e w' => e = .returned (.bool (goodB d ms)) ∧ Below w.heap.size w w' := by
  have HTAB : Hid (Tabs w) := hT
  have HMS : Hid (∀ w', Below w.heap.size w w' → Rows w' All 3 (HMd w' All d) v ms) := fun w' hw => h.mono (SameOn.of_below hw) (fun _ h => h) (fun _ _ _ h => h.mono (SameOn.of_below hw) (fun _ h => h))
  have HWM : Hid (∀ m ∈ ms, wtMd d m ≤ 1048576) := fun m hm => Nat.le_trans (wt_mem (wtMd d) hm) hw
  have HRUN : Hid (∀ m ∈ ms, ∀ f ∈ m.funs, Runs (fun (s : List Pb) _ => s.length + 1 ≤ 1048576) (stK f.name f.arity ms m) [] (f.clauses.flatMap fun c => c.2.flatMap (preX d))) := runs_all hw
  have HLEN : Hid ((ms.flatMap (modP ms d)).length ≤ 1048576) := Nat.le_trans (allP_len ms ms d) hw
  have HO0 : Hid (Rows w All 3 (HMd w All d) v ms) := h
  obtain ⟨p, cap, rfl, -⟩ := h
  clear hT hw
  go_enter Tryz.func15, Tryz.ntmps15
  go_wp2_with fail
  refine (implProgramOk_any d _ _ ms HTAB.out HO0.out).mono ?_
  rintro e w1 ⟨rfl, hb1⟩
  have HB1 : Hid (Below w.heap.size w w1) := hb1
  clear hb1
  cases hG : pgOk d ms with
  | false =>
    have HC : Hid (goodB d ms = false) := by show _ = _; unfold goodB; rw [hG]; rfl
    go_wp2_with fail
    go_ret
    exact ⟨by rw [HC.out]; rfl, HB1.out⟩
  | true =>
    have HC : Hid (goodB d ms = (ms.flatMap (modQ ms d)).isEmpty) := by show _ = _; unfold goodB checkP; rw [hG, if_pos rfl, allQ_eq hG, Bool.true_and]
    have HLQ : Hid ((ms.flatMap (modQ ms d)).length ≤ 1048576) := by show _ ≤ _; rw [allQ_eq hG]; exact HLEN.out
    go_wp2_with fail
    refine (problems_any d _ _ ms (HTAB.out.below HB1.out) (HMS.out _ HB1.out) HWM.out HLQ.out HRUN.out).mono ?_
    rintro e w2 ⟨u2, rfl, ho2, hb2⟩
    obtain ⟨p2, q2, rfl, hm2⟩ := ho2.slice
    have HB2 : Hid (Below w.heap.size w w2) := HB1.out.trans (hb2.mono HB1.out.size)
    clear ho2 hb2
    cases hL : ms.flatMap (modQ ms d) with
    | nil =>
      have HC2 : Hid (goodB d ms = true) := by show _ = _; rw [HC.out, hL]; rfl
      rw [hL, List.length_nil] at *
      go_wp2_with fail
      go_ret
      exact ⟨by rw [HC2.out]; rfl, HB2.out⟩
    | cons q l =>
      have HC2 : Hid (goodB d ms = false) := by show _ = _; rw [HC.out, hL]; rfl
      have hz : ¬ (((ms.flatMap (modQ ms d)).length : Nat) : Int) = 0 := by rw [hL, List.length_cons]; omega
      generalize (ms.flatMap (modQ ms d)).length = n2 at *
      clear hL HC
      go_wp2_with fail
      go_ret
      exact ⟨by rw [HC2.out]; first | rfl | simp, HB2.out⟩

set_option maxHeartbeats 8000000 in
/-- THE SPECIFICATION's Good. -/
theorem specGood_any (d : Nat) (w : World) (v : Value) (ms : List Md) (h : Rows w All 3 (HMd w All d) v ms) (hw : wtS (wtMd d) ms ≤ 1048576) :
    Calls Tryz.prog 14 #[v] w fun e w' => e = .returned (.bool (goodB d ms)) ∧ Below w.heap.size w w' := by
  have HMS : Hid (∀ w', Below w.heap.size w w' → Rows w' All 3 (HMd w' All d) v ms) := fun w' hw => h.mono (SameOn.of_below hw) (fun _ h => h) (fun _ _ _ h => h.mono (SameOn.of_below hw) (fun _ h => h))
  have HO0 : Hid (Rows w All 3 (HMd w All d) v ms) := h
  have HWW : Hid (wtS (wtMd d) ms ≤ 1048576) := hw
  obtain ⟨p, cap, rfl, -⟩ := h
  clear hw
  go_enter Tryz.func14, Tryz.ntmps14
  go_wp2_with fail
  refine (specProgramOk_any d _ _ ms HO0.out).mono ?_
  rintro e w1 ⟨rfl, hb1⟩
  have HB1 : Hid (Below w.heap.size w w1) := hb1
  clear hb1
  cases hG : pgOk d ms with
  | false =>
    have HC : Hid (goodB d ms = false) := by show _ = _; unfold goodB; rw [hG]; rfl
    go_wp2_with fail
    go_ret
    exact ⟨by rw [HC.out]; rfl, HB1.out⟩
  | true =>
    have HC : Hid (goodB d ms = (checkP d ms).isEmpty) := by show _ = _; unfold goodB; rw [hG, Bool.true_and]
    go_wp2_with fail
    refine (specCheck_any d _ _ ms (HMS.out _ HB1.out) HWW.out).mono ?_
    rintro e w2 ⟨u2, rfl, ho2, hb2⟩
    obtain ⟨p2, q2, rfl, hm2⟩ := ho2.slice
    have HB2 : Hid (Below w.heap.size w w2) := HB1.out.trans (hb2.mono HB1.out.size)
    clear ho2 hb2
    cases hL : checkP d ms with
    | nil =>
      have HC2 : Hid (goodB d ms = true) := by show _ = _; rw [HC.out, hL]; rfl
      rw [hL, List.length_nil] at *
      go_wp2_with fail
      go_ret
      exact ⟨by rw [HC2.out]; rfl, HB2.out⟩
    | cons q l =>
      have HC2 : Hid (goodB d ms = false) := by show _ = _; rw [HC.out, hL]; rfl
      have hz : ¬ (((checkP d ms).length : Nat) : Int) = 0 := by rw [hL, List.length_cons]; omega
      generalize (checkP d ms).length = n2 at *
      clear hL HC
      go_wp2_with fail
      go_ret
      exact ⟨by rw [HC2.out]; first | rfl | simp, HB2.out⟩
end Go.Proofs.YtigfmdfgioccjaaGreatDoor
