/-
  What the program's kindOf answers: whether a text is one of the language's own words, and its kind; the map is made at the first call.
-/
import Derived.Test.YtkomkhiinfdfmaaGreatDoorFill
namespace Go.Proofs.YtkomkhiinfdfmaaGreatDoor
open Go.ChangeShapes Go.WideShapes Go.ChangeAt Go.RowKit Go.Maps Go.WideMaps Go.WideElems
set_option linter.unusedVariables false
set_option maxRecDepth 100000

theorem ScM.cells {w : World} {C : Nat} {s : ByteArray} {i : Nat} {line d m : Int} {V : Option Nat} (h : ScM w C s i line d m V) :
    w.cell? ⟨C, 3, none⟩ = some (.int .u32 d) ∧ w.cell? ⟨C, 4, none⟩ = some (.int .i32 m) := by
  unfold ScM at h
  refine ⟨?_, ?_⟩ <;> (rw [cell_of_row w C _ _ _ (0, 0) h]; rfl)
theorem ScM.done_ {w : World} {C : Nat} {s : ByteArray} {i : Nat} {line d m : Int} {V : Option Nat} (h : ScM w C s i line d m V) (d' : Int) : ScM (w.setCell ⟨C, 3, none⟩ (.int .u32 d')) C s i line d' m V :=
  (heap_setCell_same w C 3 _ _ _ h).trans rfl
theorem ScM.lock_ {w : World} {C : Nat} {s : ByteArray} {i : Nat} {line d m : Int} {V : Option Nat} (h : ScM w C s i line d m V) (m' : Int) : ScM (w.setCell ⟨C, 4, none⟩ (.int .i32 m')) C s i line d m' V :=
  (heap_setCell_same w C 4 _ _ _ h).trans rfl
theorem ScM.drew {w : World} {C : Nat} {s : ByteArray} {i : Nat} {line d m : Int} {V : Option Nat} (h : ScM w C s i line d m V) : ScM w.drew C s i line d m V := h

/-- The vocabulary's map, as fill makes it. -/
def VocAt (w : World) (bm : Nat) : Prop := w.ownsMap Tryz.prog 9 (plainElem (H := Unit) Tryz.prog 3) bm 23 (vocD vocab)
/-- What the program's own tables hold. -/
def TabsAt (w : World) : Prop := KeysAt' w ∧ SignsAt w

theorem tabs_grown {w w' : World} {C : Nat} (h : TabsAt w) (g : w.grownBy w' (some C)) (h0 : C ≠ 0) (h2 : C ≠ 3) : TabsAt w' := by
  refine ⟨fun k hk => ?_, fun k hk => ?_⟩
  · have hl := World.block_lt_of_cell? w ⟨0, k, none⟩ (h.1 k hk)
    exact (World.cell?_of_block (a := ⟨0, k, none⟩) (g.block _ hl (by simp; exact Ne.symm h0))).trans (h.1 k hk)
  · have hl := World.block_lt_of_cell? w ⟨3, k, none⟩ (h.2 k hk)
    exact (World.cell?_of_block (a := ⟨3, k, none⟩) (g.block _ hl (by simp; exact Ne.symm h2))).trans (h.2 k hk)

set_option maxHeartbeats 4000000 in
theorem slow_any (C : Nat) (s : ByteArray) (i : Nat) (line : Int) (w : World) (h : ScM w C s i line 0 0 none) (hT : TabsAt w) (hC0 : C ≠ 0) (hC2 : C ≠ 3) :
    Calls Tryz.prog 149 #[.pointer (some ⟨C, 3, none⟩), .func (.func 133) #[.pointer (some ⟨C, 3, none⟩)] #[]] w fun e w' => e = .returned (.tuple #[]) ∧ ∃ bm, ScM w' C s i line 1 0 (some bm) ∧ VocAt w' bm ∧ w.heap.size ≤ bm ∧ w.grownBy w' (some C) := by
  obtain ⟨c3, c4⟩ := h.cells
  have f4 := h.frozen 4
  have f3 := h.frozen 3
  have h1 : ScM (w.setCell ⟨C, 4, none⟩ (.int .i32 1)) C s i line 0 1 none := h.lock_ 1
  have g1 : w.grownBy (w.setCell ⟨C, 4, none⟩ (.int .i32 1)) (some C) := grown_set _ _ _ _
  have t1 := tabs_grown hT g1 hC0 hC2
  have hl := run_call_load (P := Tryz.prog) Tryz.func165 (by kernel_rfl) (by kernel_rfl) (by kernel_rfl) .u32 (by kernel_rfl) (w := w.setCell ⟨C, 4, none⟩ (.int .i32 1)) (a := ⟨C, 3, none⟩) (x := 0) h1.cells.1
  have hnot : ∀ (x : Bool) (w : World), (Op.unary .not (.bool x)).run Tryz.prog w = .ok (.bool (!x)) w := fun _ _ => rfl
  have H1 : Hid (ScM (w.setCell ⟨C, 4, none⟩ (.int .i32 1)) C s i line 0 1 none) := h1
  have G1 : Hid (w.grownBy (w.setCell ⟨C, 4, none⟩ (.int .i32 1)) (some C)) := g1
  have T1 : Hid (TabsAt (w.setCell ⟨C, 4, none⟩ (.int .i32 1))) := t1
  clear h h1 g1 t1 hT
  go_enter_defers Tryz.func149, Tryz.ntmps149
  go_wp2_with (first
    | (go_at_call 166; refine (lock_free ⟨C, 4, none⟩ _ (by go_simp) (by go_simp)).mono ?_; rintro e w' ⟨rfl, rfl⟩)
    | (go_at_call 148; go_in)
    | (go_at_call 133; refine (fill_any C s i line 0 1 _ H1.out T1.out.1 T1.out.2 hC0 hC2).mono ?_; rintro e w1 ⟨rfl, bm, hsc, hmap, hbm, hgr⟩))
  have d1 : ScM (w1.drew.setCell ⟨C, 3, none⟩ (.int .u32 1)) C s i line 1 1 (some bm) := hsc.drew.done_ 1
  have d2 : ScM ((w1.drew.setCell ⟨C, 3, none⟩ (.int .u32 1)).setCell ⟨C, 4, none⟩ (.int .i32 0)) C s i line 1 0 (some bm) := d1.lock_ 0
  have hCbm : bm ≠ C := by have := H1.out.lt; omega
  have m2 : VocAt ((w1.drew.setCell ⟨C, 3, none⟩ (.int .u32 1)).setCell ⟨C, 4, none⟩ (.int .i32 0)) bm := ((hmap.drew).setCell (a := ⟨C, 3, none⟩) hCbm _).setCell (a := ⟨C, 4, none⟩) hCbm _
  have g2 : w.grownBy ((w1.drew.setCell ⟨C, 3, none⟩ (.int .u32 1)).setCell ⟨C, 4, none⟩ (.int .i32 0)) (some C) := grownBy_transT G1.out (grownBy_transT (grown_drew hgr) (grownBy_transT (grown_set _ _ _ _) (grown_set _ _ _ _)))
  have hbm' : w.heap.size ≤ bm := by simpa using hbm
  refine leaves_cons (f := 168) (args := #[.pointer (some ⟨C, 3, none⟩), .bool true]) (by simp) (by simp [go_sem]) ?_
  refine (store_deferred ⟨C, 3, none⟩ (.int .u32 0) .returning _ hsc.cells.1 (hsc.frozen 3)).mono ?_
  rintro e u' w'' ⟨rfl, rfl, rfl⟩
  refine leaves_cons (f := 167) (args := #[.pointer (some ⟨C, 4, none⟩)]) (by simp [settle]) (by simp [go_sem]) ?_
  refine (unlock_deferred ⟨C, 4, none⟩ _ _ d1.cells.2 (d1.frozen 4)).mono ?_
  rintro e u' w'' ⟨rfl, rfl, rfl⟩
  simp only [Leaves, settle, results, Tryz.results149]
  refine ⟨.tuple #[], ?_, rfl, bm, d2, m2, hbm', g2⟩
  first | rfl | simp

set_option maxHeartbeats 4000000 in
theorem do_first (C : Nat) (s : ByteArray) (i : Nat) (line : Int) (w : World) (h : ScM w C s i line 0 0 none) (hT : TabsAt w) (hC0 : C ≠ 0) (hC2 : C ≠ 3) :
    Calls Tryz.prog 132 #[.pointer (some ⟨C, 3, none⟩), .func (.func 133) #[.pointer (some ⟨C, 3, none⟩)] #[]] w fun e w' => e = .returned (.tuple #[]) ∧ ∃ bm, ScM w' C s i line 1 0 (some bm) ∧ VocAt w' bm ∧ w.heap.size ≤ bm ∧ w.grownBy w' (some C) := by
  have hl := run_call_load (P := Tryz.prog) Tryz.func165 (by kernel_rfl) (by kernel_rfl) (by kernel_rfl) .u32 (by kernel_rfl) h.cells.1
  have hnot : ∀ (x : Bool) (w : World), (Op.unary .not (.bool x)).run Tryz.prog w = .ok (.bool (!x)) w := fun _ _ => rfl
  have H : Hid (ScM w C s i line 0 0 none) := h
  have T : Hid (TabsAt w) := hT
  clear h hT
  go_enter Tryz.func132, Tryz.ntmps132
  go_wp2_with (first
    | (go_at_call 149; refine (slow_any C s i line _ H.out T.out hC0 hC2).mono ?_; rintro e w1 ⟨rfl, bm, hsc, hmap, hbm, hgr⟩)
    | (go_at_call 148; go_in))
  go_end0
  exact ⟨rfl, bm, hsc, hmap, hbm, hgr⟩

/-- The kind that the vocabulary has of a text: 3, or none. -/
def vocB (x : ByteArray) : Bool := vocab.contains x.data.toList
def vocK (x : ByteArray) : Int := if vocB x = true then 3 else 0

theorem lookup_voc {w : World} {bm : Nat} (h : VocAt w bm) (x : ByteArray) (hx : x.size ≤ maxLen) :
    Sem.run Tryz.prog (Instr.lookup 87 (.map (some bm)) (.string x) true) w = .ok (.tuple #[.int .i64 (vocK x), .bool (vocB x)]) w := by
  have hk := keyOf_string_mk (s := x) Tryz.underlying9 hx
  have hv := vocD_has 23 vocab (by decide) x.data.toList
  obtain ⟨v, ps, hrun, hv'⟩ := World.ownsMap.look_ok (t := 87) (e := 3) h law9 Tryz.underlying87 (zeroE w) (zd := .lit (.int .i64 0)) (zp := []) (plainElem_int Tryz.underlying3 (by decide)) hk
  rw [hv.2] at hv'
  obtain ⟨c, rfl, hc, _⟩ := plainElem_int_inv Tryz.underlying3 hv'
  have e : c = vocK x := by
    have := congrArg Prod.fst hc
    simp only [DataW.lit.injEq, Lit.int.injEq, true_and] at this
    rw [← this]; rfl
  rw [hv.1] at hrun
  rw [e] at hrun
  exact hrun

/-- The state of the vocabulary: not yet made, or made. -/
def VocState (w : World) (C : Nat) (s : ByteArray) (i : Nat) (line : Int) : Prop := ScM w C s i line 0 0 none ∨ ∃ bm, bm ≠ C ∧ ScM w C s i line 1 0 (some bm) ∧ VocAt w bm

set_option maxHeartbeats 4000000 in
theorem kindOf_any (C : Nat) (s : ByteArray) (i : Nat) (line : Int) (x : ByteArray) (w : World) (hx : x.size ≤ maxLen) (h : VocState w C s i line) (hT : TabsAt w) (hC0 : C ≠ 0) (hC2 : C ≠ 3) :
    Calls Tryz.prog 114 #[.pointer (some ⟨C, 3, none⟩), .string x] w fun e w' => e = .returned (.tuple #[.int .i64 (vocK x), .bool (vocB x)]) ∧ VocState w' C s i line ∧ w.grownBy w' (some C) := by
  have hmf : ∀ (fn : Fn) (first cap : Array Value) (w : World), (Instr.makeFunc fn first cap).run Tryz.prog w = .ok (.func fn first cap) w := fun _ _ _ _ => rfl
  rcases h with h | ⟨bm, hne, h, hm⟩
  · have H : Hid (ScM w C s i line 0 0 none) := h
    have T : Hid (TabsAt w) := hT
    have hlt := h.lt
    clear h hT
    go_enter Tryz.func114, Tryz.ntmps114
    go_wp2_with fail
    refine (do_first C s i line _ H.out T.out hC0 hC2).mono ?_
    rintro e w1 ⟨rfl, bm, hsc, hmap, hbm, hgr⟩
    have c6 := hsc.cell6
    have hlk := lookup_voc hmap x hx
    have HS : Hid (ScM w1 C s i line 1 0 (some bm)) := hsc
    have HM : Hid (VocAt w1 bm) := hmap
    have HG : Hid (w.grownBy w1 (some C)) := hgr
    clear hsc hmap hgr
    go_wp2
    go_ret2
    exact ⟨rfl, .inr ⟨bm, by omega, HS.out, HM.out⟩, HG.out⟩
  · have c3 := h.cells.1
    have c6 := h.cell6
    have hlk := lookup_voc hm x hx
    have HS : Hid (ScM w C s i line 1 0 (some bm)) := h
    have HM : Hid (VocAt w bm) := hm
    clear h hm hT
    go_enter Tryz.func114, Tryz.ntmps114
    go_wp2_with (go_at_call 132; go_must (refine (do_done ⟨C, 3, none⟩ 1 (by decide) _ _ c3).mono ?_; rintro e w' ⟨rfl, rfl⟩))
    go_ret2
    exact ⟨rfl, .inr ⟨bm, hne, HS.out, HM.out⟩, World.grownBy.refl _ _⟩
end Go.Proofs.YtkomkhiinfdfmaaGreatDoor
