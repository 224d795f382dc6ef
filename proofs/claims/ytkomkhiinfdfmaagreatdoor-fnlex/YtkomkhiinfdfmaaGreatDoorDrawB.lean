/-
  More of the specification's own draws: one of some texts or numbers.
-/
import Derived.Test.YtkomkhiinfdfmaaGreatDoorDrawA
import Derived.Test.YtkomkhiinfdfmaaGreatDoorStrRow
namespace Go.Proofs.YtkomkhiinfdfmaaGreatDoor
open Go.ChangeShapes Go.WideShapes Go.ChangeAt Go.RowKit
set_option linter.unusedVariables false

/-- A row of texts that is not the cursor's block. -/
abbrev StrP (w : World) (p : Nat) (v : Value) (xs : List ByteArray) : Prop := Rows w (fun g => g ≠ p) 1 HStr v xs

theorem StrP.at {w : World} {p : Nat} {v : Value} {xs : List ByteArray} (h : StrP w p v xs) : ∃ sp cap, v = .slice sp xs.length cap ∧ xs.length ≤ cap ∧ cap ≤ maxLen ∧ (∀ k s, xs[k]? = some s → ∃ g off, sp = some ⟨g, off, none⟩ ∧ w.cell? ⟨g, off + k, none⟩ = some (.string s) ∧ okS s) := by
  obtain ⟨sp, cap, rfl, hl, hm, hrow⟩ := h
  refine ⟨sp, cap, rfl, hl, hm, fun k s hk => ?_⟩
  obtain ⟨g, off, e, _, hg, hat⟩ := hrow (by intro e; rw [e] at hk; simp at hk)
  obtain ⟨cs, _, hcs, rfl, hb⟩ := hat k s hk
  have := hcs 0 (by decide)
  simp only [Nat.mul_one, Nat.add_zero, List.getElem?_cons_zero] at this
  exact ⟨g, off, e, this, hb⟩

set_option maxRecDepth 100000 in
theorem l01Pick_any (p : Nat) (v : Value) (xs : List ByteArray) (w : World) (hc : Cur w p) (hx : xs.length ≤ 100) (hne : 0 < xs.length) (hr : StrP w p v xs) :
    Calls Tryz.prog 46 #[.pointer (some ⟨p, 0, none⟩), v] w fun e w' => ∃ s ∈ xs, e = .returned (.string s) ∧ Cur w' p ∧ Off [p] w w' := by
  have HR : Hid (StrP w p v xs) := hr
  obtain ⟨sp, cap, rfl, hl, hm, hat⟩ := StrP.at hr
  obtain ⟨g, off, rfl, _⟩ := hat 0 _ (List.getElem?_eq_getElem hne)
  clear hat hr
  go_enter Tryz.func46, Tryz.ntmps46
  go_wp2_with fail
  refine (l01Below_any p xs.length _ hc hne (by omega)).mono ?_
  rintro e w1 ⟨x, hx, rfl, hc', ho⟩
  obtain ⟨s, hs⟩ : ∃ s, xs[x]? = some s := ⟨_, List.getElem?_eq_getElem hx⟩
  obtain ⟨sp', cap', e1, _, _, hat⟩ := StrP.at (HR.out.off ho)
  obtain ⟨g', off', e2, hcell, _⟩ := hat x s hs
  obtain ⟨rfl, rfl⟩ : g = g' ∧ off = off' := by subst e2; simp at e1; exact e1.1
  clear hat e1 e2
  go_wp2
  go_ret
  exact ⟨s, List.mem_of_getElem? hs, rfl, hc', ho⟩

def HInt (cs : List Value) (n : Int) : Prop := cs = [.int .i64 n]
theorem intP_at {w : World} {p : Nat} {v : Value} {xs : List Int} (h : Rows w (fun g => g ≠ p) 1 HInt v xs) : ∃ sp cap, v = .slice sp xs.length cap ∧ xs.length ≤ cap ∧ cap ≤ maxLen ∧ (∀ k s, xs[k]? = some s → ∃ g off, sp = some ⟨g, off, none⟩ ∧ w.cell? ⟨g, off + k, none⟩ = some (.int .i64 s)) := by
  obtain ⟨sp, cap, rfl, hl, hm, hrow⟩ := h
  refine ⟨sp, cap, rfl, hl, hm, fun k s hk => ?_⟩
  obtain ⟨g, off, e, _, hg, hat⟩ := hrow (by intro e; rw [e] at hk; simp at hk)
  obtain ⟨cs, _, hcs, rfl⟩ := hat k s hk
  have := hcs 0 (by decide)
  simp only [Nat.mul_one, Nat.add_zero, List.getElem?_cons_zero] at this
  exact ⟨g, off, e, this⟩
set_option maxRecDepth 100000 in
theorem l01PickInt_any (p : Nat) (v : Value) (xs : List Int) (w : World) (hc : Cur w p) (hx : xs.length ≤ 100) (hne : 0 < xs.length) (hr : Rows w (fun g => g ≠ p) 1 HInt v xs) :
    Calls Tryz.prog 50 #[.pointer (some ⟨p, 0, none⟩), v] w fun e w' => ∃ s ∈ xs, e = .returned (.int .i64 s) ∧ Cur w' p ∧ Off [p] w w' := by
  have HR : Hid (Rows w (fun g => g ≠ p) 1 HInt v xs) := hr
  obtain ⟨sp, cap, rfl, hl, hm, hat⟩ := intP_at hr
  obtain ⟨g, off, rfl, _⟩ := hat 0 _ (List.getElem?_eq_getElem hne)
  clear hat hr
  go_enter Tryz.func50, Tryz.ntmps50
  go_wp2_with fail
  refine (l01Below_any p xs.length _ hc hne (by omega)).mono ?_
  rintro e w1 ⟨x, hx, rfl, hc', ho⟩
  obtain ⟨s, hs⟩ : ∃ s, xs[x]? = some s := ⟨_, List.getElem?_eq_getElem hx⟩
  obtain ⟨sp', cap', e1, _, _, hat⟩ := intP_at (HR.out.off ho)
  obtain ⟨g', off', e2, hcell⟩ := hat x s hs
  obtain ⟨rfl, rfl⟩ : g = g' ∧ off = off' := by subst e2; simp at e1; exact e1.1
  clear hat e1 e2
  go_wp2
  go_ret
  exact ⟨s, List.mem_of_getElem? hs, rfl, hc', ho⟩

/-- A row of texts that is laid as it is written. -/
theorem strP_lit {w : World} {p : Nat} (xs : List ByteArray) (ho : ∀ x ∈ xs, okS x) (hp : p < w.heap.size) (hm : xs.length ≤ maxLen) :
    StrP (w.alloc (.cells (strs xs).toArray 9)) p (.slice (some ⟨w.heap.size, 0, none⟩) xs.length xs.length) xs := by
  refine ⟨_, _, rfl, Nat.le_refl _, hm, fun hne => ⟨w.heap.size, 0, rfl, by omega, ?_, fun i x hi => ⟨[.string x], rfl, fun j hj => ?_, rfl, ho x (List.mem_of_getElem? hi)⟩⟩⟩
  · exact (Blk.new (w := w)).lt
  · obtain rfl : j = 0 := by omega
    rw [show 0 + i * 1 + 0 = i by omega]
    exact (Blk.new (w := w)).cell i _ (by simp [strs, hi])

theorem Cur.next {w w' : World} {p : Nat} (h : Cur w p) (hb : Below w.heap.size w w') : Cur w' p := by
  obtain ⟨cv, xs, i, h, hb', hi, hx, hr⟩ := h
  exact ⟨cv, xs, i, h, hb'.next hb, hi, hx, Rows.mono hr ⟨hb.size, fun g _ hl => hb.block g hl⟩ (fun _ h => h) (fun _ _ _ h => h)⟩
theorem Cur.lt {w : World} {p : Nat} (h : Cur w p) : p < w.heap.size := by
  obtain ⟨cv, xs, i, h, hb', _⟩ := h
  exact hb'.lt
theorem Cur.alloc {w : World} {p : Nat} (h : Cur w p) (o : Obj) : Cur (w.alloc o) p := h.next ((Below.refl _ _).alloc (Nat.le_refl _) _)
theorem Below.offP {B p : Nat} {a b c : World} (h : Below B a b) (k : Off [p] b c) (hp : B ≤ p) (hB : B ≤ b.heap.size) : Below B a c := h.trans (k.below (by simpa using hp) hB)
/-- A row that the walk has laid. -/
theorem strP_new {w : World} {p : Nat} (xs : List ByteArray) (hc : Cur w p) (ho : ∀ x ∈ xs, x.size ≤ 100) (hm : xs.length ≤ 100) :
    StrP (w.alloc (.cells (strs xs).toArray 9)) p (.slice (some ⟨w.heap.size, 0, none⟩) xs.length xs.length) xs :=
  strP_lit xs (fun x hx => Nat.le_trans (ho x hx) (by unfold maxLen; omega)) hc.lt (by unfold maxLen; omega)
theorem okS_small {s : ByteArray} (h : s.size ≤ 1000000) : okS s := Nat.le_trans h (by unfold maxLen; omega)
end Go.Proofs.YtkomkhiinfdfmaaGreatDoor
