/-
  What the specification's own draws do: a cursor in memory (what is left of the code, and a number that is mixed on), the numbers and texts that are taken from it. Nothing but the cursor turns.
-/
import Derived.Test.YtkomkhiinfdfmaaGreatDoorOwn
import Derived.Deep.QuietTactic
import Derived.BigQuiet
import Derived.Deep.RegionWith
namespace Go.Proofs.YtkomkhiinfdfmaaGreatDoor
open Go.ChangeShapes Go.WideShapes Go.ChangeAt Go.RowKit
set_option linter.unusedVariables false

def HByte (cs : List Value) (b : Nat) : Prop := cs = [.int .u8 b] ∧ b ≤ 255

/-- The cursor at p. -/
def Cur (w : World) (p : Nat) : Prop := ∃ (cv : Value) (xs : List Nat) (i : Nat) (h : Int), Blk w p #[cv, .int .i64 i, .int .i64 h] 131 ∧ i ≤ xs.length ∧ xs.length ≤ 1048576 ∧ Rows w (fun g => g ≠ p) 1 HByte cv xs

theorem and_mask (x : Int) (m : Nat) (hm : m < 4611686018427387904) : ∃ y : Nat, y ≤ m ∧ bits .and .i64 x (m : Int) = (y : Int) := by
  have hle : (BitVec.ofInt 64 x &&& BitVec.ofInt 64 (m : Int)).toNat ≤ m := by
    rw [BitVec.toNat_and, BitVec.ofInt_natCast, BitVec.toNat_ofNat, Nat.mod_eq_of_lt (by omega)]
    exact Nat.and_le_right
  refine ⟨_, hle, ?_⟩
  show IntKind.i64.wrap ((BitVec.ofInt 64 x &&& BitVec.ofInt 64 (m : Int)).toNat : Int) = _
  rw [IntKind.wrap_i64]
  generalize (BitVec.ofInt 64 x &&& BitVec.ofInt 64 (m : Int)).toNat = y at hle ⊢
  omega

theorem Off.setCell {p : Nat} {w : World} {j : Nat} {v : Value} : Off [p] w (w.setCell ⟨p, j, none⟩ v) :=
  ⟨rfl, rfl, rfl, by rw [setCell_hs]; exact Nat.le_refl _, fun a ha hp => Below.heap_setCell _ _ _ _ (by simpa using hp)⟩
theorem Off.drew {fp : List Nat} {w : World} {k : Nat} : Off fp w (w.drewN k) := Off.of_below (below_drewN (Below.refl _ _) _)
theorem Rows.off {α : Type} {w w' : World} {p c : Nat} {R : List Value → α → Prop} {v : Value} {xs : List α} (h : Rows w (fun g => g ≠ p) c R v xs) (ho : Off [p] w w') : Rows w' (fun g => g ≠ p) c R v xs :=
  Rows.mono h ⟨ho.size, fun g hg hl => ho.block g hl (by simpa using hg)⟩ (fun _ h => h) (fun _ _ _ h => h)
theorem Blk.drew {w : World} {b k : Nat} {cs : Array Value} {t : TypeId} (h : Blk w b cs t) : Blk (w.drewN k) b cs t := h

theorem l01Byte_any (p : Nat) (w : World) (hc : Cur w p) :
    Calls Tryz.prog 85 #[.pointer (some ⟨p, 0, none⟩)] w fun e w' => ∃ x : Nat, x ≤ 255 ∧ e = .returned (.int .i64 x) ∧ Cur w' p ∧ Off [p] w w' := by
  obtain ⟨cv, xs, i, h, hb, hi, hx, hr⟩ := hc
  have HR : Hid (Rows w (fun g => g ≠ p) 1 HByte cv xs) := hr
  obtain ⟨sp, cap, rfl, hl, hm, hrow⟩ := hr
  have c2 := hb.cell 2 _ rfl
  have f2 := hb.frozen 2
  go_enter Tryz.func85, Tryz.ntmps85
  go_wp2
  generalize wrap64 (wrap64 (h * 6364136223846793005) + 1442695040888963407) = h1
  have hb1 : Blk (w.setCell ⟨p, 2, none⟩ (.int .i64 h1)) p #[.slice sp xs.length cap, .int .i64 i, .int .i64 h1] 131 := hb.same rfl
  have ho1 : Off [p] w (w.setCell ⟨p, 2, none⟩ (.int .i64 h1)) := Off.setCell
  clear c2 f2
  generalize hw1 : w.setCell ⟨p, 2, none⟩ (.int .i64 h1) = w1 at hb1 ho1 ⊢
  clear hw1
  have c2 := hb1.cell 2 _ rfl
  have f2 := hb1.frozen 2
  go_wp2
  go_quiet (fail)
  obtain ⟨x, hx1, ex⟩ := and_mask (bits BinOp.xor IntKind.i64 (h1 / 8589934592) (h1 / 35184372088832)) 255 (by decide)
  simp only [show ((255 : Nat) : Int) = 255 from rfl] at ex
  rw [ex]
  have hb2 : Blk (w1.drewN nq) p #[.slice sp xs.length cap, .int .i64 i, .int .i64 h1] 131 := hb1.drew
  have ho2 : Off [p] w (w1.drewN nq) := ho1.trans Off.drew
  have HR2 : Hid (Rows (w1.drewN nq) (fun g => g ≠ p) 1 HByte (.slice sp xs.length cap) xs) := HR.out.off ho2
  clear c2 f2 hb1
  generalize w1.drewN nq = w2 at hb2 ho2 HR2 ⊢
  have c0 := hb2.cell 0 _ rfl
  have c1 := hb2.cell 1 _ rfl
  have f1 := hb2.frozen 1
  go_wp2
  go_quiet (fail)
  have hb3 : Blk (w2.drewN nq) p #[.slice sp xs.length cap, .int .i64 i, .int .i64 h1] 131 := hb2.drew
  have ho3 : Off [p] w (w2.drewN nq) := ho2.trans Off.drew
  have HR3 : Hid (Rows (w2.drewN nq) (fun g => g ≠ p) 1 HByte (.slice sp xs.length cap) xs) := HR2.out.off Off.drew
  clear c0 c1 f1 hb2 ho2 HR2
  generalize w2.drewN nq = w3 at hb3 ho3 HR3 ⊢
  by_cases hlt : i < xs.length
  · obtain ⟨b, hbi⟩ : ∃ b, xs[i]? = some b := ⟨xs[i], List.getElem?_eq_getElem hlt⟩
    obtain ⟨sp', cap', e3, _, _, hrow3⟩ := HR3.out
    obtain ⟨g, off, e4, hg, hgl, hat⟩ := hrow3 (by intro e; rw [e] at hlt; simp at hlt)
    obtain ⟨rfl, -, rfl⟩ := (by simpa using e3 : sp = sp' ∧ True ∧ cap = cap')
    subst e4
    obtain ⟨cs, _, hcs, rfl, hb255⟩ := hat i b hbi
    have cb := hcs 0 (by decide)
    simp only [Nat.mul_one, Nat.add_zero, List.getElem?_cons_zero] at cb
    clear hrow hrow3 hat hcs e3
    have c0 := hb3.cell 0 _ rfl
    have c1 := hb3.cell 1 _ rfl
    have f1 := hb3.frozen 1
    go_wp2
    go_quiet (fail)
    obtain ⟨y, hy, ey⟩ := and_mask ((x : Int) + b) 255 (by decide)
    simp only [show ((255 : Nat) : Int) = 255 from rfl] at ey
    rw [ey]
    have hb4 : Blk (w3.drewN nq) p #[.slice (some ⟨g, off, none⟩) xs.length cap, .int .i64 i, .int .i64 h1] 131 := hb3.drew
    have ho4 : Off [p] w (w3.drewN nq) := ho3.trans Off.drew
    have HR4 : Hid (Rows (w3.drewN nq) (fun g => g ≠ p) 1 HByte (.slice (some ⟨g, off, none⟩) xs.length cap) xs) := HR3.out.off Off.drew
    clear c0 c1 f1 hb3 ho3 HR3 cb hgl
    generalize w3.drewN nq = w4 at hb4 ho4 HR4 ⊢
    have c1 := hb4.cell 1 _ rfl
    have f1 := hb4.frozen 1
    go_wp2
    go_ret
    refine ⟨y, hy, rfl, ⟨_, xs, i + 1, h1, hb4.same rfl, hlt, hx, HR4.out.off Off.setCell⟩, ho4.trans Off.setCell⟩
  · go_wp2
    go_ret
    exact ⟨x, hx1, rfl, ⟨_, xs, i, h1, hb3, hi, hx, HR3.out⟩, ho3⟩

theorem cur_new {w : World} {m : Nat} {cv : Value} {xs : List Nat} {h : Int} (hx : xs.length ≤ 1048576) (hr : Rows w All 1 HByte cv xs) : Cur ((w.drewN m).alloc (.cells #[cv, .int .i64 0, .int .i64 h] 131)) w.heap.size := by
  refine ⟨cv, xs, 0, h, Blk.new (w := w.drewN m), Nat.zero_le _, hx, ?_⟩
  obtain ⟨sp, cap, rfl, hl, hm, hrow⟩ := hr
  refine ⟨sp, cap, rfl, hl, hm, fun hne => ?_⟩
  obtain ⟨g, off, e, _, hg, hat⟩ := hrow hne
  have hB : Below (w.drewN m).heap.size (w.drewN m) ((w.drewN m).alloc (.cells #[.slice sp xs.length cap, .int .i64 0, .int .i64 h] 131)) := (Below.refl _ _).alloc (Nat.le_refl _) _
  refine ⟨g, off, e, by omega, Nat.lt_of_lt_of_le hg hB.size, fun i x hi => ?_⟩
  obtain ⟨cs, h1, h2, h3⟩ := hat i x hi
  refine ⟨cs, h1, fun j hj => ?_, h3⟩
  rw [← h2 j hj]
  exact hB.cell (p := ⟨g, _, none⟩) hg
set_option maxRecDepth 100000 in
theorem l01New_any (cv : Value) (xs : List Nat) (w : World) (hx : xs.length ≤ 1048576) (hr : Rows w All 1 HByte cv xs) :
    Calls Tryz.prog 42 #[cv] w fun e w' => ∃ p, e = .returned (.pointer (some ⟨p, 0, none⟩)) ∧ w.heap.size ≤ p ∧ Cur w' p ∧ Below w.heap.size w w' := by
  have HR : Hid (Rows w All 1 HByte cv xs) := hr
  obtain ⟨sp, cap, rfl, hl, hm, hrow⟩ := hr
  have HW : Hid (xs ≠ [] → ∃ g off, sp = some ⟨g, off, none⟩ ∧ g < w.heap.size ∧ ∀ (k b : Nat), xs[k]? = some b → w.cell? ⟨g, off + k, none⟩ = some (.int .u8 b) ∧ b ≤ 255) := fun hne => by
    obtain ⟨g, off, e, _, hg, hat⟩ := hrow hne
    refine ⟨g, off, e, hg, fun k b hk => ?_⟩
    obtain ⟨cs, _, hcs, rfl, hb⟩ := hat k b hk
    have := hcs 0 (by decide)
    simp only [Nat.mul_one, Nat.add_zero, List.getElem?_cons_zero] at this
    exact ⟨this, hb⟩
  clear hrow
  go_enter Tryz.func42, Tryz.ntmps42
  go_wp2
  go_loopw [3, 4] (fun hv iv wr => ∃ (k m h : Nat), k ≤ xs.length ∧ h ≤ 1073741823 ∧ hv = .int .i64 h ∧ iv = .int .i64 k ∧ wr = w.drewN m) (fun _ iv _ => xs.length - (intOf iv).toNat)
  case atStart => exact ⟨0, 0, 377377 + xs.length, Nat.zero_le _, by omega, by go_num, rfl, rfl⟩
  case round =>
    obtain ⟨k, m, h, hk, hh, rfl, rfl, rfl⟩ := hrel
    by_cases hlt : k < xs.length ∧ k < 4000
    · obtain ⟨hlt, h4⟩ := hlt
      obtain ⟨g, off, rfl, hg, hat⟩ := HW.out (by intro e; rw [e] at hlt; simp at hlt)
      obtain ⟨b, hbk⟩ : ∃ b, xs[k]? = some b := ⟨_, List.getElem?_eq_getElem hlt⟩
      obtain ⟨cb, hb⟩ := hat k b hbk
      clear hat hbk
      go_wp2
      obtain ⟨y, hy, ey⟩ := and_mask ((h : Int) * 131 + b + 7) 1073741823 (by decide)
      simp only [show ((1073741823 : Nat) : Int) = 1073741823 from rfl] at ey
      rw [ey]
      exact ⟨⟨k + 1, m, y, by omega, hy, rfl, by go_num, rfl⟩, by simp [intOf]; omega⟩
    · by_cases hlt' : k < xs.length
      · have h4 : ¬ k < 4000 := fun h => hlt ⟨hlt', h⟩
        go_wp2
        go_ret
        exact ⟨_, rfl, Nat.le_refl _, cur_new hx HR.out, (below_drewN (Below.refl _ _) m).alloc (Nat.le_refl _) _⟩
      · go_wp2
        go_ret
        exact ⟨_, rfl, Nat.le_refl _, cur_new hx HR.out, (below_drewN (Below.refl _ _) m).alloc (Nat.le_refl _) _⟩

theorem l01Below_any (p n : Nat) (w : World) (hc : Cur w p) (hn : 0 < n) (hn' : n ≤ 4194304) :
    Calls Tryz.prog 44 #[.pointer (some ⟨p, 0, none⟩), .int .i64 n] w fun e w' => ∃ x : Nat, x < n ∧ e = .returned (.int .i64 x) ∧ Cur w' p ∧ Off [p] w w' := by
  by_cases hs : n ≤ 256
  · go_enter Tryz.func44, Tryz.ntmps44
    go_wp2_with (go_at_call 85; go_must (refine (l01Byte_any p _ hc).mono ?_; rintro e w' ⟨x, hx, rfl, hc', ho⟩))
    go_ret
    exact ⟨x % n, Nat.mod_lt _ hn, by simp, hc', ho⟩
  · go_enter Tryz.func44, Tryz.ntmps44
    go_wp2_with fail
    refine (l01Byte_any p _ hc).mono ?_
    rintro e w1 ⟨x1, hx1, rfl, hc1, ho1⟩
    go_wp2_with fail
    refine (l01Byte_any p _ hc1).mono ?_
    rintro e w2 ⟨x2, hx2, rfl, hc2, ho2⟩
    go_wp2_with fail
    refine (l01Byte_any p _ hc2).mono ?_
    rintro e w3 ⟨x3, hx3, rfl, hc3, ho3⟩
    go_wp2_with fail
    refine (l01Byte_any p _ hc3).mono ?_
    rintro e w4 ⟨x4, hx4, rfl, hc4, ho4⟩
    go_wp2
    go_ret
    exact ⟨(x1 * 16777216 + x2 * 65536 + x3 * 256 + x4) % n, Nat.mod_lt _ hn, by simp, hc4, ((ho1.trans ho2).trans ho3).trans ho4⟩

theorem l01Once_any (p n : Nat) (w : World) (hc : Cur w p) (hn : 0 < n) (hn' : n ≤ 4194304) :
    Calls Tryz.prog 51 #[.pointer (some ⟨p, 0, none⟩), .int .i64 n] w fun e w' => ∃ b : Bool, e = .returned (.bool b) ∧ Cur w' p ∧ Off [p] w w' := by
  go_enter Tryz.func51, Tryz.ntmps51
  go_wp2_with (go_at_call 44; go_must (refine (l01Below_any p n _ hc hn hn').mono ?_; rintro e w' ⟨x, hx, rfl, hc', ho⟩))
  go_ret
  exact ⟨_, rfl, hc', ho⟩
end Go.Proofs.YtkomkhiinfdfmaaGreatDoor
