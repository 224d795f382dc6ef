/-
  Texts of the proof, packed: Chars, Names, FirstN, VarOk, Tree, Gen, AtomOk, ModOkMath, ModOkSpecA, ModOkSpecB, ModOkSpecC, ModOkSpecD, OrdBase, ModOkImplA, ModOkRefs, ModOkImplB, ModOkFuns, ModOkImplC.
-/
import Derived.Test.YtihffcphbcepoaaGreatDoorRows
import Derived.WalkKit
import Derived.ProofKit
import Derived.OpenShut
import Derived.WalkSpells
import Derived.Lib.LaidTab
import Derived.Below
import Derived.Deep.QuietTactic
import Derived.BigQuiet
import Derived.Test.YtihffcphbcepoaaGreatDoorProg
import Derived.Deep.RegionWith
import Derived.Deep.RegionHeld3
import Derived.WalkSmall
import Derived.Deep.DeepMust
import Derived.Laws.MakeOwn
import Derived.Lib.Bytealg
import Derived.Laws.Cover1
/-
  What the small tests of bytes answer: those of the program (isSmall, isGreat, isDigit, isNamePart) and those of the specification (l01In, l01Small, l01Great, l01Digit, l01Sign). No conditions but that a byte is one.
-/
namespace Go.Proofs.YtihffcphbcepoaaGreatDoor
open Go.ChangeShapes Go.WideShapes Go.ChangeAt Go.RowKit
set_option linter.unusedVariables false

def inB (x a b : Int) : Bool := decide (a ≤ x ∧ x ≤ b)
def signB (n : Int) : Bool := inB n 97 122 || inB n 65 90 || inB n 48 57 || n == 95

theorem ret_bool {a b : Bool} (h : a = b) : Ending.returned (.bool a) = .returned (.bool b) := by rw [h]

theorem l01In_any (x a b : Int) (w : World) :
    Calls Tryz.prog 75 #[.int .i64 x, .int .i64 a, .int .i64 b] w fun e w' => e = .returned (.bool (inB x a b)) ∧ w' = w := by
  by_cases h1 : a ≤ x <;> by_cases h2 : x ≤ b
  all_goals
    go_enter Tryz.func75, Tryz.ntmps75
    go_wp2
    go_ret
    exact ⟨ret_bool (by simp [inB, h1, h2]), rfl⟩

theorem l01Small_any (n : Int) (w : World) (h0 : 0 ≤ n) (h1 : n < 256) :
    Calls Tryz.prog 154 #[.int .u8 n] w fun e w' => e = .returned (.bool (inB n 97 122)) ∧ w' = w := by
  go_enter Tryz.func154, Tryz.ntmps154
  go_wp2_with (go_at_call 75; go_must (refine (l01In_any _ _ _ _).mono ?_; rintro e w' ⟨rfl, rfl⟩))
  go_ret
  exact ⟨rfl, rfl⟩

theorem l01Great_any (n : Int) (w : World) (h0 : 0 ≤ n) (h1 : n < 256) :
    Calls Tryz.prog 212 #[.int .u8 n] w fun e w' => e = .returned (.bool (inB n 65 90)) ∧ w' = w := by
  go_enter Tryz.func212, Tryz.ntmps212
  go_wp2_with (go_at_call 75; go_must (refine (l01In_any _ _ _ _).mono ?_; rintro e w' ⟨rfl, rfl⟩))
  go_ret
  exact ⟨rfl, rfl⟩

theorem l01Digit_any (n : Int) (w : World) (h0 : 0 ≤ n) (h1 : n < 256) :
    Calls Tryz.prog 213 #[.int .u8 n] w fun e w' => e = .returned (.bool (inB n 48 57)) ∧ w' = w := by
  go_enter Tryz.func213, Tryz.ntmps213
  go_wp2_with (go_at_call 75; go_must (refine (l01In_any _ _ _ _).mono ?_; rintro e w' ⟨rfl, rfl⟩))
  go_ret
  exact ⟨rfl, rfl⟩

theorem isSmall_any (n : Int) (w : World) (h0 : 0 ≤ n) (h1 : n < 256) :
    Calls Tryz.prog 158 #[.int .u8 n] w fun e w' => e = .returned (.bool (inB n 97 122)) ∧ w' = w := by
  by_cases h1 : 97 ≤ n <;> by_cases h2 : n ≤ 122
  all_goals
    go_enter Tryz.func158, Tryz.ntmps158
    go_wp2
    go_ret
    exact ⟨ret_bool (by simp [inB, h1, h2]), rfl⟩

theorem isGreat_any (n : Int) (w : World) (h0 : 0 ≤ n) (h1 : n < 256) :
    Calls Tryz.prog 215 #[.int .u8 n] w fun e w' => e = .returned (.bool (inB n 65 90)) ∧ w' = w := by
  by_cases h1 : 65 ≤ n <;> by_cases h2 : n ≤ 90
  all_goals
    go_enter Tryz.func215, Tryz.ntmps215
    go_wp2
    go_ret
    exact ⟨ret_bool (by simp [inB, h1, h2]), rfl⟩

theorem isDigit_any (n : Int) (w : World) (h0 : 0 ≤ n) (h1 : n < 256) :
    Calls Tryz.prog 216 #[.int .u8 n] w fun e w' => e = .returned (.bool (inB n 48 57)) ∧ w' = w := by
  by_cases h1 : 48 ≤ n <;> by_cases h2 : n ≤ 57
  all_goals
    go_enter Tryz.func216, Tryz.ntmps216
    go_wp2
    go_ret
    exact ⟨ret_bool (by simp [inB, h1, h2]), rfl⟩

theorem l01Sign_any (n : Int) (w : World) (h0 : 0 ≤ n) (h1 : n < 256) :
    Calls Tryz.prog 191 #[.int .u8 n] w fun e w' => e = .returned (.bool (signB n)) ∧ w' = w := by
  have hb1 : inB n 97 122 = true ∨ inB n 97 122 = false := by cases inB n 97 122 <;> simp
  have hb2 : inB n 65 90 = true ∨ inB n 65 90 = false := by cases inB n 65 90 <;> simp
  have hb3 : inB n 48 57 = true ∨ inB n 48 57 = false := by cases inB n 48 57 <;> simp
  rcases hb1 with hb1 | hb1 <;> rcases hb2 with hb2 | hb2 <;> rcases hb3 with hb3 | hb3
  all_goals
    go_enter Tryz.func191, Tryz.ntmps191
    go_wp2_with (first
      | (go_at_call 154; go_must (refine (l01Small_any _ _ h0 h1).mono ?_; rintro e w' ⟨rfl, rfl⟩))
      | (go_at_call 212; go_must (refine (l01Great_any _ _ h0 h1).mono ?_; rintro e w' ⟨rfl, rfl⟩))
      | (go_at_call 213; go_must (refine (l01Digit_any _ _ h0 h1).mono ?_; rintro e w' ⟨rfl, rfl⟩)))
    go_ret
    exact ⟨ret_bool (by simp [signB, hb1, hb2, hb3]), rfl⟩

theorem isNamePart_any (n : Int) (w : World) (h0 : 0 ≤ n) (h1 : n < 256) :
    Calls Tryz.prog 194 #[.int .u8 n] w fun e w' => e = .returned (.bool (signB n)) ∧ w' = w := by
  have hb1 : inB n 97 122 = true ∨ inB n 97 122 = false := by cases inB n 97 122 <;> simp
  have hb2 : inB n 65 90 = true ∨ inB n 65 90 = false := by cases inB n 65 90 <;> simp
  have hb3 : inB n 48 57 = true ∨ inB n 48 57 = false := by cases inB n 48 57 <;> simp
  rcases hb1 with hb1 | hb1 <;> rcases hb2 with hb2 | hb2 <;> rcases hb3 with hb3 | hb3
  all_goals
    go_enter Tryz.func194, Tryz.ntmps194
    go_wp2_with (first
      | (go_at_call 158; go_must (refine (isSmall_any _ _ h0 h1).mono ?_; rintro e w' ⟨rfl, rfl⟩))
      | (go_at_call 215; go_must (refine (isGreat_any _ _ h0 h1).mono ?_; rintro e w' ⟨rfl, rfl⟩))
      | (go_at_call 216; go_must (refine (isDigit_any _ _ h0 h1).mono ?_; rintro e w' ⟨rfl, rfl⟩)))
    go_ret
    exact ⟨ret_bool (by simp [signB, hb1, hb2, hb3]), rfl⟩
end Go.Proofs.YtihffcphbcepoaaGreatDoor
/-
  What l01Name (specification) and nameOk, madeOf (program) answer: whether a text is 1 to 10 signs of names. Condition: the text is no longer than any text may be.
-/
namespace Go.Proofs.YtihffcphbcepoaaGreatDoor
open Go.ChangeShapes Go.WideShapes Go.ChangeAt Go.RowKit
set_option linter.unusedVariables false

def allB (l : List UInt8) : Bool := l.all fun c => signB (c.toNat : Int)
def nameB (s : ByteArray) : Bool := allB s.data.toList && decide (1 ≤ s.size ∧ s.size ≤ 10)

theorem take_snoc (s : ByteArray) (k : Nat) (h : k < s.size) : s.data.toList.take (k + 1) = s.data.toList.take k ++ [s[k]] := by
  rw [List.take_succ_eq_append_getElem (by simpa using h)]; rfl
theorem allB_snoc (s : ByteArray) (k : Nat) (h : k < s.size) (ha : allB (s.data.toList.take k) = true) (hs : signB (s[k].toNat : Int) = true) :
    allB (s.data.toList.take (k + 1)) = true := by
  rw [take_snoc s k h]; unfold allB at *; rw [List.all_append, ha]; simp [hs]
theorem allB_no (s : ByteArray) (k : Nat) (h : k < s.size) (hs : signB (s[k].toNat : Int) = false) :
    allB s.data.toList = false := by
  unfold allB
  rw [List.all_eq_false]
  refine ⟨s[k], ?_, by simp [hs]⟩
  exact List.getElem_mem (by simpa using h)
theorem allB_all (s : ByteArray) (k : Nat) (h : s.size ≤ k) (ha : allB (s.data.toList.take k) = true) : allB s.data.toList = true := by
  rwa [List.take_of_length_le (by simpa using h)] at ha

theorem byte_lt (s : ByteArray) (k : Nat) (h : k < s.size) : 0 ≤ ((s[k].toNat : Nat) : Int) ∧ ((s[k].toNat : Nat) : Int) < 256 := by
  have := s[k].toNat_lt; omega

theorem inB_size (n : Nat) : inB (n : Int) 1 10 = decide (1 ≤ n ∧ n ≤ 10) := by
  unfold inB; rw [decide_eq_decide]; omega
theorem nameB_none (s : ByteArray) (h : ¬ 1 ≤ s.size ∨ ¬ s.size ≤ 10) : nameB s = false := by
  unfold nameB; rw [decide_eq_false (by omega), Bool.and_false]
theorem nameB_some (s : ByteArray) (h1 : 1 ≤ s.size) (h2 : s.size ≤ 10) : nameB s = allB s.data.toList := by
  unfold nameB; rw [decide_eq_true ⟨h1, h2⟩, Bool.and_true]

set_option maxHeartbeats 400000 in
theorem l01Name_any (s : ByteArray) (w : World) (hs : s.size ≤ maxLen) :
    Calls Tryz.prog 153 #[.string s] w fun e w' => e = .returned (.bool (nameB s)) ∧ w' = w := by
  unfold maxLen at hs
  go_enter Tryz.func153, Tryz.ntmps153
  go_wp2
  go_loop [3] (fun i => ∃ k : Nat, k ≤ s.size ∧ i = .int .i64 k ∧ allB (s.data.toList.take k) = true) (fun i => s.size - (intOf i).toNat)
  case atStart => exact ⟨0, Nat.zero_le _, rfl, rfl⟩
  case round =>
    obtain ⟨k, hk, rfl, ha⟩ := hrel
    by_cases hlt : k < s.size
    · have hb := byte_lt s k hlt
      have HA : Hid (allB (s.data.toList.take k) = true) := ha
      clear ha
      have hc : signB (s[k].toNat : Int) = true ∨ signB (s[k].toNat : Int) = false := by cases signB (s[k].toNat : Int) <;> simp
      rcases hc with hc | hc
      · go_wp2_with (go_at_call 191; go_must (refine (l01Sign_any _ _ hb.1 hb.2).mono ?_; rintro e w' ⟨rfl, rfl⟩))
        go_round
        case rel => exact ⟨k + 1, by omega, by go_num, allB_snoc s k hlt HA.out hc⟩
        case measure => simp [intOf]; omega
      · go_wp2_with (go_at_call 191; go_must (refine (l01Sign_any _ _ hb.1 hb.2).mono ?_; rintro e w' ⟨rfl, rfl⟩))
        go_ret
        exact ⟨ret_bool (by simp [nameB, allB_no s k hlt hc]), rfl⟩
    · have hall := allB_all s k (by omega) ha
      have HA : Hid (allB s.data.toList = true) := hall
      clear ha hall
      go_wp2_with (go_at_call 75; go_must (refine (l01In_any _ _ _ _).mono ?_; rintro e w' ⟨rfl, rfl⟩))
      go_ret
      exact ⟨ret_bool (by rw [nameB, HA.out, Bool.true_and, inB_size]), rfl⟩

/-- 'madeOf' of isNamePart. -/
theorem madeOf_name (s : ByteArray) (w : World) (hs : s.size ≤ maxLen) :
    Calls Tryz.prog 193 #[.string s, .func (.func 194) #[] #[]] w fun e w' => e = .returned (.bool (allB s.data.toList)) ∧ w' = w := by
  unfold maxLen at hs
  go_enter Tryz.func193, Tryz.ntmps193
  go_wp2
  go_loop [8] (fun i => ∃ k : Nat, k ≤ s.size ∧ i = .int .i64 k ∧ allB (s.data.toList.take k) = true) (fun i => s.size - (intOf i).toNat)
  case atStart => exact ⟨0, Nat.zero_le _, rfl, rfl⟩
  case round =>
    obtain ⟨k, hk, rfl, ha⟩ := hrel
    by_cases hlt : k < s.size
    · have hb := byte_lt s k hlt
      have HA : Hid (allB (s.data.toList.take k) = true) := ha
      clear ha
      have hc : signB (s[k].toNat : Int) = true ∨ signB (s[k].toNat : Int) = false := by cases signB (s[k].toNat : Int) <;> simp
      rcases hc with hc | hc
      · go_wp2_with (go_at_call 194; go_must (refine (isNamePart_any _ _ hb.1 hb.2).mono ?_; rintro e w' ⟨rfl, rfl⟩))
        go_round
        case rel => exact ⟨k + 1, by omega, by go_num, allB_snoc s k hlt HA.out hc⟩
        case measure => simp [intOf]; omega
      · go_wp2_with (go_at_call 194; go_must (refine (isNamePart_any _ _ hb.1 hb.2).mono ?_; rintro e w' ⟨rfl, rfl⟩))
        go_ret
        exact ⟨ret_bool (by rw [allB_no s k hlt hc]), rfl⟩
    · have hall := allB_all s k (by omega) ha
      have HA : Hid (allB s.data.toList = true) := hall
      clear ha hall
      go_wp2
      go_ret
      exact ⟨ret_bool (by rw [HA.out]), rfl⟩

theorem nameOk_any (s : ByteArray) (w : World) (hs : s.size ≤ maxLen) :
    Calls Tryz.prog 157 #[.string s] w fun e w' => e = .returned (.bool (nameB s)) ∧ w' = w := by
  have hs' := hs
  unfold maxLen at hs
  by_cases h1 : 1 ≤ s.size
  · by_cases h2 : s.size ≤ 10
    · go_enter Tryz.func157, Tryz.ntmps157
      go_wp2_with (go_at_call 193; go_must (refine (madeOf_name _ _ hs').mono ?_; rintro e w' ⟨rfl, rfl⟩))
      go_ret
      exact ⟨ret_bool (nameB_some s h1 h2).symm, rfl⟩
    · go_enter Tryz.func157, Tryz.ntmps157
      go_wp2
      go_ret
      exact ⟨ret_bool (nameB_none s (.inr h2)).symm, rfl⟩
  · go_enter Tryz.func157, Tryz.ntmps157
    go_wp2
    go_ret
    exact ⟨ret_bool (nameB_none s (.inl h1)).symm, rfl⟩
end Go.Proofs.YtihffcphbcepoaaGreatDoor
/-
  A name by its first byte.
-/
namespace Go.Proofs.YtihffcphbcepoaaGreatDoor
open Go.ChangeShapes Go.WideShapes Go.ChangeAt Go.RowKit
set_option linter.unusedVariables false

def firstN (s : ByteArray) : Int := ((s.data.toList.headD 0).toNat : Int)
def varB (s : ByteArray) : Bool := nameB s && inB (firstN s) 65 90
theorem nameB_size (s : ByteArray) (h : nameB s = true) : 0 < s.size := by
  unfold nameB at h
  rw [Bool.and_eq_true] at h
  have := of_decide_eq_true h.2
  omega
theorem first_eq (s : ByteArray) (h : 0 < s.size) : (s[0].toNat : Int) = firstN s := by
  have e : s.data.toList.headD 0 = s[0] := by
    have h' : 0 < s.data.toList.length := by simpa using h
    rw [List.headD_eq_head?_getD, List.head?_eq_getElem?, List.getElem?_eq_getElem h']
    rfl
  rw [firstN, e]
end Go.Proofs.YtihffcphbcepoaaGreatDoor
/-
  What VarOk answers, of the program and of the specification. Condition: the text is no longer than any text may be.
-/
namespace Go.Proofs.YtihffcphbcepoaaGreatDoor
open Go.ChangeShapes Go.WideShapes Go.ChangeAt Go.RowKit
set_option linter.unusedVariables false

theorem specVarOk_any (s : ByteArray) (w : World) (hs : s.size ≤ maxLen) :
    Calls Tryz.prog 214 #[.string s] w fun e w' => e = .returned (.bool (varB s)) ∧ w' = w := by
  have hs' := hs
  unfold maxLen at hs
  have hn : nameB s = true ∨ nameB s = false := by cases nameB s <;> simp
  rcases hn with hn | hn
  · have hz := nameB_size s hn
    have hb := byte_lt s 0 hz
    have hf := first_eq s hz
    have HF : Hid ((s[0].toNat : Int) = firstN s) := hf
    clear hf
    go_enter Tryz.func214, Tryz.ntmps214
    go_wp2_with (first
      | (go_at_call 153; go_must (refine (l01Name_any _ _ hs').mono ?_; rintro e w' ⟨rfl, rfl⟩))
      | (go_at_call 212; go_must (refine (l01Great_any _ _ hb.1 hb.2).mono ?_; rintro e w' ⟨rfl, rfl⟩)))
    go_ret
    exact ⟨ret_bool (by rw [varB, hn, HF.out, Bool.true_and]), rfl⟩
  · go_enter Tryz.func214, Tryz.ntmps214
    go_wp2_with (go_at_call 153; go_must (refine (l01Name_any _ _ hs').mono ?_; rintro e w' ⟨rfl, rfl⟩))
    go_ret
    exact ⟨ret_bool (by rw [varB, hn, Bool.false_and]), rfl⟩

theorem implVarOk_any (s : ByteArray) (w : World) (hs : s.size ≤ maxLen) :
    Calls Tryz.prog 250 #[.string s] w fun e w' => e = .returned (.bool (varB s)) ∧ w' = w := by
  have hs' := hs
  unfold maxLen at hs
  have hn : nameB s = true ∨ nameB s = false := by cases nameB s <;> simp
  rcases hn with hn | hn
  · have hz := nameB_size s hn
    have hb := byte_lt s 0 hz
    have hf := first_eq s hz
    have HF : Hid ((s[0].toNat : Int) = firstN s) := hf
    clear hf
    go_enter Tryz.func250, Tryz.ntmps250
    go_wp2_with (first
      | (go_at_call 157; go_must (refine (nameOk_any _ _ hs').mono ?_; rintro e w' ⟨rfl, rfl⟩))
      | (go_at_call 215; go_must (refine (isGreat_any _ _ hb.1 hb.2).mono ?_; rintro e w' ⟨rfl, rfl⟩)))
    go_ret
    exact ⟨ret_bool (by rw [varB, hn, HF.out, Bool.true_and]), rfl⟩
  · go_enter Tryz.func250, Tryz.ntmps250
    go_wp2_with (go_at_call 157; go_must (refine (nameOk_any _ _ hs').mono ?_; rintro e w' ⟨rfl, rfl⟩))
    go_ret
    exact ⟨ret_bool (by rw [varB, hn, Bool.false_and]), rfl⟩
end Go.Proofs.YtihffcphbcepoaaGreatDoor
/-
  Data that lies in memory as trees of rows: slices of structs whose fields are numbers, texts and slices again. What lies so is read by its tree; it stays where the blocks that it lies in stay; and whatever the statement's reader reads of such a type is such a tree.
-/
namespace Go.Proofs.YtihffcphbcepoaaGreatDoor
open Go.ChangeShapes Go.WideShapes Go.ChangeAt Go.RowKit
set_option linter.unusedVariables false

/-- Whatever lies in blocks of S lies in w' as it does in w. -/
def SameOn (S : Nat → Prop) (w w' : World) : Prop := w.heap.size ≤ w'.heap.size ∧ ∀ g, S g → g < w.heap.size → w'.heap[g]? = w.heap[g]?

theorem SameOn.of_below {S : Nat → Prop} {w w' : World} (h : Below w.heap.size w w') : SameOn S w w' := ⟨h.size, fun g _ hg => h.block g hg⟩
theorem SameOn.of_low {N : Nat} {w w' : World} (h : Below N w w') : SameOn (fun g => g < N) w w' := ⟨h.size, fun g hg _ => h.block g hg⟩
theorem SameOn.trans {S : Nat → Prop} {a b c : World} (h : SameOn S a b) (k : SameOn S b c) : SameOn S a c :=
  ⟨Nat.le_trans h.1 k.1, fun g hs hg => (k.2 g hs (Nat.lt_of_lt_of_le hg h.1)).trans (h.2 g hs hg)⟩
theorem SameOn.drew {S : Nat → Prop} {a b : World} (h : SameOn S a b) : SameOn S a b.drew := h
theorem SameOn.sub {S S' : Nat → Prop} {a b : World} (h : SameOn S a b) (hs : ∀ g, S' g → S g) : SameOn S' a b := ⟨h.1, fun g hg => h.2 g (hs g hg)⟩

/-- Every block. -/
def All (_ : Nat) : Prop := True

theorem alloc_hs (w : World) (o : Obj) : (w.alloc o).heap.size = w.heap.size + 1 := by simp

theorem cell_new (w : World) (cs : Array Value) (t : TypeId) (j : Nat) (v : Value) (h : cs[j]? = some v) : (w.alloc (.cells cs t)).cell? ⟨w.heap.size, j, none⟩ = some v := by
  have e : (w.alloc (.cells cs t)).heap[w.heap.size]? = some (.cells cs t) := by
    show (w.heap.push _)[w.heap.size]? = _
    simp
  unfold World.cell?; rw [e]; simpa using h

/-- A world of a class. -/
structure Wd (C : World → Prop) where
  val : World
  ok : C val

/-- A region that draws its order, all of whose operations yield the same in every world of a class and lead to one of it: one walk, in the order of the text. -/
theorem wp_region_class {P : Program} (C : World → Prop) {id : Nat} {Q : Exit → Act → World → Prop} {a : Act} {w : World} {l : List Oper} (hm : P.follows .mixedOrders = true) (hB : Region.lexB .any l.toArray = true)
    (hC : C w.drew) (h : wpQuiet P l.toArray (fun w' => ∃ m : Wd C, w' = m.val) (fun a' => ∀ w', (∃ m : Wd C, w' = m.val) → Q .normal a' w') l a) : (Code.region id l.toArray true).wp P Q a w :=
  wp_region_quiet (C := fun w' => ∃ m : Wd C, w' = m.val) hm hB ⟨⟨_, hC⟩, rfl⟩ (by simpa using h)

/-- v is a slice; its elements, of c cells each, are R's xs; its block is one of S. -/
def Rows {α : Type} (w : World) (S : Nat → Prop) (c : Nat) (R : List Value → α → Prop) (v : Value) (xs : List α) : Prop :=
  ∃ p cap, v = .slice p xs.length cap ∧ xs.length ≤ cap ∧ cap ≤ maxLen ∧
    (xs ≠ [] → ∃ g off, p = some ⟨g, off, none⟩ ∧ S g ∧ g < w.heap.size ∧ ∀ i x, xs[i]? = some x → ∃ cs, cs.length = c ∧ (∀ j, j < c → w.cell? ⟨g, off + i * c + j, none⟩ = cs[j]?) ∧ R cs x)

theorem Rows.mono {α : Type} {w w' : World} {S S' : Nat → Prop} {c : Nat} {R R' : List Value → α → Prop} {v : Value} {xs : List α} (h : Rows w S c R v xs)
    (hs : SameOn S w w') (hS : ∀ g, S g → S' g) (hR : ∀ cs x, x ∈ xs → R cs x → R' cs x) : Rows w' S' c R' v xs := by
  obtain ⟨p, cap, hv, h1, h2, h3⟩ := h
  refine ⟨p, cap, hv, h1, h2, fun hne => ?_⟩
  obtain ⟨g, off, hp, hg, hlt, hx⟩ := h3 hne
  refine ⟨g, off, hp, hS g hg, Nat.lt_of_lt_of_le hlt hs.1, fun i x hi => ?_⟩
  obtain ⟨cs, hl, hc, hr⟩ := hx i x hi
  exact ⟨cs, hl, fun j hj => (World.cell?_of_block (hs.2 g hg hlt)).trans (hc j hj), hR cs x (List.mem_of_getElem? hi) hr⟩

theorem Rows.nil {α : Type} {w : World} {S : Nat → Prop} {c : Nat} {R : List Value → α → Prop} {p : Option Addr} {cap : Nat} (hc : cap ≤ maxLen) : Rows w S c R (.slice p 0 cap) [] :=
  ⟨p, cap, rfl, Nat.zero_le _, hc, fun h => absurd rfl h⟩

/-- An expression, as the document's chapter 2 has it; a clause: its patterns and its body. -/
inductive Ex where
  | mk (kind n : Int) (text mod : ByteArray) (kids : List Ex) (clauses : List (List Ex × List Ex))
abbrev Cl := List Ex × List Ex
def Ex.kind : Ex → Int | .mk k _ _ _ _ _ => k
def Ex.n : Ex → Int | .mk _ n _ _ _ _ => n
def Ex.text : Ex → ByteArray | .mk _ _ t _ _ _ => t
def Ex.mod : Ex → ByteArray | .mk _ _ _ m _ _ => m
def Ex.kids : Ex → List Ex | .mk _ _ _ _ k _ => k
def Ex.clauses : Ex → List Cl | .mk _ _ _ _ _ c => c
theorem Ex.eq_iff (a b : Ex) : a = b ↔ a.kind = b.kind ∧ a.n = b.n ∧ a.text = b.text ∧ a.mod = b.mod ∧ a.kids = b.kids ∧ a.clauses = b.clauses := by
  cases a; cases b; simp [Ex.kind, Ex.n, Ex.text, Ex.mod, Ex.kids, Ex.clauses]
structure Rf where
  name : ByteArray
  arity : Int
structure Fn' where
  name : ByteArray
  arity : Int
  clauses : List Cl
structure Md where
  name : ByteArray
  exports : List Rf
  funs : List Fn'

def okI (n : Int) : Prop := (Lit.int .i64 n).wf = true
def okS (s : ByteArray) : Prop := s.size ≤ maxLen

def HCl (w : World) (S : Nat → Prop) (R : List Value → Ex → Prop) (cs : List Value) (c : Cl) : Prop :=
  ∃ p b, cs = [p, b] ∧ Rows w S 6 R p c.1 ∧ Rows w S 6 R b c.2

/-- Six cells that are an expression, at most d deep, whose kids and clauses lie in blocks of S. -/
def HEx (w : World) (S : Nat → Prop) : Nat → List Value → Ex → Prop
  | 0, _, _ => False
  | d + 1, cs, e => ∃ kv cv, cs = [.int .i64 e.kind, .int .i64 e.n, .string e.text, .string e.mod, kv, cv] ∧ okI e.kind ∧ okI e.n ∧ okS e.text ∧ okS e.mod ∧
      Rows w S 6 (HEx w S d) kv e.kids ∧ Rows w S 2 (HCl w S (HEx w S d)) cv e.clauses

def HRf (cs : List Value) (r : Rf) : Prop := cs = [.string r.name, .int .i64 r.arity] ∧ okS r.name ∧ okI r.arity

def HFn (w : World) (S : Nat → Prop) (d : Nat) (cs : List Value) (f : Fn') : Prop :=
  ∃ cv, cs = [.string f.name, .int .i64 f.arity, cv] ∧ okS f.name ∧ okI f.arity ∧ Rows w S 2 (HCl w S (HEx w S d)) cv f.clauses

def HMd (w : World) (S : Nat → Prop) (d : Nat) (cs : List Value) (m : Md) : Prop :=
  ∃ ev fv, cs = [.string m.name, ev, fv] ∧ okS m.name ∧ Rows w S 2 HRf ev m.exports ∧ Rows w S 3 (HFn w S d) fv m.funs

theorem HCl.mono {w w' : World} {S S' : Nat → Prop} {R R' : List Value → Ex → Prop} {cs : List Value} {c : Cl} (h : HCl w S R cs c) (hs : SameOn S w w') (hS : ∀ g, S g → S' g)
    (hR : ∀ cs x, R cs x → R' cs x) : HCl w' S' R' cs c := by
  obtain ⟨p, b, rfl, h1, h2⟩ := h
  exact ⟨p, b, rfl, h1.mono hs hS (fun cs x _ => hR cs x), h2.mono hs hS (fun cs x _ => hR cs x)⟩

theorem HEx.mono {w w' : World} {S S' : Nat → Prop} (hs : SameOn S w w') (hS : ∀ g, S g → S' g) : ∀ {d : Nat} {cs : List Value} {e : Ex}, HEx w S d cs e → HEx w' S' d cs e
  | 0, _, _, h => h.elim
  | d + 1, cs, e, h => by
    obtain ⟨kv, cv, rfl, h1, h2, h3, h4, hk, hc⟩ := h
    exact ⟨kv, cv, rfl, h1, h2, h3, h4, hk.mono hs hS (fun _ _ _ => HEx.mono hs hS), hc.mono hs hS (fun _ _ _ h => h.mono hs hS (fun _ _ => HEx.mono hs hS))⟩

theorem HFn.mono {w w' : World} {S S' : Nat → Prop} (hs : SameOn S w w') (hS : ∀ g, S g → S' g) {d : Nat} {cs : List Value} {f : Fn'} (h : HFn w S d cs f) : HFn w' S' d cs f := by
  obtain ⟨cv, rfl, h1, h2, hc⟩ := h
  exact ⟨cv, rfl, h1, h2, hc.mono hs hS (fun _ _ _ h => h.mono hs hS (fun _ _ => HEx.mono hs hS))⟩

theorem HMd.mono {w w' : World} {S S' : Nat → Prop} (hs : SameOn S w w') (hS : ∀ g, S g → S' g) {d : Nat} {cs : List Value} {m : Md} (h : HMd w S d cs m) : HMd w' S' d cs m := by
  obtain ⟨ev, fv, rfl, h1, he, hf⟩ := h
  exact ⟨ev, fv, rfl, h1, he.mono hs hS (fun _ _ _ h => h), hf.mono hs hS (fun _ _ _ h => h.mono hs hS)⟩

/-! What the statement's reader reads. -/
section
variable {H : Type} {enc : TypeId × Value → H} {P : Program} {w : World} {base : Nat} {sp : Nat → Bool} {held : Bool}

theorem pick {α β : Type} {p : α → β → Prop} : ∀ {l : List α}, (∀ a ∈ l, ∃ b, p a b) → ∃ bs : List β, bs.length = l.length ∧ ∀ (i : Nat) b, bs[i]? = some b → ∃ a, l[i]? = some a ∧ p a b
  | [], _ => ⟨[], rfl, fun i b h => by simp at h⟩
  | a :: l, h => by
    obtain ⟨b, hb⟩ := h a (by simp)
    obtain ⟨bs, hl, hbs⟩ := pick (l := l) fun a ha => h a (by simp [ha])
    refine ⟨b :: bs, by simp [hl], fun i b' hi => ?_⟩
    cases i with
    | zero => simp at hi; subst hi; exact ⟨a, by simp, hb⟩
    | succ i => simp at hi; obtain ⟨a', ha, hp⟩ := hbs i b' hi; exact ⟨a', by simpa using ha, hp⟩

theorem cells_at {a : Addr} {n : Nat} {cs : List Value} (h : w.cells? base a n = some cs) : cs.length = n ∧ ∀ j, j < n → w.cell? (a.add j) = cs[j]? := by
  simp only [World.cells?] at h
  split at h
  · refine ⟨by simpa using Lib.mapM_length h, fun j hj => ?_⟩
    obtain ⟨b, hb, hf⟩ := Lib.mapM_at h j j (by simp [hj])
    rw [hf, hb]
  · cases h

theorem add_add (a : Addr) (n m : Nat) (h : a.spot = none) : (a.add n).add m = ⟨a.block, a.off + n + m, none⟩ := by
  obtain ⟨b, o, s⟩ := a
  simp only at h; subst h
  unfold Addr.add
  by_cases hn : n = 0 <;> by_cases hm : m = 0 <;> simp_all

theorem open_rows {α : Type} {t e : TypeId} {c fuel : Nat} {cs : List Value} {x : DataW H × List MemPlace} {R : List Value → α → Prop} (ht : P.underlying t = some (.slice e)) (hc : P.cellsOf e = c) (hc0 : 0 < c)
    (hR : ∀ cs x, DataW.trod enc P w base sp held fuel e cs = some x → ∃ a, R cs a)
    (h : DataW.trod enc P w base sp held (fuel + 1) t cs = some x) : ∃ v xs, cs = [v] ∧ Rows w (fun g => g < w.heap.size) c R v xs := by
  unfold DataW.trod at h
  simp only [ht] at h
  split at h
  all_goals try (rename_i heq _; cases heq; done)
  all_goals try (rename_i heq; cases heq; done)
  all_goals try (cases h; done)
  · exact ⟨_, [], rfl, Rows.nil (Nat.zero_le _)⟩
  · rename_i e' a len cap heq1 
    injection heq1 with heq1
    injection heq1 with heq1
    subst heq1
    simp only [hc] at h
    split at h
    · rename_i hb
      obtain ⟨elems, he, hr⟩ := Option.bind_eq_some_iff.1 h
      have hel : elems.length = len := by simpa using Lib.mapM_length he
      have hat : ∀ i ∈ List.range len, ∃ b : List Value × α, w.cells? base (a.add (i * c)) c = some b.1 ∧ R b.1 b.2 := by
        intro i hi
        have hi' : i < len := by simpa using hi
        obtain ⟨b, _, hf⟩ := Lib.mapM_at he i i (by simp [hi'])
        obtain ⟨cs, hcs, htr⟩ := Option.bind_eq_some_iff.1 hf
        obtain ⟨a', ha'⟩ := hR cs b htr
        exact ⟨(cs, a'), hcs, ha'⟩
      obtain ⟨bs, hbl, hbs⟩ := pick hat
      refine ⟨_, bs.map (·.2), rfl, some a, cap, ?_, ?_, hb.2.2, fun hne => ?_⟩
      · simp only [List.length_map, hbl, List.length_range]
      · simp only [List.length_map, hbl, List.length_range]; exact hb.2.1
      · have hl0 : 0 < len := by
          cases bs with
          | nil => exact absurd rfl hne
          | cons b bs => simp at hbl; omega
        obtain ⟨b0, hb0⟩ : ∃ b0, bs[0]? = some b0 := ⟨bs[0]'(by rw [hbl]; simpa using hl0), List.getElem?_eq_getElem _⟩
        obtain ⟨i0, hi0, hc0', _⟩ := hbs 0 b0 hb0
        obtain rfl : i0 = 0 := by
          rw [List.getElem?_range hl0] at hi0; exact (Option.some.inj hi0).symm
        obtain ⟨hl1, hat1⟩ := cells_at hc0'
        have hcell := hat1 0 hc0
        simp only [Nat.zero_mul] at hcell
        have hsp : a.spot = none ∧ a.block < w.heap.size := by
          have : w.cell? a = some (b0.1[0]'(by rw [hl1]; exact hc0)) := by
            rw [← List.getElem?_eq_getElem]; rw [← hcell]; simp [Addr.add]
          unfold World.cell? at this
          split at this
          · rename_i heq
            constructor
            · cases hs : a.spot with
              | none => rfl
              | some s => simp [hs] at this
            · exact (Array.getElem?_eq_some_iff.1 heq).1
          · cases this
        refine ⟨a.block, a.off, ?_, hsp.2, hsp.2, fun i x hi => ?_⟩
        · obtain ⟨b, o, s⟩ := a; simp only at hsp; simp [hsp.1]
        · rw [List.getElem?_map] at hi
          obtain ⟨b, hb', rfl⟩ := Option.map_eq_some_iff.1 hi
          obtain ⟨i', hi', hcs, hr'⟩ := hbs i b hb'
          have hlt : i < len := by
            have := (List.getElem?_eq_some_iff.1 hb').1
            rw [hbl] at this; simpa using this
          obtain rfl : i' = i := by
            rw [List.getElem?_range hlt] at hi'; exact (Option.some.inj hi').symm
          obtain ⟨hl2, hat2⟩ := cells_at hcs
          exact ⟨b.1, hl2, fun j hj => by rw [← hat2 j hj, add_add _ _ _ hsp.1], hr'⟩
    · cases h

theorem open_fields {t : TypeId} {fs : Array Field} {tys : List (TypeId × Nat)} {fuel : Nat} {cs : List Value} {x : DataW H × List MemPlace} (ht : P.underlying t = some (.struct fs))
    (hf : (fs.toList.map fun f => (f.type, f.offset)) = tys) (h : DataW.trod enc P w base sp held (fuel + 1) t cs = some x) :
    cs.length = P.cellsOf t ∧ ∀ (i : Nat) ty o, tys[i]? = some (ty, o) → ∃ y, DataW.trod enc P w base sp held fuel ty ((cs.drop o).take (P.cellsOf ty)) = some y := by
  unfold DataW.trod at h
  simp only [ht] at h
  split at h
  · rename_i hl
    refine ⟨hl, fun i ty o hi => ?_⟩
    obtain ⟨xs, hm, _⟩ := Option.map_eq_some_iff.1 h
    rw [← hf, List.getElem?_map] at hi
    obtain ⟨f, hfi, hfe⟩ := Option.map_eq_some_iff.1 hi
    obtain ⟨y, _, hy⟩ := Lib.mapM_at hm i f hfi
    simp only [Prod.mk.injEq] at hfe
    rw [← hfe.1, ← hfe.2]
    exact ⟨y, hy⟩
  · cases h

theorem open_int1 {t : TypeId} {fuel : Nat} {v : Value} {x : DataW H × List MemPlace} (ht : P.underlying t = some (.int .i64)) (h : DataW.trod enc P w base sp held fuel t [v] = some x) : ∃ n, v = .int .i64 n ∧ okI n := by
  obtain ⟨n, hn, hw⟩ : ∃ n, [v] = [Value.int .i64 n] ∧ okI n := by
    cases fuel with
    | zero => simp [DataW.trod] at h
    | succ fuel =>
      unfold DataW.trod at h
      simp only [ht] at h
      split at h
      all_goals try (rename_i heq _; cases heq; done)
      all_goals try (rename_i heq; cases heq; done)
      all_goals try (cases h; done)
      · rename_i k k' n heq heq2
        split at h
        · rename_i hk
          cases heq
          obtain ⟨rfl, hw⟩ := hk
          exact ⟨n, heq2, hw⟩
        · cases h
  cases hn
  exact ⟨n, rfl, hw⟩

theorem open_str1 {t : TypeId} {fuel : Nat} {v : Value} {x : DataW H × List MemPlace} (ht : P.underlying t = some .string) (h : DataW.trod enc P w base sp held fuel t [v] = some x) : ∃ s, v = .string s ∧ okS s := by
  obtain ⟨n, hn, hw⟩ : ∃ n, [v] = [Value.string n] ∧ okS n := by
    cases fuel with
    | zero => simp [DataW.trod] at h
    | succ fuel =>
      unfold DataW.trod at h
      simp only [ht] at h
      split at h
      all_goals try (rename_i heq _; cases heq; done)
      all_goals try (rename_i heq; cases heq; done)
      all_goals try (cases h; done)
      · rename_i s heq heq2
        split at h
        · rename_i hk
          exact ⟨s, heq2, hk⟩
        · cases h
  cases hn
  exact ⟨n, rfl, hw⟩

theorem HEx.deeper {S : Nat → Prop} : ∀ {d d' : Nat} {cs : List Value} {e : Ex}, d ≤ d' → HEx w S d cs e → HEx w S d' cs e
  | 0, _, _, _, _, h => h.elim
  | d + 1, 0, _, _, hd, h => by omega
  | d + 1, d' + 1, cs, e, hd, h => by
    have hs : SameOn S w w := ⟨Nat.le_refl _, fun _ _ _ => rfl⟩
    obtain ⟨kv, cv, rfl, h1, h2, h3, h4, hk, hc⟩ := h
    exact ⟨kv, cv, rfl, h1, h2, h3, h4, hk.mono hs (fun _ h => h) (fun _ _ _ => HEx.deeper (by omega)), hc.mono hs (fun _ h => h) (fun _ _ _ h => h.mono hs (fun _ h => h) (fun _ _ => HEx.deeper (by omega)))⟩

/-- The types of expressions and clauses, in a program. -/
structure ExTypes (P : Program) (tE tEs tC tCs tI tS : TypeId) : Prop where
  e : ∃ fs, P.underlying tE = some (.struct fs) ∧ (fs.toList.map fun f => (f.type, f.offset)) = [(tI, 0), (tI, 1), (tS, 2), (tS, 3), (tEs, 4), (tCs, 5)]
  c : ∃ fs, P.underlying tC = some (.struct fs) ∧ (fs.toList.map fun f => (f.type, f.offset)) = [(tEs, 0), (tEs, 1)]
  es : P.underlying tEs = some (.slice tE)
  cs : P.underlying tCs = some (.slice tC)
  i : P.underlying tI = some (.int .i64)
  s : P.underlying tS = some .string
  ce : P.cellsOf tE = 6
  cc : P.cellsOf tC = 2
  ci : P.cellsOf tI = 1
  cS : P.cellsOf tS = 1
  ces : P.cellsOf tEs = 1
  ccs : P.cellsOf tCs = 1

theorem len6 {cs : List Value} (h : cs.length = 6) : ∃ a b c d e f, cs = [a, b, c, d, e, f] := by
  match cs, h with
  | [a, b, c, d, e, f], _ => exact ⟨a, b, c, d, e, f, rfl⟩
theorem len2 {cs : List Value} (h : cs.length = 2) : ∃ a b, cs = [a, b] := by
  match cs, h with
  | [a, b], _ => exact ⟨a, b, rfl⟩
theorem len3 {cs : List Value} (h : cs.length = 3) : ∃ a b c, cs = [a, b, c] := by
  match cs, h with
  | [a, b, c], _ => exact ⟨a, b, c, rfl⟩

variable {tE tEs tC tCs tI tS : TypeId}

theorem open_exs {n : Nat} (T : ExTypes P tE tEs tC tCs tI tS)
    (ih : ∀ fuel, fuel < n → ∀ cs x, DataW.trod enc P w base sp held fuel tE cs = some x → ∃ e, HEx w (fun g => g < w.heap.size) n cs e) {fuel : Nat} (hf : fuel ≤ n) {v : Value} {x : DataW H × List MemPlace}
    (h : DataW.trod enc P w base sp held fuel tEs [v] = some x) : ∃ es, Rows w (fun g => g < w.heap.size) 6 (HEx w (fun g => g < w.heap.size) n) v es := by
  cases fuel with
  | zero => simp [DataW.trod] at h
  | succ fuel =>
    obtain ⟨v', xs, hv, hr⟩ := open_rows T.es T.ce (by decide) (ih fuel (by omega)) h
    cases hv
    exact ⟨xs, hr⟩

theorem open_cls {n : Nat} (T : ExTypes P tE tEs tC tCs tI tS)
    (ih : ∀ fuel, fuel < n → ∀ cs x, DataW.trod enc P w base sp held fuel tE cs = some x → ∃ e, HEx w (fun g => g < w.heap.size) n cs e) {fuel : Nat} (hf : fuel ≤ n) {v : Value} {x : DataW H × List MemPlace}
    (h : DataW.trod enc P w base sp held fuel tCs [v] = some x) : ∃ es, Rows w (fun g => g < w.heap.size) 2 (HCl w (fun g => g < w.heap.size) (HEx w (fun g => g < w.heap.size) n)) v es := by
  cases fuel with
  | zero => simp [DataW.trod] at h
  | succ fuel =>
    obtain ⟨v', xs, hv, hr⟩ := open_rows (R := HCl w (fun g => g < w.heap.size) (HEx w (fun g => g < w.heap.size) n)) T.cs T.cc (by decide) (fun cs x hx => by
      cases fuel with
      | zero => simp [DataW.trod] at hx
      | succ fuel =>
        obtain ⟨fs, hu, hfs⟩ := T.c
        obtain ⟨hl, hat⟩ := open_fields hu hfs hx
        rw [T.cc] at hl
        obtain ⟨a, b, rfl⟩ := len2 hl
        obtain ⟨y0, h0⟩ := hat 0 _ _ rfl
        obtain ⟨y1, h1⟩ := hat 1 _ _ rfl
        rw [T.ces] at h0 h1
        obtain ⟨p, hp⟩ := open_exs T ih (by omega) h0
        obtain ⟨q, hq⟩ := open_exs T ih (by omega) h1
        exact ⟨(p, q), a, b, rfl, hp, hq⟩) h
    cases hv
    exact ⟨xs, hr⟩

theorem open_ex (T : ExTypes P tE tEs tC tCs tI tS) : ∀ (n fuel : Nat), fuel < n → ∀ cs x, DataW.trod enc P w base sp held fuel tE cs = some x → ∃ e, HEx w (fun g => g < w.heap.size) n cs e := by
  intro n
  induction n with
  | zero => intro fuel hf; omega
  | succ n ihn =>
    intro fuel hf cs x h
    cases fuel with
    | zero => simp [DataW.trod] at h
    | succ fuel =>
      obtain ⟨fs, hu, hfs⟩ := T.e
      obtain ⟨hl, hat⟩ := open_fields hu hfs h
      rw [T.ce] at hl
      obtain ⟨a, b, c, d, e, f, rfl⟩ := len6 hl
      obtain ⟨y0, h0⟩ := hat 0 _ _ rfl
      obtain ⟨y1, h1⟩ := hat 1 _ _ rfl
      obtain ⟨y2, h2⟩ := hat 2 _ _ rfl
      obtain ⟨y3, h3⟩ := hat 3 _ _ rfl
      obtain ⟨y4, h4⟩ := hat 4 _ _ rfl
      obtain ⟨y5, h5⟩ := hat 5 _ _ rfl
      rw [T.ci] at h0 h1
      rw [T.cS] at h2 h3
      rw [T.ces] at h4
      rw [T.ccs] at h5
      obtain ⟨k, rfl, hk⟩ := open_int1 T.i h0
      obtain ⟨m, rfl, hm⟩ := open_int1 T.i h1
      obtain ⟨s, rfl, hs⟩ := open_str1 T.s h2
      obtain ⟨r, rfl, hr⟩ := open_str1 T.s h3
      obtain ⟨ks, hks⟩ := open_exs T ihn (by omega) h4
      obtain ⟨cls, hcls⟩ := open_cls T ihn (by omega) h5
      exact ⟨.mk k m s r ks cls, e, f, rfl, hk, hm, hs, hr, hks, hcls⟩

structure MdTypes (P : Program) (tE tEs tC tCs tI tS tR tRs tF tFs tM : TypeId) : Prop extends ExTypes P tE tEs tC tCs tI tS where
  r : ∃ fs, P.underlying tR = some (.struct fs) ∧ (fs.toList.map fun f => (f.type, f.offset)) = [(tS, 0), (tI, 1)]
  f : ∃ fs, P.underlying tF = some (.struct fs) ∧ (fs.toList.map fun f => (f.type, f.offset)) = [(tS, 0), (tI, 1), (tCs, 2)]
  m : ∃ fs, P.underlying tM = some (.struct fs) ∧ (fs.toList.map fun f => (f.type, f.offset)) = [(tS, 0), (tRs, 1), (tFs, 2)]
  rs : P.underlying tRs = some (.slice tR)
  fs : P.underlying tFs = some (.slice tF)
  cr : P.cellsOf tR = 2
  cf : P.cellsOf tF = 3
  cm : P.cellsOf tM = 3
  crs : P.cellsOf tRs = 1
  cfs : P.cellsOf tFs = 1

variable {tR tRs tF tFs tM : TypeId}

theorem open_md (T : MdTypes P tE tEs tC tCs tI tS tR tRs tF tFs tM) {v : Value} {dd : DataW H} {ps : List MemPlace} (h : DataW.Trod enc P w base sp held tM v dd ps) :
    ∃ d m, HMd w (fun g => g < w.heap.size) d v.cells.toList m := by
  obtain ⟨fuel, h⟩ := h
  generalize v.cells.toList = cs at h ⊢
  cases fuel with
  | zero => simp [DataW.trod] at h
  | succ fuel =>
    obtain ⟨fs, hu, hfs⟩ := T.m
    obtain ⟨hl, hat⟩ := open_fields hu hfs h
    rw [T.cm] at hl
    obtain ⟨a, b, c, rfl⟩ := len3 hl
    obtain ⟨y0, h0⟩ := hat 0 _ _ rfl
    obtain ⟨y1, h1⟩ := hat 1 _ _ rfl
    obtain ⟨y2, h2⟩ := hat 2 _ _ rfl
    rw [T.cS] at h0
    rw [T.crs] at h1
    rw [T.cfs] at h2
    obtain ⟨s, rfl, hs⟩ := open_str1 T.s h0
    cases fuel with
    | zero => simp [DataW.trod] at h0
    | succ fuel =>
      obtain ⟨_, rs, hv, hr⟩ := open_rows (R := HRf) T.rs T.cr (by decide) (fun cs x hx => by
        cases fuel with
        | zero => simp [DataW.trod] at hx
        | succ fuel =>
          obtain ⟨fs, hu, hfs⟩ := T.r
          obtain ⟨hl, hat⟩ := open_fields hu hfs hx
          rw [T.cr] at hl
          obtain ⟨a, b, rfl⟩ := len2 hl
          obtain ⟨y0, h0⟩ := hat 0 _ _ rfl
          obtain ⟨y1, h1⟩ := hat 1 _ _ rfl
          rw [T.cS] at h0
          rw [T.ci] at h1
          obtain ⟨s, rfl, hs⟩ := open_str1 T.s h0
          obtain ⟨i, rfl, hi⟩ := open_int1 T.i h1
          exact ⟨⟨s, i⟩, rfl, hs, hi⟩) h1
      cases hv
      obtain ⟨_, fs, hv, hf⟩ := open_rows (R := HFn w (fun g => g < w.heap.size) (fuel + 1)) T.fs T.cf (by decide) (fun cs x hx => by
        cases fuel with
        | zero => simp [DataW.trod] at hx
        | succ fuel =>
          obtain ⟨fs, hu, hfs⟩ := T.f
          obtain ⟨hl, hat⟩ := open_fields hu hfs hx
          rw [T.cf] at hl
          obtain ⟨a, b, c, rfl⟩ := len3 hl
          obtain ⟨y0, h0⟩ := hat 0 _ _ rfl
          obtain ⟨y1, h1⟩ := hat 1 _ _ rfl
          obtain ⟨y2, h2⟩ := hat 2 _ _ rfl
          rw [T.cS] at h0
          rw [T.ci] at h1
          rw [T.ccs] at h2
          obtain ⟨s, rfl, hs⟩ := open_str1 T.s h0
          obtain ⟨i, rfl, hi⟩ := open_int1 T.i h1
          obtain ⟨cls, hcls⟩ := open_cls T.toExTypes (n := fuel + 1 + 1) (open_ex T.toExTypes (fuel + 1 + 1)) (by omega) h2
          exact ⟨⟨s, i, cls⟩, c, rfl, hs, hi, hcls⟩) h2
      cases hv
      exact ⟨fuel + 1, ⟨s, rs, fs⟩, b, c, rfl, hs, hr, hf⟩
end
end Go.Proofs.YtihffcphbcepoaaGreatDoor
/-
  What is alike for all trees in memory: weights, boxes, rows that are made; the forms of contracts.
-/
namespace Go.Proofs.YtihffcphbcepoaaGreatDoor
open Go.ChangeShapes Go.WideShapes Go.ChangeAt Go.RowKit
set_option linter.unusedVariables false

def wtS {α : Type} (f : α → Nat) (xs : List α) : Nat := xs.length + (xs.map f).sum
/-- What is left of so much, or -1. -/
def leftOf (left wt : Nat) : Int := if left < wt then -1 else ((left - wt : Nat) : Int)

theorem leftOf_lt {left wt : Nat} (h : left < wt) : leftOf left wt = -1 := if_pos h
theorem leftOf_ge {left wt : Nat} (h : wt ≤ left) : leftOf left wt = ((left - wt : Nat) : Int) := if_neg (by omega)
theorem sum_take_succ {α : Type} (f : α → Nat) (xs : List α) (k : Nat) (x : α) (h : xs[k]? = some x) : ((xs.take (k + 1)).map f).sum = ((xs.take k).map f).sum + f x := by
  rw [List.take_add_one, h]; simp
theorem sum_take_le {α : Type} (f : α → Nat) (xs : List α) (k : Nat) : ((xs.take k).map f).sum ≤ (xs.map f).sum := by
  conv => rhs; rw [← List.take_append_drop k xs]
  rw [List.map_append, List.sum_append]; omega

/-- A function of a value, told of a world and of what is left. -/
def SzC {α : Type} (F : FuncId) (H : World → Value → α → Prop) (wt : α → Nat) : Prop :=
  ∀ (w : World) (v : Value) (x : α) (left : Nat), H w v x → left ≤ 1048576 → Calls Tryz.prog F #[v, .int .i64 left] w fun e w' => e = .returned (.int .i64 (leftOf left (wt x))) ∧ Below w.heap.size w w'

theorem SzC.at {α : Type} {F : FuncId} {H : World → Value → α → Prop} {wt : α → Nat} (h : SzC F H wt) {w : World} {v : Value} (x : α) (l : Int) (left : Nat) (hl : l = left) (hx : H w v x) (hb : left ≤ 1048576) :
    Calls Tryz.prog F #[v, .int .i64 l] w fun e w' => e = .returned (.int .i64 (leftOf left (wt x))) ∧ Below w.heap.size w w' := by
  subst hl; exact h w v x left hx hb

/-- A function of two values that are one tree answers true and makes memory alone. -/
def EqC {α : Type} (F : FuncId) (H : World → Value → α → Prop) : Prop :=
  ∀ (w : World) (v1 v2 : Value) (x : α), H w v1 x → H w v2 x → Calls Tryz.prog F #[v1, v2] w fun e w' => e = .returned (.bool true) ∧ Below w.heap.size w w'

/-- A function that makes a copy, of what is not too great, in new memory. -/
def ToC {α : Type} (F : FuncId) (H : World → Value → α → Prop) (R : World → (Nat → Prop) → Value → α → Prop) (wt : α → Nat) : Prop :=
  ∀ (w : World) (v : Value) (x : α), H w v x → wt x ≤ 1048576 → Calls Tryz.prog F #[v] w fun e w' => ∃ u, e = .returned u ∧ R w' (fun g => w.heap.size ≤ g) u x ∧ Below w.heap.size w w'

theorem grownBy_transR {a b c : World} {r : Option Nat} (h : a.grownBy b r) (k : b.grownBy c r) : a.grownBy c r :=
  ⟨k.os.trans h.os, k.tape.trans h.tape, k.output.trans h.output, Nat.le_trans h.size k.size, fun j hj hr => (k.block j (Nat.lt_of_lt_of_le hj h.size) hr).trans (h.block j hj hr)⟩
theorem grownBy_belowR {a b : World} {r : Option Nat} (h : Below a.heap.size a b) : a.grownBy b r := ⟨h.os, h.tape, h.output, h.size, fun j hj _ => h.block j hj⟩
theorem below_grownR {a b : World} {B g : Nat} (h : a.grownBy b (some g)) (hB : B ≤ g) (hs : B ≤ a.heap.size) : Below B a b :=
  ⟨h.os, h.tape, h.output, h.size, fun j hj => h.block j (by omega) (by simp; omega)⟩
theorem own_someR {w : World} {B g n cap c : Nat} {e : TypeId} {xs : List Value} (h : w.ownsRow B e c (.slice (some ⟨g, 0, none⟩) n cap) n xs) (j : Nat) (hj : j < n * c) : ∃ u, w.cell? ⟨g, j, none⟩ = some u :=
  ⟨_, (h.cellAt j hj).trans (List.getElem?_eq_getElem (by rw [h.1]; exact hj))⟩

/-- A new row of n elements of a type: its cells, whatever they are. -/
theorem make_row {t e : TypeId} {c : Nat} (ht : Tryz.prog.underlying t = some (.slice e)) (hi : ((Tryz.prog.info? e).any fun i => i.zero.isSome && (i.size == c && decide (i.bytes ≤ 1000))) = true) (w : World) (n : Nat) (hn : n ≤ 1048576) :
    ∃ M : Array Value, M.size = n * c ∧ (Instr.makeSlice t (.int .i64 n) (.int .i64 n)).run Tryz.prog w = .ok (.slice (some ⟨w.heap.size, 0, none⟩) n n) (w.alloc (.cells M e)) := by
  cases h : Tryz.prog.info? e with
  | none => rw [h] at hi; cases hi
  | some i =>
    rw [h] at hi
    simp only [Option.any_some, Bool.and_eq_true, beq_iff_eq, decide_eq_true_eq] at hi
    obtain ⟨hz, hs, hb⟩ := hi
    obtain ⟨z, hz⟩ := Option.isSome_iff_exists.1 hz
    have := run_make (P := Tryz.prog) w t e i z ht h hz .i64 .i64 n n (by omega) (Int.le_refl _) (by
      have h1 : i.bytes * n ≤ 1000 * 1048576 := Nat.mul_le_mul hb hn
      have h2 : ((i.bytes * n : Nat) : Int) ≤ ((1000 * 1048576 : Nat) : Int) := by exact_mod_cast h1
      rw [Int.natCast_mul] at h2
      omega) (by omega)
    exact ⟨_, by rw [size_madeCells, hs]; simp, this⟩

/-- The block b holds just these cells; none is frozen. -/
def Blk (w : World) (b : Nat) (cs : Array Value) (t : TypeId) : Prop := w.heap[b]? = some (.cells cs t)
theorem Blk.cell {w : World} {b : Nat} {cs : Array Value} {t : TypeId} (h : Blk w b cs t) (j : Nat) (v : Value) (hv : cs[j]? = some v) : w.cell? ⟨b, j, none⟩ = some v := by
  unfold Blk at h; unfold World.cell?; rw [h]; simpa using hv
theorem Blk.frozen {w : World} {b : Nat} {cs : Array Value} {t : TypeId} (h : Blk w b cs t) (j : Nat) : w.frozen? ⟨b, j, none⟩ = false := by
  unfold Blk at h; unfold World.frozen?; rw [h]; simp
theorem Blk.below {w w' : World} {N b : Nat} {cs : Array Value} {t : TypeId} (h : Blk w b cs t) (hb : Below N w w') (hN : b < N) : Blk w' b cs t := (hb.block b hN).trans h
theorem Blk.new {w : World} {cs : Array Value} {t : TypeId} : Blk (w.alloc (.cells cs t)) w.heap.size cs t := by
  show (w.heap.push _)[w.heap.size]? = _
  simp
theorem Blk.alloc {w : World} {b : Nat} {cs : Array Value} {t : TypeId} {o : Obj} (h : Blk w b cs t) : Blk (w.alloc o) b cs t :=
  (Below.heap_alloc _ _ _ (by unfold Blk at h; exact (Array.getElem?_eq_some_iff.1 h).1)).trans h
theorem Blk.same {w : World} {b j : Nat} {cs cs' : Array Value} {t : TypeId} {v : Value} (h : Blk w b cs t) (hc : cs.setIfInBounds j v = cs') : Blk (w.setCell ⟨b, j, none⟩ v) b cs' t := by
  subst hc; exact heap_setCell_same w b j cs t v h
theorem Blk.other {w : World} {b : Nat} {p : Addr} {cs : Array Value} {t : TypeId} {v : Value} (h : Blk w b cs t) (hp : b ≠ p.block) : Blk (w.setCell p v) b cs t := (Below.heap_setCell _ _ _ _ hp).trans h
theorem SameOn.setCell {S : Nat → Prop} {a b : World} (h : SameOn S a b) {p : Addr} (hp : ¬ S p.block) (v : Value) : SameOn S a (b.setCell p v) :=
  ⟨by simpa [World.setCell] using h.1, fun g hg hl => (Below.heap_setCell _ _ _ _ (by intro e; exact hp (e ▸ hg))).trans (h.2 g hg hl)⟩
theorem setCell_hs (w : World) (p : Addr) (v : Value) : (w.setCell p v).heap.size = w.heap.size := by simp [World.setCell]

theorem set2_other {xs : List Value} {d0 d1 : Value} {m o : Nat} (h : m < o) : ((xs.set o d0).set (o + 1) d1)[m]? = xs[m]? := by
  rw [List.getElem?_set_ne (by omega), List.getElem?_set_ne (by omega)]
theorem set2_self {xs : List Value} {d0 d1 : Value} {o : Nat} (h : o + 1 < xs.length) (j : Nat) (hj : j < 2) : ((xs.set o d0).set (o + 1) d1)[o + j]? = [d0, d1][j]? := by
  match j, hj with
  | 0, _ => rw [List.getElem?_set_ne (by omega)]; exact List.getElem?_set_self (by omega)
  | 1, _ => rw [List.getElem?_set_self (by simp only [List.length_set]; omega)]; rfl
theorem stored2 {w : World} {B g n cap : Nat} {e : TypeId} {xs : List Value} (h : w.ownsRow B e 2 (.slice (some ⟨g, 0, none⟩) n cap) n xs) (o : Nat) (d0 d1 : Value) :
    ((w.setCell ⟨g, o, none⟩ d0).setCell ⟨g, o + 1, none⟩ d1).ownsRow B e 2 (.slice (some ⟨g, 0, none⟩) n cap) n ((xs.set o d0).set (o + 1) d1) ∧ w.grownBy ((w.setCell ⟨g, o, none⟩ d0).setCell ⟨g, o + 1, none⟩ d1) (some g) := by
  have s0 := h.stored o d0
  have s1 := s0.1.stored (o + 1) d1
  exact ⟨s1.1, grownBy_transR s0.2 (s1.2)⟩

theorem set3_other {xs : List Value} {d0 d1 d2 : Value} {m o : Nat} (h : m < o) : (((xs.set o d0).set (o + 1) d1).set (o + 2) d2)[m]? = xs[m]? := by
  rw [List.getElem?_set_ne (by omega), List.getElem?_set_ne (by omega), List.getElem?_set_ne (by omega)]
theorem set3_self {xs : List Value} {d0 d1 d2 : Value} {o : Nat} (h : o + 2 < xs.length) (j : Nat) (hj : j < 3) : (((xs.set o d0).set (o + 1) d1).set (o + 2) d2)[o + j]? = [d0, d1, d2][j]? := by
  match j, hj with
  | 0, _ => rw [List.getElem?_set_ne (by omega), List.getElem?_set_ne (by omega)]; exact List.getElem?_set_self (by omega)
  | 1, _ => rw [List.getElem?_set_ne (by omega), List.getElem?_set_self (by simp only [List.length_set]; omega)]; rfl
  | 2, _ => rw [List.getElem?_set_self (by simp only [List.length_set]; omega)]; rfl
theorem stored3 {w : World} {B g n cap : Nat} {e : TypeId} {xs : List Value} (h : w.ownsRow B e 3 (.slice (some ⟨g, 0, none⟩) n cap) n xs) (o : Nat) (d0 d1 d2 : Value) :
    (((w.setCell ⟨g, o, none⟩ d0).setCell ⟨g, o + 1, none⟩ d1).setCell ⟨g, o + 2, none⟩ d2).ownsRow B e 3 (.slice (some ⟨g, 0, none⟩) n cap) n (((xs.set o d0).set (o + 1) d1).set (o + 2) d2) ∧ w.grownBy (((w.setCell ⟨g, o, none⟩ d0).setCell ⟨g, o + 1, none⟩ d1).setCell ⟨g, o + 2, none⟩ d2) (some g) := by
  have s0 := h.stored o d0
  have s1 := s0.1.stored (o + 1) d1
  have s2 := s1.1.stored (o + 2) d2
  exact ⟨s2.1, grownBy_transR s0.2 (grownBy_transR s1.2 (s2.2))⟩

theorem set4_other {xs : List Value} {d0 d1 d2 d3 : Value} {m o : Nat} (h : m < o) : ((((xs.set o d0).set (o + 1) d1).set (o + 2) d2).set (o + 3) d3)[m]? = xs[m]? := by
  rw [List.getElem?_set_ne (by omega), List.getElem?_set_ne (by omega), List.getElem?_set_ne (by omega), List.getElem?_set_ne (by omega)]
theorem set4_self {xs : List Value} {d0 d1 d2 d3 : Value} {o : Nat} (h : o + 3 < xs.length) (j : Nat) (hj : j < 4) : ((((xs.set o d0).set (o + 1) d1).set (o + 2) d2).set (o + 3) d3)[o + j]? = [d0, d1, d2, d3][j]? := by
  match j, hj with
  | 0, _ => rw [List.getElem?_set_ne (by omega), List.getElem?_set_ne (by omega), List.getElem?_set_ne (by omega)]; exact List.getElem?_set_self (by omega)
  | 1, _ => rw [List.getElem?_set_ne (by omega), List.getElem?_set_ne (by omega), List.getElem?_set_self (by simp only [List.length_set]; omega)]; rfl
  | 2, _ => rw [List.getElem?_set_ne (by omega), List.getElem?_set_self (by simp only [List.length_set]; omega)]; rfl
  | 3, _ => rw [List.getElem?_set_self (by simp only [List.length_set]; omega)]; rfl
theorem stored4 {w : World} {B g n cap : Nat} {e : TypeId} {xs : List Value} (h : w.ownsRow B e 4 (.slice (some ⟨g, 0, none⟩) n cap) n xs) (o : Nat) (d0 d1 d2 d3 : Value) :
    ((((w.setCell ⟨g, o, none⟩ d0).setCell ⟨g, o + 1, none⟩ d1).setCell ⟨g, o + 2, none⟩ d2).setCell ⟨g, o + 3, none⟩ d3).ownsRow B e 4 (.slice (some ⟨g, 0, none⟩) n cap) n ((((xs.set o d0).set (o + 1) d1).set (o + 2) d2).set (o + 3) d3) ∧ w.grownBy ((((w.setCell ⟨g, o, none⟩ d0).setCell ⟨g, o + 1, none⟩ d1).setCell ⟨g, o + 2, none⟩ d2).setCell ⟨g, o + 3, none⟩ d3) (some g) := by
  have s0 := h.stored o d0
  have s1 := s0.1.stored (o + 1) d1
  have s2 := s1.1.stored (o + 2) d2
  have s3 := s2.1.stored (o + 3) d3
  exact ⟨s3.1, grownBy_transR s0.2 (grownBy_transR s1.2 (grownBy_transR s2.2 (s3.2)))⟩

theorem set5_other {xs : List Value} {d0 d1 d2 d3 d4 : Value} {m o : Nat} (h : m < o) : (((((xs.set o d0).set (o + 1) d1).set (o + 2) d2).set (o + 3) d3).set (o + 4) d4)[m]? = xs[m]? := by
  rw [List.getElem?_set_ne (by omega), List.getElem?_set_ne (by omega), List.getElem?_set_ne (by omega), List.getElem?_set_ne (by omega), List.getElem?_set_ne (by omega)]
theorem set5_self {xs : List Value} {d0 d1 d2 d3 d4 : Value} {o : Nat} (h : o + 4 < xs.length) (j : Nat) (hj : j < 5) : (((((xs.set o d0).set (o + 1) d1).set (o + 2) d2).set (o + 3) d3).set (o + 4) d4)[o + j]? = [d0, d1, d2, d3, d4][j]? := by
  match j, hj with
  | 0, _ => rw [List.getElem?_set_ne (by omega), List.getElem?_set_ne (by omega), List.getElem?_set_ne (by omega), List.getElem?_set_ne (by omega)]; exact List.getElem?_set_self (by omega)
  | 1, _ => rw [List.getElem?_set_ne (by omega), List.getElem?_set_ne (by omega), List.getElem?_set_ne (by omega), List.getElem?_set_self (by simp only [List.length_set]; omega)]; rfl
  | 2, _ => rw [List.getElem?_set_ne (by omega), List.getElem?_set_ne (by omega), List.getElem?_set_self (by simp only [List.length_set]; omega)]; rfl
  | 3, _ => rw [List.getElem?_set_ne (by omega), List.getElem?_set_self (by simp only [List.length_set]; omega)]; rfl
  | 4, _ => rw [List.getElem?_set_self (by simp only [List.length_set]; omega)]; rfl
theorem stored5 {w : World} {B g n cap : Nat} {e : TypeId} {xs : List Value} (h : w.ownsRow B e 5 (.slice (some ⟨g, 0, none⟩) n cap) n xs) (o : Nat) (d0 d1 d2 d3 d4 : Value) :
    (((((w.setCell ⟨g, o, none⟩ d0).setCell ⟨g, o + 1, none⟩ d1).setCell ⟨g, o + 2, none⟩ d2).setCell ⟨g, o + 3, none⟩ d3).setCell ⟨g, o + 4, none⟩ d4).ownsRow B e 5 (.slice (some ⟨g, 0, none⟩) n cap) n (((((xs.set o d0).set (o + 1) d1).set (o + 2) d2).set (o + 3) d3).set (o + 4) d4) ∧ w.grownBy (((((w.setCell ⟨g, o, none⟩ d0).setCell ⟨g, o + 1, none⟩ d1).setCell ⟨g, o + 2, none⟩ d2).setCell ⟨g, o + 3, none⟩ d3).setCell ⟨g, o + 4, none⟩ d4) (some g) := by
  have s0 := h.stored o d0
  have s1 := s0.1.stored (o + 1) d1
  have s2 := s1.1.stored (o + 2) d2
  have s3 := s2.1.stored (o + 3) d3
  have s4 := s3.1.stored (o + 4) d4
  exact ⟨s4.1, grownBy_transR s0.2 (grownBy_transR s1.2 (grownBy_transR s2.2 (grownBy_transR s3.2 (s4.2))))⟩

theorem set6_other {xs : List Value} {d0 d1 d2 d3 d4 d5 : Value} {m o : Nat} (h : m < o) : ((((((xs.set o d0).set (o + 1) d1).set (o + 2) d2).set (o + 3) d3).set (o + 4) d4).set (o + 5) d5)[m]? = xs[m]? := by
  rw [List.getElem?_set_ne (by omega), List.getElem?_set_ne (by omega), List.getElem?_set_ne (by omega), List.getElem?_set_ne (by omega), List.getElem?_set_ne (by omega), List.getElem?_set_ne (by omega)]
theorem set6_self {xs : List Value} {d0 d1 d2 d3 d4 d5 : Value} {o : Nat} (h : o + 5 < xs.length) (j : Nat) (hj : j < 6) : ((((((xs.set o d0).set (o + 1) d1).set (o + 2) d2).set (o + 3) d3).set (o + 4) d4).set (o + 5) d5)[o + j]? = [d0, d1, d2, d3, d4, d5][j]? := by
  match j, hj with
  | 0, _ => rw [List.getElem?_set_ne (by omega), List.getElem?_set_ne (by omega), List.getElem?_set_ne (by omega), List.getElem?_set_ne (by omega), List.getElem?_set_ne (by omega)]; exact List.getElem?_set_self (by omega)
  | 1, _ => rw [List.getElem?_set_ne (by omega), List.getElem?_set_ne (by omega), List.getElem?_set_ne (by omega), List.getElem?_set_ne (by omega), List.getElem?_set_self (by simp only [List.length_set]; omega)]; rfl
  | 2, _ => rw [List.getElem?_set_ne (by omega), List.getElem?_set_ne (by omega), List.getElem?_set_ne (by omega), List.getElem?_set_self (by simp only [List.length_set]; omega)]; rfl
  | 3, _ => rw [List.getElem?_set_ne (by omega), List.getElem?_set_ne (by omega), List.getElem?_set_self (by simp only [List.length_set]; omega)]; rfl
  | 4, _ => rw [List.getElem?_set_ne (by omega), List.getElem?_set_self (by simp only [List.length_set]; omega)]; rfl
  | 5, _ => rw [List.getElem?_set_self (by simp only [List.length_set]; omega)]; rfl
theorem stored6 {w : World} {B g n cap : Nat} {e : TypeId} {xs : List Value} (h : w.ownsRow B e 6 (.slice (some ⟨g, 0, none⟩) n cap) n xs) (o : Nat) (d0 d1 d2 d3 d4 d5 : Value) :
    ((((((w.setCell ⟨g, o, none⟩ d0).setCell ⟨g, o + 1, none⟩ d1).setCell ⟨g, o + 2, none⟩ d2).setCell ⟨g, o + 3, none⟩ d3).setCell ⟨g, o + 4, none⟩ d4).setCell ⟨g, o + 5, none⟩ d5).ownsRow B e 6 (.slice (some ⟨g, 0, none⟩) n cap) n ((((((xs.set o d0).set (o + 1) d1).set (o + 2) d2).set (o + 3) d3).set (o + 4) d4).set (o + 5) d5) ∧ w.grownBy ((((((w.setCell ⟨g, o, none⟩ d0).setCell ⟨g, o + 1, none⟩ d1).setCell ⟨g, o + 2, none⟩ d2).setCell ⟨g, o + 3, none⟩ d3).setCell ⟨g, o + 4, none⟩ d4).setCell ⟨g, o + 5, none⟩ d5) (some g) := by
  have s0 := h.stored o d0
  have s1 := s0.1.stored (o + 1) d1
  have s2 := s1.1.stored (o + 2) d2
  have s3 := s2.1.stored (o + 3) d3
  have s4 := s3.1.stored (o + 4) d4
  have s5 := s4.1.stored (o + 5) d5
  exact ⟨s5.1, grownBy_transR s0.2 (grownBy_transR s1.2 (grownBy_transR s2.2 (grownBy_transR s3.2 (grownBy_transR s4.2 (s5.2)))))⟩

/-- Whether two trees are one. -/
noncomputable def sameB {α : Type} (x y : α) : Bool := @decide (x = y) (Classical.propDecidable _)
theorem sameB_true {α : Type} {x y : α} (h : x = y) : sameB x y = true := by exact @decide_eq_true _ (Classical.propDecidable _) h
theorem sameB_false {α : Type} {x y : α} (h : x ≠ y) : sameB x y = false := by exact @decide_eq_false _ (Classical.propDecidable _) h

theorem str_ne {a b : ByteArray} (h : ¬ a = b) : ¬ a.toList = b.toList := fun e => h (bytes_inj (by rw [← ByteArray.toList_eq, ← ByteArray.toList_eq, e]))
theorem str_neB {a b : ByteArray} (h : ¬ a = b) : (a.toList == b.toList) = false := by simpa using str_ne h

/-- A function of two values tells whether their trees are one, and makes memory alone. -/
def CmpC {α : Type} (F : FuncId) (H : World → Value → α → Prop) : Prop :=
  ∀ (w : World) (v1 v2 : Value) (x y : α), H w v1 x → H w v2 y → Calls Tryz.prog F #[v1, v2] w fun e w' => e = .returned (.bool (sameB x y)) ∧ Below w.heap.size w w'

theorem take_succ_same {α : Type} {xs ys : List α} {k : Nat} {x : α} (h : xs.take k = ys.take k) (hx : xs[k]? = some x) (hy : ys[k]? = some x) : xs.take (k + 1) = ys.take (k + 1) := by
  rw [List.take_add_one, List.take_add_one, h, hx, hy]
theorem take_all_same {α : Type} {xs ys : List α} {k : Nat} (h : xs.take k = ys.take k) (hx : xs.length ≤ k) (hy : ys.length ≤ k) : xs = ys := by
  rwa [List.take_of_length_le hx, List.take_of_length_le hy] at h
theorem ne_at {α : Type} {xs ys : List α} {k : Nat} {x y : α} (hx : xs[k]? = some x) (hy : ys[k]? = some y) (h : x ≠ y) : xs ≠ ys := by
  intro e; rw [e, hy] at hx; exact h (Option.some.inj hx).symm

theorem Blk.lt {w : World} {b : Nat} {cs : Array Value} {t : TypeId} (h : Blk w b cs t) : b < w.heap.size := by
  unfold Blk at h; exact (Array.getElem?_eq_some_iff.1 h).1
theorem Blk.next {w w' : World} {b : Nat} {cs : Array Value} {t : TypeId} (h : Blk w b cs t) (hb : Below w.heap.size w w') : Blk w' b cs t := h.below hb h.lt
theorem cell_next {w w' : World} {a : Addr} {v : Value} (hb : Below w.heap.size w w') (h : w.cell? a = some v) : w'.cell? a = some v := by
  refine (hb.cell (p := a) ?_).trans h
  unfold World.cell? at h
  split at h
  · rename_i heq; exact (Array.getElem?_eq_some_iff.1 heq).1
  · cases h

theorem agg_of_cells {v : Value} {cs : List Value} (h : v.cells.toList = cs) (hl : cs.length ≠ 1) : v = .agg cs.toArray := by
  subst h
  cases v <;> first | (exfalso; exact hl rfl) | rfl
theorem Blk.same_on {w w' : World} {b : Nat} {cs : Array Value} {t : TypeId} (h : Blk w b cs t) (hs : SameOn All w w') : Blk w' b cs t :=
  (hs.2 b trivial (by unfold Blk at h; exact (Array.getElem?_eq_some_iff.1 h).1)).trans h

end Go.Proofs.YtihffcphbcepoaaGreatDoor
/-
  What AtomOk answers, of the program and of the specification. Conditions: the text is no longer than any text may be; the program's variable of the three words holds them.
-/
namespace Go.Proofs.YtihffcphbcepoaaGreatDoor
open Go.ChangeShapes Go.WideShapes Go.ChangeAt Go.RowKit
set_option linter.unusedVariables false

def keyB (s : ByteArray) : Bool := s.toList == [99, 97, 115, 101] || s.toList == [111, 102] || s.toList == [101, 110, 100]
/-- The three words lie in the program's variable. -/
def KeysAt (w : World) : Prop :=
  w.cell? ⟨1, 0, none⟩ = some (.string ⟨#[99, 97, 115, 101]⟩) ∧ w.cell? ⟨1, 1, none⟩ = some (.string ⟨#[111, 102]⟩) ∧ w.cell? ⟨1, 2, none⟩ = some (.string ⟨#[101, 110, 100]⟩)
def atomB (s : ByteArray) : Bool := nameB s && inB (firstN s) 97 122 && !keyB s

theorem keyB_not {s : ByteArray} (h0 : (s.toList == [99, 97, 115, 101]) = false) (h1 : (s.toList == [111, 102]) = false) (h2 : (s.toList == [101, 110, 100]) = false) : keyB s = false := by
  rw [keyB, h0, h1, h2]; rfl

theorem key0_yes {s : ByteArray} (h : ([99, 97, 115, 101] == s.toList) = true) : keyB s = true := by
  have e := (beq_iff_eq.1 h).symm
  simp [keyB, e]
theorem key0_no {s : ByteArray} (h : ([99, 97, 115, 101] == s.toList) = false) : (s.toList == [99, 97, 115, 101]) = false := by
  rw [beq_eq_false_iff_ne] at h ⊢
  exact fun e => h e.symm
theorem key1_yes {s : ByteArray} (h : ([111, 102] == s.toList) = true) : keyB s = true := by
  have e := (beq_iff_eq.1 h).symm
  simp [keyB, e]
theorem key1_no {s : ByteArray} (h : ([111, 102] == s.toList) = false) : (s.toList == [111, 102]) = false := by
  rw [beq_eq_false_iff_ne] at h ⊢
  exact fun e => h e.symm
theorem key2_yes {s : ByteArray} (h : ([101, 110, 100] == s.toList) = true) : keyB s = true := by
  have e := (beq_iff_eq.1 h).symm
  simp [keyB, e]
theorem key2_no {s : ByteArray} (h : ([101, 110, 100] == s.toList) = false) : (s.toList == [101, 110, 100]) = false := by
  rw [beq_eq_false_iff_ne] at h ⊢
  exact fun e => h e.symm

theorem l01Key_any (s : ByteArray) (w : World) :
    Calls Tryz.prog 155 #[.string s] w fun e w' => e = .returned (.bool (keyB s)) ∧ w' = w := by
  go_enter Tryz.func155, Tryz.ntmps155
  go_wp2
  all_goals go_ret
  · exact ⟨ret_bool (by simp [keyB, *]), rfl⟩
  · exact ⟨ret_bool (by simp [keyB, *]), rfl⟩
  · exact ⟨ret_bool (by simp [keyB]), rfl⟩

theorem keys_at0 (w : World) : Sem.run Tryz.prog (Instr.index 242 (.agg #[.string ⟨#[99, 97, 115, 101]⟩, .string ⟨#[111, 102]⟩, .string ⟨#[101, 110, 100]⟩]) (.int .i64 0)) w = .ok (.string ⟨#[99, 97, 115, 101]⟩) w := by kernel_rfl
theorem keys_at1 (w : World) : Sem.run Tryz.prog (Instr.index 242 (.agg #[.string ⟨#[99, 97, 115, 101]⟩, .string ⟨#[111, 102]⟩, .string ⟨#[101, 110, 100]⟩]) (.int .i64 1)) w = .ok (.string ⟨#[111, 102]⟩) w := by kernel_rfl
theorem keys_at2 (w : World) : Sem.run Tryz.prog (Instr.index 242 (.agg #[.string ⟨#[99, 97, 115, 101]⟩, .string ⟨#[111, 102]⟩, .string ⟨#[101, 110, 100]⟩]) (.int .i64 2)) w = .ok (.string ⟨#[101, 110, 100]⟩) w := by kernel_rfl
set_option maxRecDepth 100000 in
theorem isKeyword_any (s : ByteArray) (w : World) (hk : KeysAt w) :
    Calls Tryz.prog 159 #[.string s] w fun e w' => e = .returned (.bool (keyB s)) ∧ w' = w := by
  obtain ⟨h0, h1, h2⟩ := hk
  go_enter Tryz.func159, Tryz.ntmps159
  go_wp2
  go_loop [6] (fun i => ∃ k : Nat, k ≤ 3 ∧ i = .int .i64 k ∧ (1 ≤ k → (s.toList == [99, 97, 115, 101]) = false) ∧ (2 ≤ k → (s.toList == [111, 102]) = false) ∧ (3 ≤ k → (s.toList == [101, 110, 100]) = false)) (fun i => 3 - (intOf i).toNat)
  case atStart => exact ⟨0, by omega, rfl, by omega, by omega, by omega⟩
  case round =>
    obtain ⟨k, hk, rfl, n0, n1, n2⟩ := hrel
    have H0 : Hid (1 ≤ k → (s.toList == [99, 97, 115, 101]) = false) := n0
    have H1 : Hid (2 ≤ k → (s.toList == [111, 102]) = false) := n1
    have H2 : Hid (3 ≤ k → (s.toList == [101, 110, 100]) = false) := n2
    clear n0 n1 n2 h0 h1 h2
    rcases (by omega : k = 0 ∨ k = 1 ∨ k = 2 ∨ k = 3) with rfl | rfl | rfl | rfl
    · have r0 := keys_at0
      go_wp2
      · go_ret
        exact ⟨ret_bool (key0_yes ‹_›).symm, rfl⟩
      · go_round
        case rel => exact ⟨1, by omega, rfl, fun _ => key0_no ‹_›, by omega, by omega⟩
        case measure => simp [intOf]
    · have r1 := keys_at1
      go_wp2
      · go_ret
        exact ⟨ret_bool (key1_yes ‹_›).symm, rfl⟩
      · go_round
        case rel => exact ⟨2, by omega, rfl, fun _ => H0.out (by omega), fun _ => key1_no ‹_›, by omega⟩
        case measure => simp [intOf]
    · have r2 := keys_at2
      go_wp2
      · go_ret
        exact ⟨ret_bool (key2_yes ‹_›).symm, rfl⟩
      · go_round
        case rel => exact ⟨3, by omega, rfl, fun _ => H0.out (by omega), fun _ => H1.out (by omega), fun _ => key2_no ‹_›⟩
        case measure => simp [intOf]
    · go_wp2
      go_ret
      exact ⟨ret_bool (keyB_not (H0.out (by omega)) (H1.out (by omega)) (H2.out (by omega))).symm, rfl⟩

theorem specAtomOk_any (s : ByteArray) (w : World) (hs : s.size ≤ maxLen) :
    Calls Tryz.prog 115 #[.string s] w fun e w' => e = .returned (.bool (atomB s)) ∧ w' = w := by
  have hs' := hs
  unfold maxLen at hs
  have hn : nameB s = true ∨ nameB s = false := by cases nameB s <;> simp
  rcases hn with hn | hn
  · have hz := nameB_size s hn
    have hb := byte_lt s 0 hz
    have hf := first_eq s hz
    have HF : Hid ((s[0].toNat : Int) = firstN s) := hf
    clear hf
    have hi : inB (s[0].toNat : Int) 97 122 = true ∨ inB (s[0].toNat : Int) 97 122 = false := by cases inB (s[0].toNat : Int) 97 122 <;> simp
    rcases hi with hi | hi
    · go_enter Tryz.func115, Tryz.ntmps115
      go_wp2_with (first
        | (go_at_call 153; go_must (refine (l01Name_any _ _ hs').mono ?_; rintro e w' ⟨rfl, rfl⟩))
        | (go_at_call 154; go_must (refine (l01Small_any _ _ hb.1 hb.2).mono ?_; rintro e w' ⟨rfl, rfl⟩))
        | (go_at_call 155; go_must (refine (l01Key_any _ _).mono ?_; rintro e w' ⟨rfl, rfl⟩)))
      go_ret
      exact ⟨ret_bool (by rw [HF.out] at hi; simp [atomB, hn, hi]), rfl⟩
    · go_enter Tryz.func115, Tryz.ntmps115
      go_wp2_with (first
        | (go_at_call 153; go_must (refine (l01Name_any _ _ hs').mono ?_; rintro e w' ⟨rfl, rfl⟩))
        | (go_at_call 154; go_must (refine (l01Small_any _ _ hb.1 hb.2).mono ?_; rintro e w' ⟨rfl, rfl⟩)))
      go_ret
      exact ⟨ret_bool (by rw [HF.out] at hi; simp [atomB, hi]), rfl⟩
  · go_enter Tryz.func115, Tryz.ntmps115
    go_wp2_with (go_at_call 153; go_must (refine (l01Name_any _ _ hs').mono ?_; rintro e w' ⟨rfl, rfl⟩))
    go_ret
    exact ⟨ret_bool (by simp [atomB, hn]), rfl⟩

theorem implAtomOk_any (s : ByteArray) (w : World) (hs : s.size ≤ maxLen) (hk : KeysAt w) :
    Calls Tryz.prog 119 #[.string s] w fun e w' => e = .returned (.bool (atomB s)) ∧ w' = w := by
  have hs' := hs
  unfold maxLen at hs
  have hn : nameB s = true ∨ nameB s = false := by cases nameB s <;> simp
  rcases hn with hn | hn
  · have hz := nameB_size s hn
    have hb := byte_lt s 0 hz
    have hf := first_eq s hz
    have HF : Hid ((s[0].toNat : Int) = firstN s) := hf
    clear hf
    have hi : inB (s[0].toNat : Int) 97 122 = true ∨ inB (s[0].toNat : Int) 97 122 = false := by cases inB (s[0].toNat : Int) 97 122 <;> simp
    rcases hi with hi | hi
    · go_enter Tryz.func119, Tryz.ntmps119
      go_wp2_with (first
        | (go_at_call 157; go_must (refine (nameOk_any _ _ hs').mono ?_; rintro e w' ⟨rfl, rfl⟩))
        | (go_at_call 158; go_must (refine (isSmall_any _ _ hb.1 hb.2).mono ?_; rintro e w' ⟨rfl, rfl⟩))
        | (go_at_call 159; go_must (refine (isKeyword_any _ _ hk).mono ?_; rintro e w' ⟨rfl, rfl⟩)))
      go_ret
      exact ⟨ret_bool (by rw [HF.out] at hi; simp [atomB, hn, hi]), rfl⟩
    · go_enter Tryz.func119, Tryz.ntmps119
      go_wp2_with (first
        | (go_at_call 157; go_must (refine (nameOk_any _ _ hs').mono ?_; rintro e w' ⟨rfl, rfl⟩))
        | (go_at_call 158; go_must (refine (isSmall_any _ _ hb.1 hb.2).mono ?_; rintro e w' ⟨rfl, rfl⟩)))
      go_ret
      exact ⟨ret_bool (by rw [HF.out] at hi; simp [atomB, hi]), rfl⟩
  · go_enter Tryz.func119, Tryz.ntmps119
    go_wp2_with (go_at_call 157; go_must (refine (nameOk_any _ _ hs').mono ?_; rintro e w' ⟨rfl, rfl⟩))
    go_ret
    exact ⟨ret_bool (by simp [atomB, hn]), rfl⟩
end Go.Proofs.YtihffcphbcepoaaGreatDoor
/-
  What a right module is, as plain mathematics: expressions, clauses, functions, modules.
-/
namespace Go.Proofs.YtihffcphbcepoaaGreatDoor
open Go.ChangeShapes Go.WideShapes Go.ChangeAt Go.RowKit
set_option linter.unusedVariables false

def opB (t : ByteArray) : Bool := t.toList == [61, 61] || t.toList == [60] || t.toList == [43] || t.toList == [45] || t.toList == [42]
def numB (k n : Int) : Bool := if k = 0 then inB n 0 999999999 else decide (n = 0)
def modB (k : Int) (m : ByteArray) : Bool := decide (m.toList = []) || (decide (k = 8) && atomB m)
/-- What an expression's text is, by what its kind wants. -/
def tkB (k : Int) (t : ByteArray) : Bool := if k = 1 then atomB t else if k = 2 then varB t else if k = 3 then opB t else decide (t.toList = [])
def txtK (k : Int) : Int := if k = 1 ∨ k = 8 then 1 else if k = 2 then 2 else if k = 7 then 3 else 0
def txtB (k : Int) (t : ByteArray) : Bool := tkB (txtK k) t
/-- How many kids a kind has, the least and the most. -/
def kidLo (k : Int) : Int := if k = 4 ∨ k = 10 then 1 else if k = 6 ∨ k = 7 ∨ k = 9 then 2 else 0
def kidHi (k : Int) : Int := if k = 4 then 20 else if k = 6 ∨ k = 7 ∨ k = 9 then 2 else if k = 8 then 6 else if k = 10 then 1 else 0
def clsLo (k : Int) : Int := if k = 10 then 1 else 0
def clsHi (k : Int) : Int := if k = 10 then 20 else 0
/-- An expression's own parts. -/
def plainB (k n : Int) (t m : ByteArray) (nk nc : Nat) : Bool :=
  inB k 0 10 && (numB k n && (modB k m && (txtB k t && (inB nk (kidLo k) (kidHi k) && inB nc (clsLo k) (clsHi k)))))
/-- What a pattern may be, and what may be none. -/
def patB (k : Int) (pat : Bool) : Bool := if pat then decide (k ≤ 6) else !decide (k = 3)

def clB (f : Ex → Bool → Bool) (c : Cl) (pats : Int) : Bool := decide ((c.1.length : Int) = pats) && (inB c.2.length 1 20 && (c.1.all (fun y => f y true) && c.2.all (fun y => f y false)))
def kidsB (f : Ex → Bool → Bool) : List Ex → Bool → Bool → Bool
  | [], _, _ => true
  | x :: xs, p0, p => f x p0 && xs.all (fun y => f y p)
def exOk : Nat → Ex → Bool → Int → Bool
  | 0, _, _, _ => false
  | d + 1, .mk k n t m ks cs, pat, deep => decide (0 ≤ deep) && (plainB k n t m ks.length cs.length && (patB k pat && (kidsB (fun y q => exOk d y q (deep - 1)) ks (pat || decide (k = 9)) pat && cs.all (fun c => clB (fun y q => exOk d y q (deep - 1)) c 1))))

theorem kidsB_nil (f : Ex → Bool → Bool) (ks : List Ex) (p0 p : Bool) : kidsB f (ks.take 0) p0 p = true := by simp [kidsB]
theorem kidsB_succ (f : Ex → Bool → Bool) (ks : List Ex) (p0 p : Bool) (k : Nat) (x : Ex) (h : ks[k]? = some x) (ht : kidsB f (ks.take k) p0 p = true) (hx : f x (if k = 0 then p0 else p) = true) : kidsB f (ks.take (k + 1)) p0 p = true := by
  cases ks with
  | nil => simp at h
  | cons y ys =>
    cases k with
    | zero => simp at h hx; subst h; simp [kidsB, hx]
    | succ k =>
      simp only [List.getElem?_cons_succ] at h
      simp only [Nat.add_one_ne_zero, if_false] at hx
      simp only [List.take_succ_cons, kidsB, Bool.and_eq_true] at ht ⊢
      refine ⟨ht.1, ?_⟩
      rw [List.take_add_one, h, List.all_append, ht.2]
      simp [hx]
theorem kidsB_at (f : Ex → Bool → Bool) (ks : List Ex) (p0 p : Bool) (k : Nat) (x : Ex) (h : ks[k]? = some x) (hx : f x (if k = 0 then p0 else p) = false) : kidsB f ks p0 p = false := by
  cases ks with
  | nil => simp at h
  | cons y ys =>
    cases k with
    | zero => simp at h hx; subst h; simp [kidsB, hx]
    | succ k =>
      simp only [List.getElem?_cons_succ] at h
      simp only [Nat.add_one_ne_zero, if_false] at hx
      have : ys.all (fun y => f y p) = false := by rw [List.all_eq_false]; exact ⟨x, List.mem_of_getElem? h, by simp [hx]⟩
      simp [kidsB, this]
theorem kidsB_same (f : Ex → Bool → Bool) (ks : List Ex) (p : Bool) : kidsB f ks p p = ks.all (fun y => f y p) := by
  cases ks <;> simp [kidsB]
theorem allT_succ {α : Type} (f : α → Bool) (xs : List α) (k : Nat) (x : α) (h : xs[k]? = some x) (ht : (xs.take k).all f = true) (hx : f x = true) : (xs.take (k + 1)).all f = true := by
  rw [List.take_add_one, h, List.all_append, ht]; simp [hx]
theorem allT_at {α : Type} (f : α → Bool) (xs : List α) (k : Nat) (x : α) (h : xs[k]? = some x) (hx : f x = false) : xs.all f = false := by
  rw [List.all_eq_false]; exact ⟨x, List.mem_of_getElem? h, by simp [hx]⟩
theorem anyT_succ {α : Type} (f : α → Bool) (xs : List α) (k : Nat) (x : α) (h : xs[k]? = some x) (ht : (xs.take k).any f = false) (hx : f x = false) : (xs.take (k + 1)).any f = false := by
  rw [List.take_add_one, h, List.any_append, ht]; simp [hx]
theorem anyT_at {α : Type} (f : α → Bool) (xs : List α) (k : Nat) (x : α) (h : xs[k]? = some x) (hx : f x = true) : xs.any f = true := by
  rw [List.any_eq_true]; exact ⟨x, List.mem_of_getElem? h, hx⟩
theorem exOk_eq (d : Nat) (k n : Int) (t m : ByteArray) (ks : List Ex) (cs : List Cl) (pat : Bool) (deep : Int) :
    exOk (d + 1) (.mk k n t m ks cs) pat deep = (decide (0 ≤ deep) && (plainB k n t m ks.length cs.length && (patB k pat && (kidsB (fun y q => exOk d y q (deep - 1)) ks (pat || decide (k = 9)) pat && cs.all (fun c => clB (fun y q => exOk d y q (deep - 1)) c 1))))) := rfl
theorem plainB_range {k n : Int} {t m : ByteArray} {nk nc : Nat} (h : plainB k n t m nk nc = true) : 0 ≤ k ∧ k ≤ 10 := by
  unfold plainB at h
  rw [Bool.and_eq_true] at h
  have := h.1
  simp [inB] at this
  omega
end Go.Proofs.YtihffcphbcepoaaGreatDoor
/-
  The specification's ModuleOk, by contract: an expression's own parts.
-/
namespace Go.Proofs.YtihffcphbcepoaaGreatDoor
open Go.ChangeShapes Go.WideShapes Go.ChangeAt Go.RowKit
set_option linter.unusedVariables false

set_option maxHeartbeats 1000000 in
theorem l01Has_any (w : World) (g cap : Nat) (ss : List ByteArray) (s : ByteArray) (hl : ss.length ≤ 1000) (h : ∀ i x, ss[i]? = some x → w.cell? ⟨g, i, none⟩ = some (.string x)) :
    Calls Tryz.prog 68 #[.slice (some ⟨g, 0, none⟩) ss.length cap, .string s] w fun e w' => e = .returned (.bool (ss.any fun x => x.toList == s.toList)) ∧ w' = w := by
  have HH : Hid (∀ i x, ss[i]? = some x → w.cell? ⟨g, i, none⟩ = some (.string x)) := h
  generalize hn : ss.length = n at *
  have HN : Hid (ss.length = n) := hn
  clear h hn
  go_enter Tryz.func68, Tryz.ntmps68
  go_wp2
  go_loop [5] (fun iv => ∃ k : Nat, k ≤ n ∧ iv = .int .i64 k ∧ Hid ((ss.take k).any (fun x => x.toList == s.toList) = false)) (fun iv => n - (intOf iv).toNat)
  case atStart => exact ⟨0, Nat.zero_le _, rfl, by show _ = _; simp⟩
  case round =>
    obtain ⟨k, hk, rfl, hno⟩ := hrel
    by_cases hlt : k < n
    · obtain ⟨x, hxk⟩ : ∃ x, ss[k]? = some x := ⟨ss[k]'(by rw [HN.out]; exact hlt), List.getElem?_eq_getElem _⟩
      have a0 := HH.out k x hxk
      have hki : (k : Int) < (n : Int) := by omega
      have hk0 : (0 : Int) ≤ (k : Int) := by omega
      cases hq : (x.toList == s.toList) with
      | true =>
        have HS : Hid ((ss.any fun x => x.toList == s.toList) = true) := anyT_at _ ss k x hxk hq
        go_wp2
        go_ret
        exact ⟨by rw [HS.out]; rfl, rfl⟩
      | false =>
        have HS : Hid ((ss.take (k + 1)).any (fun x => x.toList == s.toList) = false) := anyT_succ _ ss k x hxk hno.out hq
        go_wp2
        go_round
        case rel => exact ⟨k + 1, by omega, by go_num, HS⟩
        case measure => simp [intOf]; omega
    · have HS : Hid ((ss.any fun x => x.toList == s.toList) = false) := by
        have := hno.out
        rwa [List.take_of_length_le (by rw [HN.out]; omega)] at this
      go_wp2
      go_ret
      exact ⟨by rw [HS.out]; rfl, rfl⟩

/-- The five signs. -/
def opsL : List ByteArray := [⟨#[61, 61]⟩, ⟨#[60]⟩, ⟨#[43]⟩, ⟨#[45]⟩, ⟨#[42]⟩]
theorem opsL_any (t : ByteArray) : (opsL.any fun x => x.toList == t.toList) = opB t := by
  have h : ∀ l : List UInt8, (l == t.toList) = (t.toList == l) := fun l => by rw [Bool.eq_iff_iff]; simp; exact eq_comm
  have e0 : (⟨#[61, 61]⟩ : ByteArray).toList = [61, 61] := by rw [ByteArray.toList_eq]
  have e1 : (⟨#[60]⟩ : ByteArray).toList = [60] := by rw [ByteArray.toList_eq]
  have e2 : (⟨#[43]⟩ : ByteArray).toList = [43] := by rw [ByteArray.toList_eq]
  have e3 : (⟨#[45]⟩ : ByteArray).toList = [45] := by rw [ByteArray.toList_eq]
  have e4 : (⟨#[42]⟩ : ByteArray).toList = [42] := by rw [ByteArray.toList_eq]
  simp only [opsL, List.any_cons, List.any_nil, Bool.or_false, opB, e0, e1, e2, e3, e4, h, Bool.or_assoc]
end Go.Proofs.YtihffcphbcepoaaGreatDoor
/-
  The specification's ModuleOk, by contract: l02Plain.
-/
namespace Go.Proofs.YtihffcphbcepoaaGreatDoor
open Go.ChangeShapes Go.WideShapes Go.ChangeAt Go.RowKit
set_option linter.unusedVariables false

theorem ops_at (W : World) (g : Nat) (hg : g = W.heap.size) : ∀ i x, opsL[i]? = some x → (W.alloc (.cells #[.string ⟨#[61, 61]⟩, .string ⟨#[60]⟩, .string ⟨#[43]⟩, .string ⟨#[45]⟩, .string ⟨#[42]⟩] 9)).cell? ⟨g, i, none⟩ = some (.string x) := by
  subst hg
  intro i x h
  match i, h with
  | 0, h => simp [opsL] at h; subst h; exact cell_new W _ _ 0 _ rfl
  | 1, h => simp [opsL] at h; subst h; exact cell_new W _ _ 1 _ rfl
  | 2, h => simp [opsL] at h; subst h; exact cell_new W _ _ 2 _ rfl
  | 3, h => simp [opsL] at h; subst h; exact cell_new W _ _ 3 _ rfl
  | 4, h => simp [opsL] at h; subst h; exact cell_new W _ _ 4 _ rfl
  | i + 5, h => simp [opsL] at h

set_option maxHeartbeats 8000000 in
set_option maxRecDepth 100000 in
theorem plainS_any (k n : Int) (t m : ByteArray) (p q : Option Addr) (nk c nc c' : Nat) (w : World) (hts : t.size ≤ maxLen) (hms : m.size ≤ maxLen) (hnk : nk ≤ 9223372036854775807) (hnc : nc ≤ 9223372036854775807) :
    Calls Tryz.prog 192 #[.agg #[.int .i64 k, .int .i64 n, .string t, .string m, .slice p nk c, .slice q nc c']] w fun e w' => e = .returned (.bool (plainB k n t m nk nc)) ∧ Below w.heap.size w w' := by
  by_cases c1 : ¬ k = 0 ∧ ¬ n = 0
  · obtain ⟨c1a, c1b⟩ := c1
    have HS : Hid (plainB k n t m nk nc = false) := by
      show _ = _
      simp [plainB, numB, c1a, c1b]
    have BL : Hid (Below w.heap.size w (w.alloc (.cells #[.int .i64 k, .int .i64 n, .string t, .string m, .slice p nk c, .slice q nc c'] 88))) := (Below.refl _ _).alloc (Nat.le_refl _) _
    go_enter Tryz.func192, Tryz.ntmps192
    go_wp2
    go_ret
    exact ⟨by rw [HS.out]; rfl, by first | exact BL.out | exact BL.out.alloc BL.out.size _⟩
  by_cases c2 : ¬ k = 8 ∧ ¬ m.toList = []
  · obtain ⟨c2a, c2b⟩ := c2
    have hm2 : (m.toList == []) = false := by simpa using c2b
    by_cases k0 : k = 0
    · subst k0
      have HS : Hid (plainB 0 n t m nk nc = false) := by
        show _ = _
        simp [plainB, modB, c2b]
      have BL : Hid (Below w.heap.size w (w.alloc (.cells #[.int .i64 0, .int .i64 n, .string t, .string m, .slice p nk c, .slice q nc c'] 88))) := (Below.refl _ _).alloc (Nat.le_refl _) _
      go_enter Tryz.func192, Tryz.ntmps192
      go_wp2
      go_ret
      exact ⟨by rw [HS.out]; rfl, by first | exact BL.out | exact BL.out.alloc BL.out.size _⟩
    · have n0 : n = 0 := Classical.byContradiction fun h => c1 ⟨k0, h⟩
      subst n0
      clear c1
      have HS : Hid (plainB k 0 t m nk nc = false) := by
        show _ = _
        simp [plainB, modB, c2a, c2b]
      have BL : Hid (Below w.heap.size w (w.alloc (.cells #[.int .i64 k, .int .i64 0, .string t, .string m, .slice p nk c, .slice q nc c'] 88))) := (Below.refl _ _).alloc (Nat.le_refl _) _
      go_enter Tryz.func192, Tryz.ntmps192
      go_wp2
      go_ret
      exact ⟨by rw [HS.out]; rfl, by first | exact BL.out | exact BL.out.alloc BL.out.size _⟩
  by_cases c3 : ¬ k = 10 ∧ ¬ nc = 0
  · obtain ⟨c3a, c3b⟩ := c3
    have hnc1 : (0 : Int) < (nc : Int) := by omega
    have hcl : inB nc (clsLo k) (clsHi k) = false := by simp [inB, clsLo, clsHi, c3a]; omega
    by_cases k0 : k = 0
    · subst k0
      have hm : m.toList = [] := Classical.byContradiction fun h => c2 ⟨by omega, h⟩
      have hm2 : (m.toList == []) = true := by simpa using hm
      clear c1 c2 hm
      have HS : Hid (plainB 0 n t m nk nc = false) := by
        show _ = _
        simp only [plainB, hcl]; simp
      have BL : Hid (Below w.heap.size w (w.alloc (.cells #[.int .i64 0, .int .i64 n, .string t, .string m, .slice p nk c, .slice q nc c'] 88))) := (Below.refl _ _).alloc (Nat.le_refl _) _
      go_enter Tryz.func192, Tryz.ntmps192
      go_wp2
      go_ret
      exact ⟨by rw [HS.out]; rfl, by first | exact BL.out | exact BL.out.alloc BL.out.size _⟩
    · have n0 : n = 0 := Classical.byContradiction fun h => c1 ⟨k0, h⟩
      subst n0
      clear c1
      by_cases k8 : k = 8
      · subst k8
        clear c2
        have HS : Hid (plainB 8 0 t m nk nc = false) := by
          show _ = _
          simp only [plainB, hcl]; simp
        have BL : Hid (Below w.heap.size w (w.alloc (.cells #[.int .i64 8, .int .i64 0, .string t, .string m, .slice p nk c, .slice q nc c'] 88))) := (Below.refl _ _).alloc (Nat.le_refl _) _
        go_enter Tryz.func192, Tryz.ntmps192
        go_wp2
        go_ret
        exact ⟨by rw [HS.out]; rfl, by first | exact BL.out | exact BL.out.alloc BL.out.size _⟩
      · have c3c : (k != 10) = true := by simpa using c3a
        have hnc2 : 0 < nc := by omega
        have hm : m.toList = [] := Classical.byContradiction fun h => c2 ⟨k8, h⟩
        have hm2 : (m.toList == []) = true := by simpa using hm
        clear c2 hm
        have HS : Hid (plainB k 0 t m nk nc = false) := by
          show _ = _
          simp only [plainB, hcl]; simp
        have BL : Hid (Below w.heap.size w (w.alloc (.cells #[.int .i64 k, .int .i64 0, .string t, .string m, .slice p nk c, .slice q nc c'] 88))) := (Below.refl _ _).alloc (Nat.le_refl _) _
        go_enter Tryz.func192, Tryz.ntmps192
        go_wp2
        go_ret
        exact ⟨by rw [HS.out]; rfl, by first | exact BL.out | exact BL.out.alloc BL.out.size _⟩
  have hm : k ≠ 8 → m.toList = [] := fun h8 => Classical.byContradiction fun h => c2 ⟨h8, h⟩
  have hn0 : k ≠ 0 → n = 0 := fun h0 => Classical.byContradiction fun h => c1 ⟨h0, h⟩
  have hc0 : k ≠ 10 → nc = 0 := fun h0 => Classical.byContradiction fun h => c3 ⟨h0, h⟩
  clear c1 c2 c3
  by_cases k0 : k = 0
  · subst k0
    obtain rfl := hc0 (by omega)
    have hm1 := hm (by omega)
    have hm2 : (m.toList == []) = true := by simpa using hm1
    clear hm hn0 hc0
    by_cases ht : t.toList = []
    · have ht2 : (t.toList == []) = true := by simpa using ht
      by_cases hk : nk = 0
      · subst hk
        have HS : Hid (plainB 0 n t m 0 0 = inB n 0 999999999) := by
          show _ = _
          (rw [Bool.eq_iff_iff]; simp [plainB, numB, modB, txtB, txtK, tkB, kidLo, kidHi, clsLo, clsHi, inB, ht, hm1])
        have BL : Hid (Below w.heap.size w (w.alloc (.cells #[.int .i64 0, .int .i64 n, .string t, .string m, .slice p 0 c, .slice q 0 c'] 88))) := (Below.refl _ _).alloc (Nat.le_refl _) _
        go_enter Tryz.func192, Tryz.ntmps192
        go_wp2_with (first | (go_at_call 115; go_must (refine (specAtomOk_any _ _ (by assumption)).mono ?_; rintro e w9 ⟨rfl, rfl⟩)) | (go_at_call 214; go_must (refine (specVarOk_any _ _ (by assumption)).mono ?_; rintro e w9 ⟨rfl, rfl⟩)) | (go_at_call 75; go_must (refine (l01In_any _ _ _ _).mono ?_; rintro e w9 ⟨rfl, rfl⟩)))
        go_ret
        exact ⟨by rw [HS.out]; rfl, by first | exact BL.out | exact BL.out.alloc BL.out.size _⟩
      · have hk2 : ((nk : Int) == 0) = false := by simp; omega
        have HS : Hid (plainB 0 n t m nk 0 = false) := by
          show _ = _
          (simp [plainB, numB, modB, txtB, txtK, tkB, kidLo, kidHi, clsLo, clsHi, inB, ht, hm1]; omega)
        have BL : Hid (Below w.heap.size w (w.alloc (.cells #[.int .i64 0, .int .i64 n, .string t, .string m, .slice p nk c, .slice q 0 c'] 88))) := (Below.refl _ _).alloc (Nat.le_refl _) _
        go_enter Tryz.func192, Tryz.ntmps192
        go_wp2_with (first | (go_at_call 115; go_must (refine (specAtomOk_any _ _ (by assumption)).mono ?_; rintro e w9 ⟨rfl, rfl⟩)) | (go_at_call 214; go_must (refine (specVarOk_any _ _ (by assumption)).mono ?_; rintro e w9 ⟨rfl, rfl⟩)) | (go_at_call 75; go_must (refine (l01In_any _ _ _ _).mono ?_; rintro e w9 ⟨rfl, rfl⟩)))
        go_ret
        exact ⟨by rw [HS.out]; rfl, by first | exact BL.out | exact BL.out.alloc BL.out.size _⟩
    · have ht2 : (t.toList == []) = false := by simpa using ht
      have HS : Hid (plainB 0 n t m nk 0 = false) := by
        show _ = _
        simp [plainB, numB, modB, txtB, txtK, tkB, kidLo, kidHi, clsLo, clsHi, inB, ht, hm1]
      have BL : Hid (Below w.heap.size w (w.alloc (.cells #[.int .i64 0, .int .i64 n, .string t, .string m, .slice p nk c, .slice q 0 c'] 88))) := (Below.refl _ _).alloc (Nat.le_refl _) _
      go_enter Tryz.func192, Tryz.ntmps192
      go_wp2
      go_ret
      exact ⟨by rw [HS.out]; rfl, by first | exact BL.out | exact BL.out.alloc BL.out.size _⟩
  by_cases k1 : k = 1
  · subst k1
    obtain rfl := hn0 (by omega)
    obtain rfl := hc0 (by omega)
    have hm1 := hm (by omega)
    have hm2 : (m.toList == []) = true := by simpa using hm1
    clear hm hn0 hc0
    cases ha : atomB t with
    | true =>
      have HS : Hid (plainB 1 0 t m nk 0 = ((nk : Int) == 0)) := by
        show _ = _
        (rw [Bool.eq_iff_iff]; simp [plainB, numB, modB, txtB, txtK, tkB, kidLo, kidHi, clsLo, clsHi, inB, ha, hm1] <;> omega)
      have BL : Hid (Below w.heap.size w (w.alloc (.cells #[.int .i64 1, .int .i64 0, .string t, .string m, .slice p nk c, .slice q 0 c'] 88))) := (Below.refl _ _).alloc (Nat.le_refl _) _
      go_enter Tryz.func192, Tryz.ntmps192
      go_wp2_with (first | (go_at_call 115; go_must (refine (specAtomOk_any _ _ (by assumption)).mono ?_; rintro e w9 ⟨rfl, rfl⟩; rw [ha])))
      go_ret
      exact ⟨by rw [HS.out]; rfl, by first | exact BL.out | exact BL.out.alloc BL.out.size _⟩
    | false =>
      have HS : Hid (plainB 1 0 t m nk 0 = false) := by
        show _ = _
        (simp [plainB, numB, modB, txtB, txtK, tkB, kidLo, kidHi, clsLo, clsHi, inB, ha])
      have BL : Hid (Below w.heap.size w (w.alloc (.cells #[.int .i64 1, .int .i64 0, .string t, .string m, .slice p nk c, .slice q 0 c'] 88))) := (Below.refl _ _).alloc (Nat.le_refl _) _
      go_enter Tryz.func192, Tryz.ntmps192
      go_wp2_with (first | (go_at_call 115; go_must (refine (specAtomOk_any _ _ (by assumption)).mono ?_; rintro e w9 ⟨rfl, rfl⟩; rw [ha])))
      go_ret
      exact ⟨by rw [HS.out]; rfl, by first | exact BL.out | exact BL.out.alloc BL.out.size _⟩
  by_cases k2 : k = 2
  · subst k2
    obtain rfl := hn0 (by omega)
    obtain rfl := hc0 (by omega)
    have hm1 := hm (by omega)
    have hm2 : (m.toList == []) = true := by simpa using hm1
    clear hm hn0 hc0
    cases ha : varB t with
    | true =>
      have HS : Hid (plainB 2 0 t m nk 0 = ((nk : Int) == 0)) := by
        show _ = _
        (rw [Bool.eq_iff_iff]; simp [plainB, numB, modB, txtB, txtK, tkB, kidLo, kidHi, clsLo, clsHi, inB, ha, hm1] <;> omega)
      have BL : Hid (Below w.heap.size w (w.alloc (.cells #[.int .i64 2, .int .i64 0, .string t, .string m, .slice p nk c, .slice q 0 c'] 88))) := (Below.refl _ _).alloc (Nat.le_refl _) _
      go_enter Tryz.func192, Tryz.ntmps192
      go_wp2_with (first | (go_at_call 214; go_must (refine (specVarOk_any _ _ (by assumption)).mono ?_; rintro e w9 ⟨rfl, rfl⟩; rw [ha])))
      go_ret
      exact ⟨by rw [HS.out]; rfl, by first | exact BL.out | exact BL.out.alloc BL.out.size _⟩
    | false =>
      have HS : Hid (plainB 2 0 t m nk 0 = false) := by
        show _ = _
        (simp [plainB, numB, modB, txtB, txtK, tkB, kidLo, kidHi, clsLo, clsHi, inB, ha])
      have BL : Hid (Below w.heap.size w (w.alloc (.cells #[.int .i64 2, .int .i64 0, .string t, .string m, .slice p nk c, .slice q 0 c'] 88))) := (Below.refl _ _).alloc (Nat.le_refl _) _
      go_enter Tryz.func192, Tryz.ntmps192
      go_wp2_with (first | (go_at_call 214; go_must (refine (specVarOk_any _ _ (by assumption)).mono ?_; rintro e w9 ⟨rfl, rfl⟩; rw [ha])))
      go_ret
      exact ⟨by rw [HS.out]; rfl, by first | exact BL.out | exact BL.out.alloc BL.out.size _⟩
  by_cases k3 : k = 3
  · subst k3
    obtain rfl := hn0 (by omega)
    obtain rfl := hc0 (by omega)
    have hm1 := hm (by omega)
    have hm2 : (m.toList == []) = true := by simpa using hm1
    clear hm hn0 hc0
    by_cases ht : t.toList = []
    · have ht2 : (t.toList == []) = true := by simpa using ht
      have HS : Hid (plainB 3 0 t m nk 0 = ((nk : Int) == 0)) := by
        show _ = _
        (rw [Bool.eq_iff_iff]; simp [plainB, numB, modB, txtB, txtK, tkB, kidLo, kidHi, clsLo, clsHi, inB, ht, hm1] <;> omega)
      have BL : Hid (Below w.heap.size w (w.alloc (.cells #[.int .i64 3, .int .i64 0, .string t, .string m, .slice p nk c, .slice q 0 c'] 88))) := (Below.refl _ _).alloc (Nat.le_refl _) _
      go_enter Tryz.func192, Tryz.ntmps192
      go_wp2
      go_ret
      exact ⟨by rw [HS.out]; rfl, by first | exact BL.out | exact BL.out.alloc BL.out.size _⟩
    · have ht2 : (t.toList == []) = false := by simpa using ht
      have HS : Hid (plainB 3 0 t m nk 0 = false) := by
        show _ = _
        simp [plainB, numB, modB, txtB, txtK, tkB, kidLo, kidHi, clsLo, clsHi, inB, ht, hm1]
      have BL : Hid (Below w.heap.size w (w.alloc (.cells #[.int .i64 3, .int .i64 0, .string t, .string m, .slice p nk c, .slice q 0 c'] 88))) := (Below.refl _ _).alloc (Nat.le_refl _) _
      go_enter Tryz.func192, Tryz.ntmps192
      go_wp2
      go_ret
      exact ⟨by rw [HS.out]; rfl, by first | exact BL.out | exact BL.out.alloc BL.out.size _⟩
  by_cases k4 : k = 4
  · subst k4
    obtain rfl := hn0 (by omega)
    obtain rfl := hc0 (by omega)
    have hm1 := hm (by omega)
    have hm2 : (m.toList == []) = true := by simpa using hm1
    clear hm hn0 hc0
    by_cases ht : t.toList = []
    · have ht2 : (t.toList == []) = true := by simpa using ht
      have HS : Hid (plainB 4 0 t m nk 0 = inB nk 1 20) := by
        show _ = _
        (rw [Bool.eq_iff_iff]; simp [plainB, numB, modB, txtB, txtK, tkB, kidLo, kidHi, clsLo, clsHi, inB, ht, hm1] <;> omega)
      have BL : Hid (Below w.heap.size w (w.alloc (.cells #[.int .i64 4, .int .i64 0, .string t, .string m, .slice p nk c, .slice q 0 c'] 88))) := (Below.refl _ _).alloc (Nat.le_refl _) _
      go_enter Tryz.func192, Tryz.ntmps192
      go_wp2_with (first | (go_at_call 115; go_must (refine (specAtomOk_any _ _ (by assumption)).mono ?_; rintro e w9 ⟨rfl, rfl⟩)) | (go_at_call 214; go_must (refine (specVarOk_any _ _ (by assumption)).mono ?_; rintro e w9 ⟨rfl, rfl⟩)) | (go_at_call 75; go_must (refine (l01In_any _ _ _ _).mono ?_; rintro e w9 ⟨rfl, rfl⟩)))
      go_ret
      exact ⟨by rw [HS.out]; rfl, by first | exact BL.out | exact BL.out.alloc BL.out.size _⟩
    · have ht2 : (t.toList == []) = false := by simpa using ht
      have HS : Hid (plainB 4 0 t m nk 0 = false) := by
        show _ = _
        simp [plainB, numB, modB, txtB, txtK, tkB, kidLo, kidHi, clsLo, clsHi, inB, ht, hm1]
      have BL : Hid (Below w.heap.size w (w.alloc (.cells #[.int .i64 4, .int .i64 0, .string t, .string m, .slice p nk c, .slice q 0 c'] 88))) := (Below.refl _ _).alloc (Nat.le_refl _) _
      go_enter Tryz.func192, Tryz.ntmps192
      go_wp2
      go_ret
      exact ⟨by rw [HS.out]; rfl, by first | exact BL.out | exact BL.out.alloc BL.out.size _⟩
  by_cases k5 : k = 5
  · subst k5
    obtain rfl := hn0 (by omega)
    obtain rfl := hc0 (by omega)
    have hm1 := hm (by omega)
    have hm2 : (m.toList == []) = true := by simpa using hm1
    clear hm hn0 hc0
    by_cases ht : t.toList = []
    · have ht2 : (t.toList == []) = true := by simpa using ht
      have HS : Hid (plainB 5 0 t m nk 0 = ((nk : Int) == 0)) := by
        show _ = _
        (rw [Bool.eq_iff_iff]; simp [plainB, numB, modB, txtB, txtK, tkB, kidLo, kidHi, clsLo, clsHi, inB, ht, hm1] <;> omega)
      have BL : Hid (Below w.heap.size w (w.alloc (.cells #[.int .i64 5, .int .i64 0, .string t, .string m, .slice p nk c, .slice q 0 c'] 88))) := (Below.refl _ _).alloc (Nat.le_refl _) _
      go_enter Tryz.func192, Tryz.ntmps192
      go_wp2
      go_ret
      exact ⟨by rw [HS.out]; rfl, by first | exact BL.out | exact BL.out.alloc BL.out.size _⟩
    · have ht2 : (t.toList == []) = false := by simpa using ht
      have HS : Hid (plainB 5 0 t m nk 0 = false) := by
        show _ = _
        simp [plainB, numB, modB, txtB, txtK, tkB, kidLo, kidHi, clsLo, clsHi, inB, ht, hm1]
      have BL : Hid (Below w.heap.size w (w.alloc (.cells #[.int .i64 5, .int .i64 0, .string t, .string m, .slice p nk c, .slice q 0 c'] 88))) := (Below.refl _ _).alloc (Nat.le_refl _) _
      go_enter Tryz.func192, Tryz.ntmps192
      go_wp2
      go_ret
      exact ⟨by rw [HS.out]; rfl, by first | exact BL.out | exact BL.out.alloc BL.out.size _⟩
  by_cases k6 : k = 6
  · subst k6
    obtain rfl := hn0 (by omega)
    obtain rfl := hc0 (by omega)
    have hm1 := hm (by omega)
    have hm2 : (m.toList == []) = true := by simpa using hm1
    clear hm hn0 hc0
    by_cases ht : t.toList = []
    · have ht2 : (t.toList == []) = true := by simpa using ht
      have HS : Hid (plainB 6 0 t m nk 0 = ((nk : Int) == 2)) := by
        show _ = _
        (rw [Bool.eq_iff_iff]; simp [plainB, numB, modB, txtB, txtK, tkB, kidLo, kidHi, clsLo, clsHi, inB, ht, hm1] <;> omega)
      have BL : Hid (Below w.heap.size w (w.alloc (.cells #[.int .i64 6, .int .i64 0, .string t, .string m, .slice p nk c, .slice q 0 c'] 88))) := (Below.refl _ _).alloc (Nat.le_refl _) _
      go_enter Tryz.func192, Tryz.ntmps192
      go_wp2
      go_ret
      exact ⟨by rw [HS.out]; rfl, by first | exact BL.out | exact BL.out.alloc BL.out.size _⟩
    · have ht2 : (t.toList == []) = false := by simpa using ht
      have HS : Hid (plainB 6 0 t m nk 0 = false) := by
        show _ = _
        simp [plainB, numB, modB, txtB, txtK, tkB, kidLo, kidHi, clsLo, clsHi, inB, ht, hm1]
      have BL : Hid (Below w.heap.size w (w.alloc (.cells #[.int .i64 6, .int .i64 0, .string t, .string m, .slice p nk c, .slice q 0 c'] 88))) := (Below.refl _ _).alloc (Nat.le_refl _) _
      go_enter Tryz.func192, Tryz.ntmps192
      go_wp2
      go_ret
      exact ⟨by rw [HS.out]; rfl, by first | exact BL.out | exact BL.out.alloc BL.out.size _⟩
  by_cases k7 : k = 7
  · subst k7
    obtain rfl := hn0 (by omega)
    obtain rfl := hc0 (by omega)
    have hm1 := hm (by omega)
    have hm2 : (m.toList == []) = true := by simpa using hm1
    clear hm hn0 hc0
    cases ha : opB t with
    | true =>
      have HOP : Hid (∀ i x, opsL[i]? = some x → ((w.alloc (.cells #[.int .i64 7, .int .i64 0, .string t, .string m, .slice p nk c, .slice q 0 c'] 88)).alloc (.cells #[.string ⟨#[61, 61]⟩, .string ⟨#[60]⟩, .string ⟨#[43]⟩, .string ⟨#[45]⟩, .string ⟨#[42]⟩] 9)).cell? ⟨w.heap.size + 1, i, none⟩ = some (.string x)) := ops_at _ _ (by simp only [alloc_hs])
      have HS : Hid (plainB 7 0 t m nk 0 = ((nk : Int) == 2)) := by
        show _ = _
        (rw [Bool.eq_iff_iff]; simp [plainB, numB, modB, txtB, txtK, tkB, kidLo, kidHi, clsLo, clsHi, inB, ha, hm1] <;> omega)
      have BL : Hid (Below w.heap.size w (w.alloc (.cells #[.int .i64 7, .int .i64 0, .string t, .string m, .slice p nk c, .slice q 0 c'] 88))) := (Below.refl _ _).alloc (Nat.le_refl _) _
      go_enter Tryz.func192, Tryz.ntmps192
      go_wp2_with (first | (go_at_call 68; go_must (refine (l01Has_any _ _ _ opsL t (by decide) (by exact HOP.out)).mono ?_; rintro e w9 ⟨rfl, rfl⟩; rw [opsL_any, ha])))
      go_ret
      exact ⟨by rw [HS.out]; rfl, by first | exact BL.out | exact BL.out.alloc BL.out.size _⟩
    | false =>
      have HOP : Hid (∀ i x, opsL[i]? = some x → ((w.alloc (.cells #[.int .i64 7, .int .i64 0, .string t, .string m, .slice p nk c, .slice q 0 c'] 88)).alloc (.cells #[.string ⟨#[61, 61]⟩, .string ⟨#[60]⟩, .string ⟨#[43]⟩, .string ⟨#[45]⟩, .string ⟨#[42]⟩] 9)).cell? ⟨w.heap.size + 1, i, none⟩ = some (.string x)) := ops_at _ _ (by simp only [alloc_hs])
      have HS : Hid (plainB 7 0 t m nk 0 = false) := by
        show _ = _
        (simp [plainB, numB, modB, txtB, txtK, tkB, kidLo, kidHi, clsLo, clsHi, inB, ha])
      have BL : Hid (Below w.heap.size w (w.alloc (.cells #[.int .i64 7, .int .i64 0, .string t, .string m, .slice p nk c, .slice q 0 c'] 88))) := (Below.refl _ _).alloc (Nat.le_refl _) _
      go_enter Tryz.func192, Tryz.ntmps192
      go_wp2_with (first | (go_at_call 68; go_must (refine (l01Has_any _ _ _ opsL t (by decide) (by exact HOP.out)).mono ?_; rintro e w9 ⟨rfl, rfl⟩; rw [opsL_any, ha])))
      go_ret
      exact ⟨by rw [HS.out]; rfl, by first | exact BL.out | exact BL.out.alloc BL.out.size _⟩
  by_cases k8 : k = 8
  · subst k8
    obtain rfl := hn0 (by omega)
    obtain rfl := hc0 (by omega)
    clear hm hn0 hc0
    cases ha : atomB t with
    | true =>
      by_cases hk : nk ≤ 6
      · have hk2 : (nk : Int) ≤ 6 := by omega
        by_cases hm1 : m.toList = []
        · have hm2 : (m.toList == []) = true := by simpa using hm1
          have HS : Hid (plainB 8 0 t m nk 0 = true) := by
            show _ = _
            (simp [plainB, numB, modB, txtB, txtK, tkB, kidLo, kidHi, clsLo, clsHi, inB, ha, hm1]; omega)
          have BL : Hid (Below w.heap.size w (w.alloc (.cells #[.int .i64 8, .int .i64 0, .string t, .string m, .slice p nk c, .slice q 0 c'] 88))) := (Below.refl _ _).alloc (Nat.le_refl _) _
          go_enter Tryz.func192, Tryz.ntmps192
          go_wp2_with (first | (go_at_call_of 115 t; go_must (refine (specAtomOk_any _ _ hts).mono ?_; rintro e w9 ⟨rfl, rfl⟩; rw [ha])))
          go_ret
          exact ⟨by rw [HS.out]; rfl, by first | exact BL.out | exact BL.out.alloc BL.out.size _⟩
        · have hm2 : (m.toList == []) = false := by simpa using hm1
          have HS : Hid (plainB 8 0 t m nk 0 = atomB m) := by
            show _ = _
            (rw [Bool.eq_iff_iff]; simp [plainB, numB, modB, txtB, txtK, tkB, kidLo, kidHi, clsLo, clsHi, inB, ha, hm1]; omega)
          have BL : Hid (Below w.heap.size w (w.alloc (.cells #[.int .i64 8, .int .i64 0, .string t, .string m, .slice p nk c, .slice q 0 c'] 88))) := (Below.refl _ _).alloc (Nat.le_refl _) _
          go_enter Tryz.func192, Tryz.ntmps192
          go_wp2_with (first | (go_at_call_of 115 t; go_must (refine (specAtomOk_any _ _ hts).mono ?_; rintro e w9 ⟨rfl, rfl⟩; rw [ha])) | (go_at_call_of 115 m; go_must (refine (specAtomOk_any _ _ hms).mono ?_; rintro e w9 ⟨rfl, rfl⟩)))
          go_ret
          exact ⟨by rw [HS.out]; rfl, by first | exact BL.out | exact BL.out.alloc BL.out.size _⟩
      · have hk2 : (6 : Int) < (nk : Int) := by omega
        have HS : Hid (plainB 8 0 t m nk 0 = false) := by
          show _ = _
          (simp [plainB, numB, modB, txtB, txtK, tkB, kidLo, kidHi, clsLo, clsHi, inB, ha]; omega)
        have BL : Hid (Below w.heap.size w (w.alloc (.cells #[.int .i64 8, .int .i64 0, .string t, .string m, .slice p nk c, .slice q 0 c'] 88))) := (Below.refl _ _).alloc (Nat.le_refl _) _
        go_enter Tryz.func192, Tryz.ntmps192
        go_wp2_with (first | (go_at_call_of 115 t; go_must (refine (specAtomOk_any _ _ hts).mono ?_; rintro e w9 ⟨rfl, rfl⟩; rw [ha])))
        go_ret
        exact ⟨by rw [HS.out]; rfl, by first | exact BL.out | exact BL.out.alloc BL.out.size _⟩
    | false =>
      have HS : Hid (plainB 8 0 t m nk 0 = false) := by
        show _ = _
        (simp [plainB, numB, modB, txtB, txtK, tkB, kidLo, kidHi, clsLo, clsHi, inB, ha])
      have BL : Hid (Below w.heap.size w (w.alloc (.cells #[.int .i64 8, .int .i64 0, .string t, .string m, .slice p nk c, .slice q 0 c'] 88))) := (Below.refl _ _).alloc (Nat.le_refl _) _
      go_enter Tryz.func192, Tryz.ntmps192
      go_wp2_with (first | (go_at_call_of 115 t; go_must (refine (specAtomOk_any _ _ hts).mono ?_; rintro e w9 ⟨rfl, rfl⟩; rw [ha])))
      go_ret
      exact ⟨by rw [HS.out]; rfl, by first | exact BL.out | exact BL.out.alloc BL.out.size _⟩
  by_cases k9 : k = 9
  · subst k9
    obtain rfl := hn0 (by omega)
    obtain rfl := hc0 (by omega)
    have hm1 := hm (by omega)
    have hm2 : (m.toList == []) = true := by simpa using hm1
    clear hm hn0 hc0
    by_cases ht : t.toList = []
    · have ht2 : (t.toList == []) = true := by simpa using ht
      have HS : Hid (plainB 9 0 t m nk 0 = ((nk : Int) == 2)) := by
        show _ = _
        (rw [Bool.eq_iff_iff]; simp [plainB, numB, modB, txtB, txtK, tkB, kidLo, kidHi, clsLo, clsHi, inB, ht, hm1] <;> omega)
      have BL : Hid (Below w.heap.size w (w.alloc (.cells #[.int .i64 9, .int .i64 0, .string t, .string m, .slice p nk c, .slice q 0 c'] 88))) := (Below.refl _ _).alloc (Nat.le_refl _) _
      go_enter Tryz.func192, Tryz.ntmps192
      go_wp2
      go_ret
      exact ⟨by rw [HS.out]; rfl, by first | exact BL.out | exact BL.out.alloc BL.out.size _⟩
    · have ht2 : (t.toList == []) = false := by simpa using ht
      have HS : Hid (plainB 9 0 t m nk 0 = false) := by
        show _ = _
        simp [plainB, numB, modB, txtB, txtK, tkB, kidLo, kidHi, clsLo, clsHi, inB, ht, hm1]
      have BL : Hid (Below w.heap.size w (w.alloc (.cells #[.int .i64 9, .int .i64 0, .string t, .string m, .slice p nk c, .slice q 0 c'] 88))) := (Below.refl _ _).alloc (Nat.le_refl _) _
      go_enter Tryz.func192, Tryz.ntmps192
      go_wp2
      go_ret
      exact ⟨by rw [HS.out]; rfl, by first | exact BL.out | exact BL.out.alloc BL.out.size _⟩
  by_cases k10 : k = 10
  · subst k10
    obtain rfl := hn0 (by omega)
    have hm1 := hm (by omega)
    have hm2 : (m.toList == []) = true := by simpa using hm1
    clear hm hn0 hc0
    by_cases ht : t.toList = []
    · have ht2 : (t.toList == []) = true := by simpa using ht
      by_cases hk : nk = 1
      · subst hk
        have HS : Hid (plainB 10 0 t m 1 nc = inB nc 1 20) := by
          show _ = _
          (rw [Bool.eq_iff_iff]; simp [plainB, numB, modB, txtB, txtK, tkB, kidLo, kidHi, clsLo, clsHi, inB, ht, hm1])
        have BL : Hid (Below w.heap.size w (w.alloc (.cells #[.int .i64 10, .int .i64 0, .string t, .string m, .slice p 1 c, .slice q nc c'] 88))) := (Below.refl _ _).alloc (Nat.le_refl _) _
        go_enter Tryz.func192, Tryz.ntmps192
        go_wp2_with (first | (go_at_call 115; go_must (refine (specAtomOk_any _ _ (by assumption)).mono ?_; rintro e w9 ⟨rfl, rfl⟩)) | (go_at_call 214; go_must (refine (specVarOk_any _ _ (by assumption)).mono ?_; rintro e w9 ⟨rfl, rfl⟩)) | (go_at_call 75; go_must (refine (l01In_any _ _ _ _).mono ?_; rintro e w9 ⟨rfl, rfl⟩)))
        go_ret
        exact ⟨by rw [HS.out]; rfl, by first | exact BL.out | exact BL.out.alloc BL.out.size _⟩
      · have hk2 : ((nk : Int) == 1) = false := by simp; omega
        have HS : Hid (plainB 10 0 t m nk nc = false) := by
          show _ = _
          (simp [plainB, numB, modB, txtB, txtK, tkB, kidLo, kidHi, clsLo, clsHi, inB, ht, hm1]; omega)
        have BL : Hid (Below w.heap.size w (w.alloc (.cells #[.int .i64 10, .int .i64 0, .string t, .string m, .slice p nk c, .slice q nc c'] 88))) := (Below.refl _ _).alloc (Nat.le_refl _) _
        go_enter Tryz.func192, Tryz.ntmps192
        go_wp2_with (first | (go_at_call 115; go_must (refine (specAtomOk_any _ _ (by assumption)).mono ?_; rintro e w9 ⟨rfl, rfl⟩)) | (go_at_call 214; go_must (refine (specVarOk_any _ _ (by assumption)).mono ?_; rintro e w9 ⟨rfl, rfl⟩)) | (go_at_call 75; go_must (refine (l01In_any _ _ _ _).mono ?_; rintro e w9 ⟨rfl, rfl⟩)))
        go_ret
        exact ⟨by rw [HS.out]; rfl, by first | exact BL.out | exact BL.out.alloc BL.out.size _⟩
    · have ht2 : (t.toList == []) = false := by simpa using ht
      have HS : Hid (plainB 10 0 t m nk nc = false) := by
        show _ = _
        simp [plainB, numB, modB, txtB, txtK, tkB, kidLo, kidHi, clsLo, clsHi, inB, ht, hm1]
      have BL : Hid (Below w.heap.size w (w.alloc (.cells #[.int .i64 10, .int .i64 0, .string t, .string m, .slice p nk c, .slice q nc c'] 88))) := (Below.refl _ _).alloc (Nat.le_refl _) _
      go_enter Tryz.func192, Tryz.ntmps192
      go_wp2
      go_ret
      exact ⟨by rw [HS.out]; rfl, by first | exact BL.out | exact BL.out.alloc BL.out.size _⟩
  obtain rfl := hn0 k0
  obtain rfl := hc0 k10
  have hm1 := hm k8
  have hm2 : (m.toList == []) = true := by simpa using hm1
  clear hm hn0 hc0 hm1
  have HS : Hid (plainB k 0 t m nk 0 = false) := by
    show _ = _
    (have : inB k 0 10 = false := by (simp [inB]; omega)); simp [plainB, this]
  have BL : Hid (Below w.heap.size w (w.alloc (.cells #[.int .i64 k, .int .i64 0, .string t, .string m, .slice p nk c, .slice q 0 c'] 88))) := (Below.refl _ _).alloc (Nat.le_refl _) _
  go_enter Tryz.func192, Tryz.ntmps192
  go_wp2
  go_ret
  exact ⟨by rw [HS.out]; rfl, by first | exact BL.out | exact BL.out.alloc BL.out.size _⟩
end Go.Proofs.YtihffcphbcepoaaGreatDoor
/-
  The specification's ModuleOk, by contract: expressions and clauses.
-/
namespace Go.Proofs.YtihffcphbcepoaaGreatDoor
open Go.ChangeShapes Go.WideShapes Go.ChangeAt Go.RowKit
set_option linter.unusedVariables false

def RgC (d : Nat) : Prop :=
  ∀ (w : World) (cs : List Value) (x : Ex) (pat : Bool) (deep : Int), HEx w All d cs x → -1 ≤ deep → deep ≤ 40 → Calls Tryz.prog 156 #[.agg cs.toArray, .bool pat, .int .i64 deep] w fun e w' => e = .returned (.bool (exOk d x pat deep)) ∧ Below w.heap.size w w'
def ClC (d : Nat) : Prop :=
  ∀ (w : World) (cs : List Value) (c : Cl) (pats deep : Int), HCl w All (HEx w All d) cs c → -1 ≤ deep → deep ≤ 40 → Calls Tryz.prog 117 #[.agg cs.toArray, .int .i64 pats, .int .i64 deep] w fun e w' => e = .returned (.bool (clB (fun y q => exOk d y q deep) c pats)) ∧ Below w.heap.size w w'

set_option maxHeartbeats 8000000 in
set_option maxRecDepth 100000 in
theorem clauseS_of {d : Nat} (hE : RgC d) : ClC d := by
  intro w cs c pats deep h hd0 hd1
  obtain ⟨pv, bv, rfl, f0, f1⟩ := h
  obtain ⟨ps, bs⟩ := c
  simp only at f0 f1
  obtain ⟨p, cap, rfl, hcl, hcm, hx⟩ := f0
  obtain ⟨q, cap', rfl, hcl', hcm', hy⟩ := f1
  have hnb : ps.length ≤ 9223372036854775807 := by unfold maxLen at hcm; omega
  have hmb : bs.length ≤ 9223372036854775807 := by unfold maxLen at hcm'; omega
  have hv : clB (fun y q => exOk d y q deep) (ps, bs) pats = (decide ((ps.length : Int) = pats) && (inB bs.length 1 20 && (ps.all (fun y => exOk d y true deep) && bs.all (fun y => exOk d y false deep)))) := rfl
  rw [hv]
  clear hv
  generalize hn : ps.length = n at *
  generalize hm : bs.length = m at *
  have HN : Hid (ps.length = n) := hn
  have HM : Hid (bs.length = m) := hm
  have HX : Hid (ps ≠ [] → ∃ g off, p = some ⟨g, off, none⟩ ∧ All g ∧ g < w.heap.size ∧ ∀ i x, ps[i]? = some x → ∃ cs, cs.length = 6 ∧ (∀ j, j < 6 → w.cell? ⟨g, off + i * 6 + j, none⟩ = cs[j]?) ∧ HEx w All d cs x) := hx
  have HY : Hid (bs ≠ [] → ∃ g off, q = some ⟨g, off, none⟩ ∧ All g ∧ g < w.heap.size ∧ ∀ i x, bs[i]? = some x → ∃ cs, cs.length = 6 ∧ (∀ j, j < 6 → w.cell? ⟨g, off + i * 6 + j, none⟩ = cs[j]?) ∧ HEx w All d cs x) := hy
  obtain ⟨W1, hW1⟩ : ∃ W1, W1 = w.alloc (.cells #[.slice p n cap, .slice q m cap'] 78) := ⟨_, rfl⟩
  have bA : Hid (Blk W1 w.heap.size #[.slice p n cap, .slice q m cap'] 78) := by show Blk _ _ _ _; rw [hW1]; exact Blk.new
  have B1 : Hid (Below w.heap.size w W1) := by show Below _ _ _; rw [hW1]; exact (Below.refl _ _).alloc (Nat.le_refl _) _
  have HW1 : Hid (W1 = w.alloc (.cells #[.slice p n cap, .slice q m cap'] 78)) := hW1
  clear hx hy hn hm hW1
  by_cases c1 : (n : Int) = pats
  · subst c1
    cases hin : inB m 1 20 with
    | true =>
      go_enter Tryz.func117, Tryz.ntmps117
      go_wp2_with (first | (go_at_call 75; go_must (refine (l01In_any _ _ _ _).mono ?_; rintro e w9 ⟨rfl, rfl⟩; rw [hin])))
      rw [← HW1.out]
      go_loopw [7] (fun iv wr => ∃ k1 : Nat, k1 ≤ n ∧ iv = .int .i64 k1 ∧ Hid ((ps.take k1).all (fun y => exOk d y true deep) = true) ∧ Hid (SameOn All W1 wr) ∧ Below w.heap.size w wr) (fun iv _ => n - (intOf iv).toNat)
      case atStart => exact ⟨0, Nat.zero_le _, rfl, by show _ = _; simp, ⟨Nat.le_refl _, fun _ _ _ => rfl⟩, B1.out⟩
      case round =>
        obtain ⟨k1, hk, rfl, hall, hso, hb⟩ := hrel
        have HB : Hid (Below w.heap.size w wr) := hb
        have b1 := bA.out.same_on hso.out
        have xa0 := b1.cell 0 _ rfl
        have xa1 := b1.cell 1 _ rfl
        clear b1
        by_cases hlt : k1 < n
        · obtain ⟨x, hxk⟩ : ∃ x, ps[k1]? = some x := ⟨ps[k1]'(by rw [HN.out]; exact hlt), List.getElem?_eq_getElem _⟩
          obtain ⟨g, off, rfl, -, hgl, hat⟩ := HX.out (by intro h; rw [h] at hxk; simp at hxk)
          obtain ⟨cs, hcsl, hcs, r1⟩ := hat k1 x hxk
          have E1 : ∀ w', SameOn All wr w' → HEx w' All d cs x := fun w' hw => r1.mono (SameOn.trans (SameOn.of_below hb) hw) (fun _ h => h)
          obtain ⟨c0, c1, c2, c3, c4, c5, rfl⟩ := len6 hcsl
          have a0 := hcs 0 (by omega)
          have a1 := hcs 1 (by omega)
          have a2 := hcs 2 (by omega)
          have a3 := hcs 3 (by omega)
          have a4 := hcs 4 (by omega)
          have a5 := hcs 5 (by omega)
          rw [← hb.cell (p := ⟨g, _, none⟩) hgl] at a0 a1 a2 a3 a4 a5
          simp at a0 a1 a2 a3 a4 a5
          have hki : (k1 : Int) < (n : Int) := by omega
          have hk0 : (0 : Int) ≤ (k1 : Int) := by omega
          clear hb hcs hat hcsl r1
          generalize hcv : (fun y => exOk d y true deep) x = cv
          have HCV : Hid ((fun y => exOk d y true deep) x = cv) := hcv
          have HC2 : Hid (cv = true → (ps.take (k1 + 1)).all (fun y => exOk d y true deep) = true) := fun h => allT_succ _ ps k1 x hxk hall.out (hcv.trans h)
          have HC3 : Hid (cv = false → ps.all (fun y => exOk d y true deep) = false) := fun h => allT_at _ ps k1 x hxk (hcv.trans h)
          clear hcv
          go_wp2_with fail
          refine (hE _ _ x true deep (E1 _ ⟨Nat.le_refl _, fun _ _ _ => rfl⟩) (by omega) (by omega)).mono ?_
          rintro e w4 ⟨rfl, hb4⟩
          have HB4 : Hid (Below w.heap.size w w4) := HB.out.trans (hb4.mono HB.out.size)
          have HS4 : Hid (SameOn All W1 w4) := hso.out.trans (SameOn.of_below hb4)
          rw [show exOk d x true deep = cv from HCV.out]
          clear hb4
          cases cv with
          | true =>
            have HT := HC2.out rfl
            clear HC2 HC3 HCV
            have HT' : Hid _ := HT
            clear HT
            go_wp2_with fail
            exact ⟨⟨k1 + 1, by omega, by go_num, HT'.out, HS4.out, HB4.out⟩, by simp [intOf]; omega⟩
          | false =>
            have HF : Hid (ps.all (fun y => exOk d y true deep) = false) := HC3.out rfl
            clear HC2 HC3 HCV
            go_wp2_with fail
            go_ret
            exact ⟨by first | (rw [HF.out]; simp) | simp [HF.out], HB4.out⟩
        · have HD_ps : Hid (ps.all (fun y => exOk d y true deep) = true) := by
            have := hall.out
            rwa [List.take_of_length_le (by rw [HN.out]; omega)] at this
          clear hb
          go_wp2_with fail
          clear xa0 xa1
          go_loopw [8] (fun iv wr => ∃ k2 : Nat, k2 ≤ m ∧ iv = .int .i64 k2 ∧ Hid ((bs.take k2).all (fun y => exOk d y false deep) = true) ∧ Hid (SameOn All W1 wr) ∧ Below w.heap.size w wr) (fun iv _ => m - (intOf iv).toNat)
          case atStart => exact ⟨0, Nat.zero_le _, rfl, by show _ = _; simp, hso.out, HB.out⟩
          case round =>
            obtain ⟨k2, hk, rfl, hall, hso, hb⟩ := hrel
            have HB : Hid (Below w.heap.size w wr) := hb
            have b1 := bA.out.same_on hso.out
            have xa0 := b1.cell 0 _ rfl
            have xa1 := b1.cell 1 _ rfl
            clear b1
            by_cases hlt : k2 < m
            · obtain ⟨x, hxk⟩ : ∃ x, bs[k2]? = some x := ⟨bs[k2]'(by rw [HM.out]; exact hlt), List.getElem?_eq_getElem _⟩
              obtain ⟨g, off, rfl, -, hgl, hat⟩ := HY.out (by intro h; rw [h] at hxk; simp at hxk)
              obtain ⟨cs, hcsl, hcs, r1⟩ := hat k2 x hxk
              have E1 : ∀ w', SameOn All wr w' → HEx w' All d cs x := fun w' hw => r1.mono (SameOn.trans (SameOn.of_below hb) hw) (fun _ h => h)
              obtain ⟨c0, c1, c2, c3, c4, c5, rfl⟩ := len6 hcsl
              have a0 := hcs 0 (by omega)
              have a1 := hcs 1 (by omega)
              have a2 := hcs 2 (by omega)
              have a3 := hcs 3 (by omega)
              have a4 := hcs 4 (by omega)
              have a5 := hcs 5 (by omega)
              rw [← hb.cell (p := ⟨g, _, none⟩) hgl] at a0 a1 a2 a3 a4 a5
              simp at a0 a1 a2 a3 a4 a5
              have hki : (k2 : Int) < (m : Int) := by omega
              have hk0 : (0 : Int) ≤ (k2 : Int) := by omega
              clear hb hcs hat hcsl r1
              generalize hcv : (fun y => exOk d y false deep) x = cv
              have HCV : Hid ((fun y => exOk d y false deep) x = cv) := hcv
              have HC2 : Hid (cv = true → (bs.take (k2 + 1)).all (fun y => exOk d y false deep) = true) := fun h => allT_succ _ bs k2 x hxk hall.out (hcv.trans h)
              have HC3 : Hid (cv = false → bs.all (fun y => exOk d y false deep) = false) := fun h => allT_at _ bs k2 x hxk (hcv.trans h)
              clear hcv
              go_wp2_with fail
              refine (hE _ _ x false deep (E1 _ ⟨Nat.le_refl _, fun _ _ _ => rfl⟩) (by omega) (by omega)).mono ?_
              rintro e w4 ⟨rfl, hb4⟩
              have HB4 : Hid (Below w.heap.size w w4) := HB.out.trans (hb4.mono HB.out.size)
              have HS4 : Hid (SameOn All W1 w4) := hso.out.trans (SameOn.of_below hb4)
              rw [show exOk d x false deep = cv from HCV.out]
              clear hb4
              cases cv with
              | true =>
                have HT := HC2.out rfl
                clear HC2 HC3 HCV
                have HT' : Hid _ := HT
                clear HT
                go_wp2_with fail
                exact ⟨⟨k2 + 1, by omega, by go_num, HT'.out, HS4.out, HB4.out⟩, by simp [intOf]; omega⟩
              | false =>
                have HF : Hid (bs.all (fun y => exOk d y false deep) = false) := HC3.out rfl
                clear HC2 HC3 HCV
                go_wp2_with fail
                go_ret
                exact ⟨by first | (rw [HF.out]; simp) | simp [HF.out], HB4.out⟩
            · have HD_bs : Hid (bs.all (fun y => exOk d y false deep) = true) := by
                have := hall.out
                rwa [List.take_of_length_le (by rw [HM.out]; omega)] at this
              clear hb
              go_wp2_with fail
              go_ret
              exact ⟨by rw [HD_ps.out, HD_bs.out]; simp, HB.out⟩
    | false =>
      go_enter Tryz.func117, Tryz.ntmps117
      go_wp2_with (first | (go_at_call 75; go_must (refine (l01In_any _ _ _ _).mono ?_; rintro e w9 ⟨rfl, rfl⟩; rw [hin])))
      rw [← HW1.out]
      go_ret
      exact ⟨by simp, B1.out⟩
  · have c2 : ((n : Int) != pats) = true := by simpa using c1
    go_enter Tryz.func117, Tryz.ntmps117
    go_wp2
    rw [← HW1.out]
    go_ret
    exact ⟨by simp [c1], B1.out⟩

end Go.Proofs.YtihffcphbcepoaaGreatDoor
/-
  The specification's ModuleOk, by contract: an expression.
-/
namespace Go.Proofs.YtihffcphbcepoaaGreatDoor
open Go.ChangeShapes Go.WideShapes Go.ChangeAt Go.RowKit
set_option linter.unusedVariables false

set_option maxHeartbeats 16000000 in
set_option maxRecDepth 100000 in
theorem rightS_of {d : Nat} (h1 : RgC d) (h2 : ClC d) : RgC (d + 1) := by
  intro w cs x pat deep h hd0 hd1
  obtain ⟨kv, cv, rfl, -, -, hts, hms, f0, f1⟩ := h
  obtain ⟨kx, nx, tx, mx, ks, cl⟩ := x
  simp only [Ex.kind, Ex.n, Ex.text, Ex.mod, Ex.kids, Ex.clauses] at *
  obtain ⟨p, cap, rfl, hcl, hcm, hx⟩ := f0
  obtain ⟨q, cap', rfl, hcl', hcm', hy⟩ := f1
  have hnb : ks.length ≤ 9223372036854775807 := by unfold maxLen at hcm; omega
  have hmb : cl.length ≤ 9223372036854775807 := by unfold maxLen at hcm'; omega
  have hv := exOk_eq d kx nx tx mx ks cl pat deep
  rw [hv]
  clear hv
  generalize hn : ks.length = n at *
  generalize hm : cl.length = m at *
  have HN : Hid (ks.length = n) := hn
  have HM : Hid (cl.length = m) := hm
  have HX : Hid (ks ≠ [] → ∃ g off, p = some ⟨g, off, none⟩ ∧ All g ∧ g < w.heap.size ∧ ∀ i x, ks[i]? = some x → ∃ cs, cs.length = 6 ∧ (∀ j, j < 6 → w.cell? ⟨g, off + i * 6 + j, none⟩ = cs[j]?) ∧ HEx w All d cs x) := hx
  have HY : Hid (cl ≠ [] → ∃ g off, q = some ⟨g, off, none⟩ ∧ All g ∧ g < w.heap.size ∧ ∀ i x, cl[i]? = some x → ∃ cs, cs.length = 2 ∧ (∀ j, j < 2 → w.cell? ⟨g, off + i * 2 + j, none⟩ = cs[j]?) ∧ HCl w All (HEx w All d) cs x) := hy
  clear hx hy hn hm
  by_cases c1 : deep < 0
  · rw [decide_eq_false (by omega)]
    go_enter Tryz.func156, Tryz.ntmps156
    go_wp2
    go_ret
    exact ⟨by simp, (Below.refl _ _).alloc (Nat.le_refl _) _⟩
  rw [decide_eq_true (by omega : 0 ≤ deep)]
  cases hpl : plainB kx nx tx mx n m with
  | false =>
    go_enter Tryz.func156, Tryz.ntmps156
    go_wp2_with fail
    refine (plainS_any _ _ _ _ _ _ _ _ _ _ _ hts hms hnb hmb).mono ?_
    rintro e W1 ⟨rfl, hb⟩
    rw [hpl]
    have B1 : Hid (Below w.heap.size w W1) := ((Below.refl _ _).alloc (Nat.le_refl _) _).trans (hb.mono (by simp))
    have bA : Hid (Blk W1 w.heap.size #[.int .i64 kx, .int .i64 nx, .string tx, .string mx, .slice p n cap, .slice q m cap'] 88) := (Blk.new (w := w)).next hb
    have xa0 := bA.out.cell 0 _ rfl
    have xa1 := bA.out.cell 1 _ rfl
    have xa2 := bA.out.cell 2 _ rfl
    have xa3 := bA.out.cell 3 _ rfl
    have xa4 := bA.out.cell 4 _ rfl
    have xa5 := bA.out.cell 5 _ rfl
    clear hb
    go_wp2
    go_ret
    exact ⟨by simp, B1.out⟩
  | true =>
    obtain ⟨r0, r1⟩ := plainB_range hpl
    cases pat with
    | true =>
      by_cases c6 : kx ≤ 6
      · have h6 : inB kx 0 6 = true := by simp [inB]; omega
        have hpt : patB kx true = true := by simp [patB]; omega
        rw [hpt, Bool.true_or]
        simp only [Bool.true_and]
        go_enter Tryz.func156, Tryz.ntmps156
        go_wp2_with fail
        refine (plainS_any _ _ _ _ _ _ _ _ _ _ _ hts hms hnb hmb).mono ?_
        rintro e W1 ⟨rfl, hb⟩
        rw [hpl]
        have B1 : Hid (Below w.heap.size w W1) := ((Below.refl _ _).alloc (Nat.le_refl _) _).trans (hb.mono (by simp))
        have bA : Hid (Blk W1 w.heap.size #[.int .i64 kx, .int .i64 nx, .string tx, .string mx, .slice p n cap, .slice q m cap'] 88) := (Blk.new (w := w)).next hb
        have xa0 := bA.out.cell 0 _ rfl
        have xa1 := bA.out.cell 1 _ rfl
        have xa2 := bA.out.cell 2 _ rfl
        have xa3 := bA.out.cell 3 _ rfl
        have xa4 := bA.out.cell 4 _ rfl
        have xa5 := bA.out.cell 5 _ rfl
        clear hb
        go_wp2_with (first | (go_at_call 75; go_must (refine (l01In_any _ _ _ _).mono ?_; rintro e w9 ⟨rfl, hw9⟩; rw [h6, hw9]; clear hw9 w9)))
        clear xa0 xa1 xa2 xa3 xa4 xa5
        go_loopw [7] (fun iv wr => ∃ k1 : Nat, k1 ≤ n ∧ iv = .int .i64 k1 ∧ Hid (kidsB (fun y q => exOk d y q (deep - 1)) (ks.take k1) true true = true) ∧ Hid (SameOn All W1 wr) ∧ Below w.heap.size w wr) (fun iv _ => n - (intOf iv).toNat)
        case atStart => exact ⟨0, Nat.zero_le _, rfl, kidsB_nil _ _ _ _, ⟨Nat.le_refl _, fun _ _ _ => rfl⟩, B1.out⟩
        case round =>
          obtain ⟨k1, hk, rfl, hall, hso, hb⟩ := hrel
          have HB : Hid (Below w.heap.size w wr) := hb
          have b1 := bA.out.same_on hso.out
          have hlw := b1.lt
          have xa0 := b1.cell 0 _ rfl
          have xa1 := b1.cell 1 _ rfl
          have xa2 := b1.cell 2 _ rfl
          have xa3 := b1.cell 3 _ rfl
          have xa4 := b1.cell 4 _ rfl
          have xa5 := b1.cell 5 _ rfl
          clear b1
          by_cases hlt : k1 < n
          · obtain ⟨x, hxk⟩ : ∃ x, ks[k1]? = some x := ⟨ks[k1]'(by rw [HN.out]; exact hlt), List.getElem?_eq_getElem _⟩
            obtain ⟨g, off, rfl, -, hgl, hat⟩ := HX.out (by intro h; rw [h] at hxk; simp at hxk)
            obtain ⟨cs, hcsl, hcs, r1⟩ := hat k1 x hxk
            have E1 : ∀ w', SameOn All wr w' → HEx w' All d cs x := fun w' hw => r1.mono (SameOn.trans (SameOn.of_below hb) hw) (fun _ h => h)
            obtain ⟨c0, c1, c2, c3, c4, c5, rfl⟩ := len6 hcsl
            have a0 := hcs 0 (by omega)
            have a1 := hcs 1 (by omega)
            have a2 := hcs 2 (by omega)
            have a3 := hcs 3 (by omega)
            have a4 := hcs 4 (by omega)
            have a5 := hcs 5 (by omega)
            rw [← hb.cell (p := ⟨g, _, none⟩) hgl] at a0 a1 a2 a3 a4 a5
            simp at a0 a1 a2 a3 a4 a5
            have hki : (k1 : Int) < (n : Int) := by omega
            have hk0 : (0 : Int) ≤ (k1 : Int) := by omega
            have hgw : g < wr.heap.size := Nat.lt_of_lt_of_le hgl hb.size
            have qa0 : ∀ m : Wd (fun w' => SameOn All wr w' ∧ Below w.heap.size w w'), m.val.cell? ⟨g, off + k1 * 6, none⟩ = some c0 := fun m => (World.cell?_of_block (m.ok.1.2 g trivial hgw)).trans a0
            have qa1 : ∀ m : Wd (fun w' => SameOn All wr w' ∧ Below w.heap.size w w'), m.val.cell? ⟨g, off + k1 * 6 + 1, none⟩ = some c1 := fun m => (World.cell?_of_block (m.ok.1.2 g trivial hgw)).trans a1
            have qa2 : ∀ m : Wd (fun w' => SameOn All wr w' ∧ Below w.heap.size w w'), m.val.cell? ⟨g, off + k1 * 6 + 2, none⟩ = some c2 := fun m => (World.cell?_of_block (m.ok.1.2 g trivial hgw)).trans a2
            have qa3 : ∀ m : Wd (fun w' => SameOn All wr w' ∧ Below w.heap.size w w'), m.val.cell? ⟨g, off + k1 * 6 + 3, none⟩ = some c3 := fun m => (World.cell?_of_block (m.ok.1.2 g trivial hgw)).trans a3
            have qa4 : ∀ m : Wd (fun w' => SameOn All wr w' ∧ Below w.heap.size w w'), m.val.cell? ⟨g, off + k1 * 6 + 4, none⟩ = some c4 := fun m => (World.cell?_of_block (m.ok.1.2 g trivial hgw)).trans a4
            have qa5 : ∀ m : Wd (fun w' => SameOn All wr w' ∧ Below w.heap.size w w'), m.val.cell? ⟨g, off + k1 * 6 + 5, none⟩ = some c5 := fun m => (World.cell?_of_block (m.ok.1.2 g trivial hgw)).trans a5
            have qx0 : ∀ m : Wd (fun w' => SameOn All wr w' ∧ Below w.heap.size w w'), m.val.cell? ⟨w.heap.size, 0, none⟩ = some (.int .i64 kx) := fun m => (World.cell?_of_block (m.ok.1.2 w.heap.size trivial hlw)).trans xa0
            have qx4 : ∀ m : Wd (fun w' => SameOn All wr w' ∧ Below w.heap.size w w'), m.val.cell? ⟨w.heap.size, 4, none⟩ = some (.slice (some ⟨g, off, none⟩) n cap) := fun m => (World.cell?_of_block (m.ok.1.2 w.heap.size trivial hlw)).trans xa4
            clear hb hcs hat hcsl r1
            generalize hcv : exOk d x true (deep - 1) = cv
            have HCV : Hid (exOk d x true (deep - 1) = cv) := hcv
            have HC2 : Hid (cv = true → kidsB (fun y q => exOk d y q (deep - 1)) (ks.take (k1 + 1)) true true = true) := fun h => kidsB_succ _ ks _ _ k1 x hxk hall.out (by rw [ite_self]; exact hcv.trans h)
            have HC3 : Hid (cv = false → kidsB (fun y q => exOk d y q (deep - 1)) ks true true = false) := fun h => kidsB_at _ ks _ _ k1 x hxk (by rw [ite_self]; exact hcv.trans h)
            clear hcv
            go_wp2
            have hCne : Nonempty (Wd (fun w' => SameOn All wr w' ∧ Below w.heap.size w w')) := ⟨⟨wr.drew, ⟨⟨Nat.le_refl _, fun _ _ _ => rfl⟩, HB.out.drew⟩⟩⟩
            refine wp_region_class (fun w' => SameOn All wr w' ∧ Below w.heap.size w w') (by kernel_rfl) (by kernel_rfl) ⟨⟨Nat.le_refl _, fun _ _ _ => rfl⟩, HB.out.drew⟩ ?_
            repeat (go_big_quiet_step (first | (rename_i m; go_at_call 156; refine (h1 _ _ x true (deep - 1) (E1 _ m.ok.1) (by omega) (by omega)).mono ?_; rintro e w1 ⟨rfl, hb1⟩; exact ⟨by rw [HCV.out], ⟨⟨w1, ⟨(SameOn.trans m.ok.1 (SameOn.of_below hb1)), m.ok.2.trans (hb1.mono m.ok.2.size)⟩⟩, rfl⟩⟩)))
            refine wpQuiet_nil ?_
            rintro _ ⟨mq, rfl⟩
            have HB4 : Hid (Below w.heap.size w mq.val) := mq.ok.2
            have HS4 : Hid (SameOn All W1 mq.val) := hso.out.trans mq.ok.1
            generalize mq.val = w4 at HB4 HS4 ⊢
            clear HCV
            cases cv with
            | true =>
              have HT' : Hid _ := HC2.out rfl
              clear HC2 HC3
              go_wp2_with fail
              exact ⟨⟨k1 + 1, by omega, by go_num, HT'.out, HS4.out, HB4.out⟩, by simp [intOf]; omega⟩
            | false =>
              have HF : Hid _ := HC3.out rfl
              clear HC2 HC3
              go_wp2_with fail
              go_ret
              exact ⟨by rw [HF.out]; simp, HB4.out⟩
          · have HD_ks : Hid (kidsB (fun y q => exOk d y q (deep - 1)) ks true true = true) := by
              have := hall.out
              rwa [List.take_of_length_le (by rw [HN.out]; omega)] at this
            clear hb
            go_wp2_with fail
            clear xa0 xa1 xa2 xa3 xa4 xa5
            go_loopw [8] (fun iv wr => ∃ k2 : Nat, k2 ≤ m ∧ iv = .int .i64 k2 ∧ Hid ((cl.take k2).all (fun y => clB (fun z q => exOk d z q (deep - 1)) y 1) = true) ∧ Hid (SameOn All W1 wr) ∧ Below w.heap.size w wr) (fun iv _ => m - (intOf iv).toNat)
            case atStart => exact ⟨0, Nat.zero_le _, rfl, by show _ = _; simp, hso.out, HB.out⟩
            case round =>
              obtain ⟨k2, hk, rfl, hall, hso, hb⟩ := hrel
              have HB : Hid (Below w.heap.size w wr) := hb
              have b1 := bA.out.same_on hso.out
              have xa0 := b1.cell 0 _ rfl
              have xa1 := b1.cell 1 _ rfl
              have xa2 := b1.cell 2 _ rfl
              have xa3 := b1.cell 3 _ rfl
              have xa4 := b1.cell 4 _ rfl
              have xa5 := b1.cell 5 _ rfl
              clear b1
              by_cases hlt : k2 < m
              · obtain ⟨x, hxk⟩ : ∃ x, cl[k2]? = some x := ⟨cl[k2]'(by rw [HM.out]; exact hlt), List.getElem?_eq_getElem _⟩
                obtain ⟨g, off, rfl, -, hgl, hat⟩ := HY.out (by intro h; rw [h] at hxk; simp at hxk)
                obtain ⟨cs, hcsl, hcs, r1⟩ := hat k2 x hxk
                have E1 : ∀ w', SameOn All wr w' → HCl w' All (HEx w' All d) cs x := fun w' hw => r1.mono (SameOn.trans (SameOn.of_below hb) hw) (fun _ h => h) (fun _ _ h => h.mono (SameOn.trans (SameOn.of_below hb) hw) (fun _ h => h))
                obtain ⟨c0, c1, rfl⟩ := len2 hcsl
                have a0 := hcs 0 (by omega)
                have a1 := hcs 1 (by omega)
                rw [← hb.cell (p := ⟨g, _, none⟩) hgl] at a0 a1
                simp at a0 a1
                have hki : (k2 : Int) < (m : Int) := by omega
                have hk0 : (0 : Int) ≤ (k2 : Int) := by omega
                clear hb hcs hat hcsl r1
                generalize hcv : (fun y => clB (fun z q => exOk d z q (deep - 1)) y 1) x = cv
                have HCV : Hid ((fun y => clB (fun z q => exOk d z q (deep - 1)) y 1) x = cv) := hcv
                have HC2 : Hid (cv = true → (cl.take (k2 + 1)).all (fun y => clB (fun z q => exOk d z q (deep - 1)) y 1) = true) := fun h => allT_succ _ cl k2 x hxk hall.out (hcv.trans h)
                have HC3 : Hid (cv = false → cl.all (fun y => clB (fun z q => exOk d z q (deep - 1)) y 1) = false) := fun h => allT_at _ cl k2 x hxk (hcv.trans h)
                clear hcv
                go_wp2_with fail
                refine (h2 _ _ x 1 (deep - 1) (E1 _ ⟨Nat.le_refl _, fun _ _ _ => rfl⟩) (by omega) (by omega)).mono ?_
                rintro e w4 ⟨rfl, hb4⟩
                have HB4 : Hid (Below w.heap.size w w4) := HB.out.trans (hb4.mono HB.out.size)
                have HS4 : Hid (SameOn All W1 w4) := hso.out.trans (SameOn.of_below hb4)
                rw [show clB (fun z q => exOk d z q (deep - 1)) x 1 = cv from HCV.out]
                clear hb4
                cases cv with
                | true =>
                  have HT := HC2.out rfl
                  clear HC2 HC3 HCV
                  have HT' : Hid _ := HT
                  clear HT
                  go_wp2_with fail
                  exact ⟨⟨k2 + 1, by omega, by go_num, HT'.out, HS4.out, HB4.out⟩, by simp [intOf]; omega⟩
                | false =>
                  have HF : Hid (cl.all (fun y => clB (fun z q => exOk d z q (deep - 1)) y 1) = false) := HC3.out rfl
                  clear HC2 HC3 HCV
                  go_wp2_with fail
                  go_ret
                  exact ⟨by first | (rw [HF.out]; simp) | simp [HF.out], HB4.out⟩
              · have HD_cl : Hid (cl.all (fun y => clB (fun z q => exOk d z q (deep - 1)) y 1) = true) := by
                  have := hall.out
                  rwa [List.take_of_length_le (by rw [HM.out]; omega)] at this
                clear hb
                go_wp2_with fail
                go_ret
                exact ⟨by rw [HD_ks.out, HD_cl.out]; simp, HB.out⟩
      · have h6 : inB kx 0 6 = false := by simp [inB]; omega
        have hpt : patB kx true = false := by simp [patB]; omega
        rw [hpt]
        go_enter Tryz.func156, Tryz.ntmps156
        go_wp2_with fail
        refine (plainS_any _ _ _ _ _ _ _ _ _ _ _ hts hms hnb hmb).mono ?_
        rintro e W1 ⟨rfl, hb⟩
        rw [hpl]
        have B1 : Hid (Below w.heap.size w W1) := ((Below.refl _ _).alloc (Nat.le_refl _) _).trans (hb.mono (by simp))
        have bA : Hid (Blk W1 w.heap.size #[.int .i64 kx, .int .i64 nx, .string tx, .string mx, .slice p n cap, .slice q m cap'] 88) := (Blk.new (w := w)).next hb
        have xa0 := bA.out.cell 0 _ rfl
        have xa1 := bA.out.cell 1 _ rfl
        have xa2 := bA.out.cell 2 _ rfl
        have xa3 := bA.out.cell 3 _ rfl
        have xa4 := bA.out.cell 4 _ rfl
        have xa5 := bA.out.cell 5 _ rfl
        clear hb
        go_wp2_with (first | (go_at_call 75; go_must (refine (l01In_any _ _ _ _).mono ?_; rintro e w9 ⟨rfl, hw9⟩; rw [h6, hw9]; clear hw9 w9)))
        go_ret
        exact ⟨by simp, B1.out⟩
    | false =>
      by_cases k3 : kx = 3
      · subst k3
        have hpt : patB 3 false = false := by simp [patB]
        rw [hpt]
        go_enter Tryz.func156, Tryz.ntmps156
        go_wp2_with fail
        refine (plainS_any _ _ _ _ _ _ _ _ _ _ _ hts hms hnb hmb).mono ?_
        rintro e W1 ⟨rfl, hb⟩
        rw [hpl]
        have B1 : Hid (Below w.heap.size w W1) := ((Below.refl _ _).alloc (Nat.le_refl _) _).trans (hb.mono (by simp))
        have bA : Hid (Blk W1 w.heap.size #[.int .i64 3, .int .i64 nx, .string tx, .string mx, .slice p n cap, .slice q m cap'] 88) := (Blk.new (w := w)).next hb
        have xa0 := bA.out.cell 0 _ rfl
        have xa1 := bA.out.cell 1 _ rfl
        have xa2 := bA.out.cell 2 _ rfl
        have xa3 := bA.out.cell 3 _ rfl
        have xa4 := bA.out.cell 4 _ rfl
        have xa5 := bA.out.cell 5 _ rfl
        clear hb
        go_wp2
        go_ret
        exact ⟨by simp, B1.out⟩
      have hpt : patB kx false = true := by simp [patB, k3]
      rw [hpt]
      by_cases k9 : kx = 9
      · subst k9
        have e9 : (false || decide ((9 : Int) = 9)) = true := rfl
        rw [e9]
        simp only [Bool.true_and]
        go_enter Tryz.func156, Tryz.ntmps156
        go_wp2_with fail
        refine (plainS_any _ _ _ _ _ _ _ _ _ _ _ hts hms hnb hmb).mono ?_
        rintro e W1 ⟨rfl, hb⟩
        rw [hpl]
        have B1 : Hid (Below w.heap.size w W1) := ((Below.refl _ _).alloc (Nat.le_refl _) _).trans (hb.mono (by simp))
        have bA : Hid (Blk W1 w.heap.size #[.int .i64 9, .int .i64 nx, .string tx, .string mx, .slice p n cap, .slice q m cap'] 88) := (Blk.new (w := w)).next hb
        have xa0 := bA.out.cell 0 _ rfl
        have xa1 := bA.out.cell 1 _ rfl
        have xa2 := bA.out.cell 2 _ rfl
        have xa3 := bA.out.cell 3 _ rfl
        have xa4 := bA.out.cell 4 _ rfl
        have xa5 := bA.out.cell 5 _ rfl
        clear hb
        go_wp2_with fail
        clear xa0 xa1 xa2 xa3 xa4 xa5
        go_loopw [7] (fun iv wr => ∃ k1 : Nat, k1 ≤ n ∧ iv = .int .i64 k1 ∧ Hid (kidsB (fun y q => exOk d y q (deep - 1)) (ks.take k1) true false = true) ∧ Hid (SameOn All W1 wr) ∧ Below w.heap.size w wr) (fun iv _ => n - (intOf iv).toNat)
        case atStart => exact ⟨0, Nat.zero_le _, rfl, kidsB_nil _ _ _ _, ⟨Nat.le_refl _, fun _ _ _ => rfl⟩, B1.out⟩
        case round =>
          obtain ⟨k1, hk, rfl, hall, hso, hb⟩ := hrel
          have HB : Hid (Below w.heap.size w wr) := hb
          have b1 := bA.out.same_on hso.out
          have hlw := b1.lt
          have xa0 := b1.cell 0 _ rfl
          have xa1 := b1.cell 1 _ rfl
          have xa2 := b1.cell 2 _ rfl
          have xa3 := b1.cell 3 _ rfl
          have xa4 := b1.cell 4 _ rfl
          have xa5 := b1.cell 5 _ rfl
          clear b1
          by_cases hlt : k1 < n
          · obtain ⟨x, hxk⟩ : ∃ x, ks[k1]? = some x := ⟨ks[k1]'(by rw [HN.out]; exact hlt), List.getElem?_eq_getElem _⟩
            obtain ⟨g, off, rfl, -, hgl, hat⟩ := HX.out (by intro h; rw [h] at hxk; simp at hxk)
            obtain ⟨cs, hcsl, hcs, r1⟩ := hat k1 x hxk
            have E1 : ∀ w', SameOn All wr w' → HEx w' All d cs x := fun w' hw => r1.mono (SameOn.trans (SameOn.of_below hb) hw) (fun _ h => h)
            obtain ⟨c0, c1, c2, c3, c4, c5, rfl⟩ := len6 hcsl
            have a0 := hcs 0 (by omega)
            have a1 := hcs 1 (by omega)
            have a2 := hcs 2 (by omega)
            have a3 := hcs 3 (by omega)
            have a4 := hcs 4 (by omega)
            have a5 := hcs 5 (by omega)
            rw [← hb.cell (p := ⟨g, _, none⟩) hgl] at a0 a1 a2 a3 a4 a5
            simp at a0 a1 a2 a3 a4 a5
            have hki : (k1 : Int) < (n : Int) := by omega
            have hk0 : (0 : Int) ≤ (k1 : Int) := by omega
            have hgw : g < wr.heap.size := Nat.lt_of_lt_of_le hgl hb.size
            have qa0 : ∀ m : Wd (fun w' => SameOn All wr w' ∧ Below w.heap.size w w'), m.val.cell? ⟨g, off + k1 * 6, none⟩ = some c0 := fun m => (World.cell?_of_block (m.ok.1.2 g trivial hgw)).trans a0
            have qa1 : ∀ m : Wd (fun w' => SameOn All wr w' ∧ Below w.heap.size w w'), m.val.cell? ⟨g, off + k1 * 6 + 1, none⟩ = some c1 := fun m => (World.cell?_of_block (m.ok.1.2 g trivial hgw)).trans a1
            have qa2 : ∀ m : Wd (fun w' => SameOn All wr w' ∧ Below w.heap.size w w'), m.val.cell? ⟨g, off + k1 * 6 + 2, none⟩ = some c2 := fun m => (World.cell?_of_block (m.ok.1.2 g trivial hgw)).trans a2
            have qa3 : ∀ m : Wd (fun w' => SameOn All wr w' ∧ Below w.heap.size w w'), m.val.cell? ⟨g, off + k1 * 6 + 3, none⟩ = some c3 := fun m => (World.cell?_of_block (m.ok.1.2 g trivial hgw)).trans a3
            have qa4 : ∀ m : Wd (fun w' => SameOn All wr w' ∧ Below w.heap.size w w'), m.val.cell? ⟨g, off + k1 * 6 + 4, none⟩ = some c4 := fun m => (World.cell?_of_block (m.ok.1.2 g trivial hgw)).trans a4
            have qa5 : ∀ m : Wd (fun w' => SameOn All wr w' ∧ Below w.heap.size w w'), m.val.cell? ⟨g, off + k1 * 6 + 5, none⟩ = some c5 := fun m => (World.cell?_of_block (m.ok.1.2 g trivial hgw)).trans a5
            have qx0 : ∀ m : Wd (fun w' => SameOn All wr w' ∧ Below w.heap.size w w'), m.val.cell? ⟨w.heap.size, 0, none⟩ = some (.int .i64 9) := fun m => (World.cell?_of_block (m.ok.1.2 w.heap.size trivial hlw)).trans xa0
            have qx4 : ∀ m : Wd (fun w' => SameOn All wr w' ∧ Below w.heap.size w w'), m.val.cell? ⟨w.heap.size, 4, none⟩ = some (.slice (some ⟨g, off, none⟩) n cap) := fun m => (World.cell?_of_block (m.ok.1.2 w.heap.size trivial hlw)).trans xa4
            clear hb hcs hat hcsl r1
            by_cases hz : k1 = 0
            · have HIF : Hid ((if k1 = 0 then true else false) = true) := by show _ = _; rw [if_pos hz]
              have hz2 : ((k1 : Int) == 0) = true := by simp; omega
              clear hz
              generalize hcv : exOk d x true (deep - 1) = cv
              have HCV : Hid (exOk d x true (deep - 1) = cv) := hcv
              have HC2 : Hid (cv = true → kidsB (fun y q => exOk d y q (deep - 1)) (ks.take (k1 + 1)) true false = true) := fun h => kidsB_succ _ ks _ _ k1 x hxk hall.out (by rw [HIF.out]; exact hcv.trans h)
              have HC3 : Hid (cv = false → kidsB (fun y q => exOk d y q (deep - 1)) ks true false = false) := fun h => kidsB_at _ ks _ _ k1 x hxk (by rw [HIF.out]; exact hcv.trans h)
              clear hcv
              go_wp2
              have hCne : Nonempty (Wd (fun w' => SameOn All wr w' ∧ Below w.heap.size w w')) := ⟨⟨wr.drew, ⟨⟨Nat.le_refl _, fun _ _ _ => rfl⟩, HB.out.drew⟩⟩⟩
              refine wp_region_class (fun w' => SameOn All wr w' ∧ Below w.heap.size w w') (by kernel_rfl) (by kernel_rfl) ⟨⟨Nat.le_refl _, fun _ _ _ => rfl⟩, HB.out.drew⟩ ?_
              repeat (go_big_quiet_step (first | (rename_i m; go_at_call 156; refine (h1 _ _ x true (deep - 1) (E1 _ m.ok.1) (by omega) (by omega)).mono ?_; rintro e w1 ⟨rfl, hb1⟩; exact ⟨by rw [HCV.out], ⟨⟨w1, ⟨(SameOn.trans m.ok.1 (SameOn.of_below hb1)), m.ok.2.trans (hb1.mono m.ok.2.size)⟩⟩, rfl⟩⟩)))
              refine wpQuiet_nil ?_
              rintro _ ⟨mq, rfl⟩
              have HB4 : Hid (Below w.heap.size w mq.val) := mq.ok.2
              have HS4 : Hid (SameOn All W1 mq.val) := hso.out.trans mq.ok.1
              generalize mq.val = w4 at HB4 HS4 ⊢
              clear HCV
              cases cv with
              | true =>
                have HT' : Hid _ := HC2.out rfl
                clear HC2 HC3
                go_wp2_with fail
                exact ⟨⟨k1 + 1, by omega, by go_num, HT'.out, HS4.out, HB4.out⟩, by simp [intOf]; omega⟩
              | false =>
                have HF : Hid _ := HC3.out rfl
                clear HC2 HC3
                go_wp2_with fail
                go_ret
                exact ⟨by rw [HF.out]; simp, HB4.out⟩
            · have HIF : Hid ((if k1 = 0 then true else false) = false) := by show _ = _; rw [if_neg hz]
              have hz2 : ((k1 : Int) == 0) = false := by simp; omega
              clear hz
              generalize hcv : exOk d x false (deep - 1) = cv
              have HCV : Hid (exOk d x false (deep - 1) = cv) := hcv
              have HC2 : Hid (cv = true → kidsB (fun y q => exOk d y q (deep - 1)) (ks.take (k1 + 1)) true false = true) := fun h => kidsB_succ _ ks _ _ k1 x hxk hall.out (by rw [HIF.out]; exact hcv.trans h)
              have HC3 : Hid (cv = false → kidsB (fun y q => exOk d y q (deep - 1)) ks true false = false) := fun h => kidsB_at _ ks _ _ k1 x hxk (by rw [HIF.out]; exact hcv.trans h)
              clear hcv
              go_wp2
              have hCne : Nonempty (Wd (fun w' => SameOn All wr w' ∧ Below w.heap.size w w')) := ⟨⟨wr.drew, ⟨⟨Nat.le_refl _, fun _ _ _ => rfl⟩, HB.out.drew⟩⟩⟩
              refine wp_region_class (fun w' => SameOn All wr w' ∧ Below w.heap.size w w') (by kernel_rfl) (by kernel_rfl) ⟨⟨Nat.le_refl _, fun _ _ _ => rfl⟩, HB.out.drew⟩ ?_
              repeat (go_big_quiet_step (first | (rename_i m; go_at_call 156; refine (h1 _ _ x false (deep - 1) (E1 _ m.ok.1) (by omega) (by omega)).mono ?_; rintro e w1 ⟨rfl, hb1⟩; exact ⟨by rw [HCV.out], ⟨⟨w1, ⟨(SameOn.trans m.ok.1 (SameOn.of_below hb1)), m.ok.2.trans (hb1.mono m.ok.2.size)⟩⟩, rfl⟩⟩)))
              refine wpQuiet_nil ?_
              rintro _ ⟨mq, rfl⟩
              have HB4 : Hid (Below w.heap.size w mq.val) := mq.ok.2
              have HS4 : Hid (SameOn All W1 mq.val) := hso.out.trans mq.ok.1
              generalize mq.val = w4 at HB4 HS4 ⊢
              clear HCV
              cases cv with
              | true =>
                have HT' : Hid _ := HC2.out rfl
                clear HC2 HC3
                go_wp2_with fail
                exact ⟨⟨k1 + 1, by omega, by go_num, HT'.out, HS4.out, HB4.out⟩, by simp [intOf]; omega⟩
              | false =>
                have HF : Hid _ := HC3.out rfl
                clear HC2 HC3
                go_wp2_with fail
                go_ret
                exact ⟨by rw [HF.out]; simp, HB4.out⟩
          · have HD_ks : Hid (kidsB (fun y q => exOk d y q (deep - 1)) ks true false = true) := by
              have := hall.out
              rwa [List.take_of_length_le (by rw [HN.out]; omega)] at this
            clear hb
            go_wp2_with fail
            clear xa0 xa1 xa2 xa3 xa4 xa5
            go_loopw [8] (fun iv wr => ∃ k2 : Nat, k2 ≤ m ∧ iv = .int .i64 k2 ∧ Hid ((cl.take k2).all (fun y => clB (fun z q => exOk d z q (deep - 1)) y 1) = true) ∧ Hid (SameOn All W1 wr) ∧ Below w.heap.size w wr) (fun iv _ => m - (intOf iv).toNat)
            case atStart => exact ⟨0, Nat.zero_le _, rfl, by show _ = _; simp, hso.out, HB.out⟩
            case round =>
              obtain ⟨k2, hk, rfl, hall, hso, hb⟩ := hrel
              have HB : Hid (Below w.heap.size w wr) := hb
              have b1 := bA.out.same_on hso.out
              have xa0 := b1.cell 0 _ rfl
              have xa1 := b1.cell 1 _ rfl
              have xa2 := b1.cell 2 _ rfl
              have xa3 := b1.cell 3 _ rfl
              have xa4 := b1.cell 4 _ rfl
              have xa5 := b1.cell 5 _ rfl
              clear b1
              by_cases hlt : k2 < m
              · obtain ⟨x, hxk⟩ : ∃ x, cl[k2]? = some x := ⟨cl[k2]'(by rw [HM.out]; exact hlt), List.getElem?_eq_getElem _⟩
                obtain ⟨g, off, rfl, -, hgl, hat⟩ := HY.out (by intro h; rw [h] at hxk; simp at hxk)
                obtain ⟨cs, hcsl, hcs, r1⟩ := hat k2 x hxk
                have E1 : ∀ w', SameOn All wr w' → HCl w' All (HEx w' All d) cs x := fun w' hw => r1.mono (SameOn.trans (SameOn.of_below hb) hw) (fun _ h => h) (fun _ _ h => h.mono (SameOn.trans (SameOn.of_below hb) hw) (fun _ h => h))
                obtain ⟨c0, c1, rfl⟩ := len2 hcsl
                have a0 := hcs 0 (by omega)
                have a1 := hcs 1 (by omega)
                rw [← hb.cell (p := ⟨g, _, none⟩) hgl] at a0 a1
                simp at a0 a1
                have hki : (k2 : Int) < (m : Int) := by omega
                have hk0 : (0 : Int) ≤ (k2 : Int) := by omega
                clear hb hcs hat hcsl r1
                generalize hcv : (fun y => clB (fun z q => exOk d z q (deep - 1)) y 1) x = cv
                have HCV : Hid ((fun y => clB (fun z q => exOk d z q (deep - 1)) y 1) x = cv) := hcv
                have HC2 : Hid (cv = true → (cl.take (k2 + 1)).all (fun y => clB (fun z q => exOk d z q (deep - 1)) y 1) = true) := fun h => allT_succ _ cl k2 x hxk hall.out (hcv.trans h)
                have HC3 : Hid (cv = false → cl.all (fun y => clB (fun z q => exOk d z q (deep - 1)) y 1) = false) := fun h => allT_at _ cl k2 x hxk (hcv.trans h)
                clear hcv
                go_wp2_with fail
                refine (h2 _ _ x 1 (deep - 1) (E1 _ ⟨Nat.le_refl _, fun _ _ _ => rfl⟩) (by omega) (by omega)).mono ?_
                rintro e w4 ⟨rfl, hb4⟩
                have HB4 : Hid (Below w.heap.size w w4) := HB.out.trans (hb4.mono HB.out.size)
                have HS4 : Hid (SameOn All W1 w4) := hso.out.trans (SameOn.of_below hb4)
                rw [show clB (fun z q => exOk d z q (deep - 1)) x 1 = cv from HCV.out]
                clear hb4
                cases cv with
                | true =>
                  have HT := HC2.out rfl
                  clear HC2 HC3 HCV
                  have HT' : Hid _ := HT
                  clear HT
                  go_wp2_with fail
                  exact ⟨⟨k2 + 1, by omega, by go_num, HT'.out, HS4.out, HB4.out⟩, by simp [intOf]; omega⟩
                | false =>
                  have HF : Hid (cl.all (fun y => clB (fun z q => exOk d z q (deep - 1)) y 1) = false) := HC3.out rfl
                  clear HC2 HC3 HCV
                  go_wp2_with fail
                  go_ret
                  exact ⟨by first | (rw [HF.out]; simp) | simp [HF.out], HB4.out⟩
              · have HD_cl : Hid (cl.all (fun y => clB (fun z q => exOk d z q (deep - 1)) y 1) = true) := by
                  have := hall.out
                  rwa [List.take_of_length_le (by rw [HM.out]; omega)] at this
                clear hb
                go_wp2_with fail
                go_ret
                exact ⟨by rw [HD_ks.out, HD_cl.out]; simp, HB.out⟩
      · have e9 : (false || decide (kx = 9)) = false := by simp [k9]
        have k9b : (kx == 9) = false := by simpa using k9
        have k3b : (kx == 3) = false := by simpa using k3
        rw [e9]
        simp only [Bool.true_and]
        go_enter Tryz.func156, Tryz.ntmps156
        go_wp2_with fail
        refine (plainS_any _ _ _ _ _ _ _ _ _ _ _ hts hms hnb hmb).mono ?_
        rintro e W1 ⟨rfl, hb⟩
        rw [hpl]
        have B1 : Hid (Below w.heap.size w W1) := ((Below.refl _ _).alloc (Nat.le_refl _) _).trans (hb.mono (by simp))
        have bA : Hid (Blk W1 w.heap.size #[.int .i64 kx, .int .i64 nx, .string tx, .string mx, .slice p n cap, .slice q m cap'] 88) := (Blk.new (w := w)).next hb
        have xa0 := bA.out.cell 0 _ rfl
        have xa1 := bA.out.cell 1 _ rfl
        have xa2 := bA.out.cell 2 _ rfl
        have xa3 := bA.out.cell 3 _ rfl
        have xa4 := bA.out.cell 4 _ rfl
        have xa5 := bA.out.cell 5 _ rfl
        clear hb
        go_wp2_with fail
        clear xa0 xa1 xa2 xa3 xa4 xa5
        go_loopw [7] (fun iv wr => ∃ k1 : Nat, k1 ≤ n ∧ iv = .int .i64 k1 ∧ Hid (kidsB (fun y q => exOk d y q (deep - 1)) (ks.take k1) false false = true) ∧ Hid (SameOn All W1 wr) ∧ Below w.heap.size w wr) (fun iv _ => n - (intOf iv).toNat)
        case atStart => exact ⟨0, Nat.zero_le _, rfl, kidsB_nil _ _ _ _, ⟨Nat.le_refl _, fun _ _ _ => rfl⟩, B1.out⟩
        case round =>
          obtain ⟨k1, hk, rfl, hall, hso, hb⟩ := hrel
          have HB : Hid (Below w.heap.size w wr) := hb
          have b1 := bA.out.same_on hso.out
          have hlw := b1.lt
          have xa0 := b1.cell 0 _ rfl
          have xa1 := b1.cell 1 _ rfl
          have xa2 := b1.cell 2 _ rfl
          have xa3 := b1.cell 3 _ rfl
          have xa4 := b1.cell 4 _ rfl
          have xa5 := b1.cell 5 _ rfl
          clear b1
          by_cases hlt : k1 < n
          · obtain ⟨x, hxk⟩ : ∃ x, ks[k1]? = some x := ⟨ks[k1]'(by rw [HN.out]; exact hlt), List.getElem?_eq_getElem _⟩
            obtain ⟨g, off, rfl, -, hgl, hat⟩ := HX.out (by intro h; rw [h] at hxk; simp at hxk)
            obtain ⟨cs, hcsl, hcs, r1⟩ := hat k1 x hxk
            have E1 : ∀ w', SameOn All wr w' → HEx w' All d cs x := fun w' hw => r1.mono (SameOn.trans (SameOn.of_below hb) hw) (fun _ h => h)
            obtain ⟨c0, c1, c2, c3, c4, c5, rfl⟩ := len6 hcsl
            have a0 := hcs 0 (by omega)
            have a1 := hcs 1 (by omega)
            have a2 := hcs 2 (by omega)
            have a3 := hcs 3 (by omega)
            have a4 := hcs 4 (by omega)
            have a5 := hcs 5 (by omega)
            rw [← hb.cell (p := ⟨g, _, none⟩) hgl] at a0 a1 a2 a3 a4 a5
            simp at a0 a1 a2 a3 a4 a5
            have hki : (k1 : Int) < (n : Int) := by omega
            have hk0 : (0 : Int) ≤ (k1 : Int) := by omega
            have hgw : g < wr.heap.size := Nat.lt_of_lt_of_le hgl hb.size
            have qa0 : ∀ m : Wd (fun w' => SameOn All wr w' ∧ Below w.heap.size w w'), m.val.cell? ⟨g, off + k1 * 6, none⟩ = some c0 := fun m => (World.cell?_of_block (m.ok.1.2 g trivial hgw)).trans a0
            have qa1 : ∀ m : Wd (fun w' => SameOn All wr w' ∧ Below w.heap.size w w'), m.val.cell? ⟨g, off + k1 * 6 + 1, none⟩ = some c1 := fun m => (World.cell?_of_block (m.ok.1.2 g trivial hgw)).trans a1
            have qa2 : ∀ m : Wd (fun w' => SameOn All wr w' ∧ Below w.heap.size w w'), m.val.cell? ⟨g, off + k1 * 6 + 2, none⟩ = some c2 := fun m => (World.cell?_of_block (m.ok.1.2 g trivial hgw)).trans a2
            have qa3 : ∀ m : Wd (fun w' => SameOn All wr w' ∧ Below w.heap.size w w'), m.val.cell? ⟨g, off + k1 * 6 + 3, none⟩ = some c3 := fun m => (World.cell?_of_block (m.ok.1.2 g trivial hgw)).trans a3
            have qa4 : ∀ m : Wd (fun w' => SameOn All wr w' ∧ Below w.heap.size w w'), m.val.cell? ⟨g, off + k1 * 6 + 4, none⟩ = some c4 := fun m => (World.cell?_of_block (m.ok.1.2 g trivial hgw)).trans a4
            have qa5 : ∀ m : Wd (fun w' => SameOn All wr w' ∧ Below w.heap.size w w'), m.val.cell? ⟨g, off + k1 * 6 + 5, none⟩ = some c5 := fun m => (World.cell?_of_block (m.ok.1.2 g trivial hgw)).trans a5
            have qx0 : ∀ m : Wd (fun w' => SameOn All wr w' ∧ Below w.heap.size w w'), m.val.cell? ⟨w.heap.size, 0, none⟩ = some (.int .i64 kx) := fun m => (World.cell?_of_block (m.ok.1.2 w.heap.size trivial hlw)).trans xa0
            have qx4 : ∀ m : Wd (fun w' => SameOn All wr w' ∧ Below w.heap.size w w'), m.val.cell? ⟨w.heap.size, 4, none⟩ = some (.slice (some ⟨g, off, none⟩) n cap) := fun m => (World.cell?_of_block (m.ok.1.2 w.heap.size trivial hlw)).trans xa4
            clear hb hcs hat hcsl r1
            generalize hcv : exOk d x false (deep - 1) = cv
            have HCV : Hid (exOk d x false (deep - 1) = cv) := hcv
            have HC2 : Hid (cv = true → kidsB (fun y q => exOk d y q (deep - 1)) (ks.take (k1 + 1)) false false = true) := fun h => kidsB_succ _ ks _ _ k1 x hxk hall.out (by rw [ite_self]; exact hcv.trans h)
            have HC3 : Hid (cv = false → kidsB (fun y q => exOk d y q (deep - 1)) ks false false = false) := fun h => kidsB_at _ ks _ _ k1 x hxk (by rw [ite_self]; exact hcv.trans h)
            clear hcv
            go_wp2
            have hCne : Nonempty (Wd (fun w' => SameOn All wr w' ∧ Below w.heap.size w w')) := ⟨⟨wr.drew, ⟨⟨Nat.le_refl _, fun _ _ _ => rfl⟩, HB.out.drew⟩⟩⟩
            refine wp_region_class (fun w' => SameOn All wr w' ∧ Below w.heap.size w w') (by kernel_rfl) (by kernel_rfl) ⟨⟨Nat.le_refl _, fun _ _ _ => rfl⟩, HB.out.drew⟩ ?_
            repeat (go_big_quiet_step (first | (rename_i m; go_at_call 156; refine (h1 _ _ x false (deep - 1) (E1 _ m.ok.1) (by omega) (by omega)).mono ?_; rintro e w1 ⟨rfl, hb1⟩; exact ⟨by rw [HCV.out], ⟨⟨w1, ⟨(SameOn.trans m.ok.1 (SameOn.of_below hb1)), m.ok.2.trans (hb1.mono m.ok.2.size)⟩⟩, rfl⟩⟩)))
            refine wpQuiet_nil ?_
            rintro _ ⟨mq, rfl⟩
            have HB4 : Hid (Below w.heap.size w mq.val) := mq.ok.2
            have HS4 : Hid (SameOn All W1 mq.val) := hso.out.trans mq.ok.1
            generalize mq.val = w4 at HB4 HS4 ⊢
            clear HCV
            cases cv with
            | true =>
              have HT' : Hid _ := HC2.out rfl
              clear HC2 HC3
              go_wp2_with fail
              exact ⟨⟨k1 + 1, by omega, by go_num, HT'.out, HS4.out, HB4.out⟩, by simp [intOf]; omega⟩
            | false =>
              have HF : Hid _ := HC3.out rfl
              clear HC2 HC3
              go_wp2_with fail
              go_ret
              exact ⟨by rw [HF.out]; simp, HB4.out⟩
          · have HD_ks : Hid (kidsB (fun y q => exOk d y q (deep - 1)) ks false false = true) := by
              have := hall.out
              rwa [List.take_of_length_le (by rw [HN.out]; omega)] at this
            clear hb
            go_wp2_with fail
            clear xa0 xa1 xa2 xa3 xa4 xa5
            go_loopw [8] (fun iv wr => ∃ k2 : Nat, k2 ≤ m ∧ iv = .int .i64 k2 ∧ Hid ((cl.take k2).all (fun y => clB (fun z q => exOk d z q (deep - 1)) y 1) = true) ∧ Hid (SameOn All W1 wr) ∧ Below w.heap.size w wr) (fun iv _ => m - (intOf iv).toNat)
            case atStart => exact ⟨0, Nat.zero_le _, rfl, by show _ = _; simp, hso.out, HB.out⟩
            case round =>
              obtain ⟨k2, hk, rfl, hall, hso, hb⟩ := hrel
              have HB : Hid (Below w.heap.size w wr) := hb
              have b1 := bA.out.same_on hso.out
              have xa0 := b1.cell 0 _ rfl
              have xa1 := b1.cell 1 _ rfl
              have xa2 := b1.cell 2 _ rfl
              have xa3 := b1.cell 3 _ rfl
              have xa4 := b1.cell 4 _ rfl
              have xa5 := b1.cell 5 _ rfl
              clear b1
              by_cases hlt : k2 < m
              · obtain ⟨x, hxk⟩ : ∃ x, cl[k2]? = some x := ⟨cl[k2]'(by rw [HM.out]; exact hlt), List.getElem?_eq_getElem _⟩
                obtain ⟨g, off, rfl, -, hgl, hat⟩ := HY.out (by intro h; rw [h] at hxk; simp at hxk)
                obtain ⟨cs, hcsl, hcs, r1⟩ := hat k2 x hxk
                have E1 : ∀ w', SameOn All wr w' → HCl w' All (HEx w' All d) cs x := fun w' hw => r1.mono (SameOn.trans (SameOn.of_below hb) hw) (fun _ h => h) (fun _ _ h => h.mono (SameOn.trans (SameOn.of_below hb) hw) (fun _ h => h))
                obtain ⟨c0, c1, rfl⟩ := len2 hcsl
                have a0 := hcs 0 (by omega)
                have a1 := hcs 1 (by omega)
                rw [← hb.cell (p := ⟨g, _, none⟩) hgl] at a0 a1
                simp at a0 a1
                have hki : (k2 : Int) < (m : Int) := by omega
                have hk0 : (0 : Int) ≤ (k2 : Int) := by omega
                clear hb hcs hat hcsl r1
                generalize hcv : (fun y => clB (fun z q => exOk d z q (deep - 1)) y 1) x = cv
                have HCV : Hid ((fun y => clB (fun z q => exOk d z q (deep - 1)) y 1) x = cv) := hcv
                have HC2 : Hid (cv = true → (cl.take (k2 + 1)).all (fun y => clB (fun z q => exOk d z q (deep - 1)) y 1) = true) := fun h => allT_succ _ cl k2 x hxk hall.out (hcv.trans h)
                have HC3 : Hid (cv = false → cl.all (fun y => clB (fun z q => exOk d z q (deep - 1)) y 1) = false) := fun h => allT_at _ cl k2 x hxk (hcv.trans h)
                clear hcv
                go_wp2_with fail
                refine (h2 _ _ x 1 (deep - 1) (E1 _ ⟨Nat.le_refl _, fun _ _ _ => rfl⟩) (by omega) (by omega)).mono ?_
                rintro e w4 ⟨rfl, hb4⟩
                have HB4 : Hid (Below w.heap.size w w4) := HB.out.trans (hb4.mono HB.out.size)
                have HS4 : Hid (SameOn All W1 w4) := hso.out.trans (SameOn.of_below hb4)
                rw [show clB (fun z q => exOk d z q (deep - 1)) x 1 = cv from HCV.out]
                clear hb4
                cases cv with
                | true =>
                  have HT := HC2.out rfl
                  clear HC2 HC3 HCV
                  have HT' : Hid _ := HT
                  clear HT
                  go_wp2_with fail
                  exact ⟨⟨k2 + 1, by omega, by go_num, HT'.out, HS4.out, HB4.out⟩, by simp [intOf]; omega⟩
                | false =>
                  have HF : Hid (cl.all (fun y => clB (fun z q => exOk d z q (deep - 1)) y 1) = false) := HC3.out rfl
                  clear HC2 HC3 HCV
                  go_wp2_with fail
                  go_ret
                  exact ⟨by first | (rw [HF.out]; simp) | simp [HF.out], HB4.out⟩
              · have HD_cl : Hid (cl.all (fun y => clB (fun z q => exOk d z q (deep - 1)) y 1) = true) := by
                  have := hall.out
                  rwa [List.take_of_length_le (by rw [HM.out]; omega)] at this
                clear hb
                go_wp2_with fail
                go_ret
                exact ⟨by rw [HD_ks.out, HD_cl.out]; simp, HB.out⟩

theorem right_allS : ∀ d, RgC d
  | 0 => fun w cs x pat deep h _ _ => h.elim
  | d + 1 => rightS_of (right_allS d) (clauseS_of (right_allS d))
theorem clause_allS (d : Nat) : ClC d := clauseS_of (right_allS d)

end Go.Proofs.YtihffcphbcepoaaGreatDoor
/-
  The order of numbers and of texts: what the library's cmp and strings answer.
-/
namespace Go.Proofs.YtihffcphbcepoaaGreatDoor
open Go.ChangeShapes Go.WideShapes Go.ChangeAt Go.RowKit
set_option linter.unusedVariables false

def cmpI (a b : Int) : Int := if a < b then -1 else if b < a then 1 else 0
def cmpS (a b : ByteArray) : Int := Lib.compareBytes a.data.toList b.data.toList
theorem cmpI_lt {a b : Int} (h : a < b) : cmpI a b = -1 := if_pos h
theorem cmpI_gt {a b : Int} (h : b < a) : cmpI a b = 1 := by unfold cmpI; rw [if_neg (by omega), if_pos h]
theorem cmpI_self (a : Int) : cmpI a a = 0 := by unfold cmpI; rw [if_neg (by omega), if_neg (by omega)]

theorem compare_lt : ∀ {a b : List UInt8}, Op.bytesLess a b = true → Lib.compareBytes a b = -1
  | [], [], h => by simp [Op.bytesLess] at h
  | _ :: _, [], h => by simp [Op.bytesLess] at h
  | [], _ :: _, _ => rfl
  | x :: a, y :: b, h => by
    simp only [Op.bytesLess, Bool.or_eq_true, decide_eq_true_eq, Bool.and_eq_true, beq_iff_eq] at h
    unfold Lib.compareBytes
    rcases h with h | ⟨rfl, h⟩
    · rw [if_pos h]
    · rw [if_neg (UInt8.lt_irrefl _), if_neg (UInt8.lt_irrefl _)]; exact compare_lt h
theorem compare_self : ∀ (a : List UInt8), Lib.compareBytes a a = 0
  | [] => rfl
  | x :: a => by unfold Lib.compareBytes; rw [if_neg (UInt8.lt_irrefl _), if_neg (UInt8.lt_irrefl _)]; exact compare_self a
theorem compare_gt : ∀ {a b : List UInt8}, Op.bytesLess a b = false → a ≠ b → Lib.compareBytes a b = 1
  | [], [], _, h => absurd rfl h
  | _ :: _, [], _, _ => rfl
  | [], _ :: _, h, _ => by simp [Op.bytesLess] at h
  | x :: a, y :: b, h, hne => by
    simp only [Op.bytesLess, Bool.or_eq_false_iff, decide_eq_false_iff_not, Bool.and_eq_false_iff, beq_eq_false_iff_ne] at h
    unfold Lib.compareBytes
    rw [if_neg h.1]
    by_cases hxy : x = y
    · subst hxy
      rw [if_neg (UInt8.lt_irrefl _)]
      rcases h.2 with h2 | h2
      · exact absurd rfl h2
      · exact compare_gt h2 (fun e => hne (by rw [e]))
    · have : y < x := by
        rw [UInt8.lt_iff_toNat_lt] at h ⊢
        have : x.toNat ≠ y.toNat := fun e => hxy (UInt8.toNat_inj.1 e)
        omega
      rw [if_pos this]
theorem cmpS_lt {a b : ByteArray} (h : Op.bytesLess a.toList b.toList = true) : cmpS a b = -1 := by
  unfold cmpS; rw [ByteArray.toList_eq, ByteArray.toList_eq] at h; exact compare_lt h
theorem cmpS_gt {a b : ByteArray} (h : Op.bytesLess a.toList b.toList = false) (hne : a ≠ b) : cmpS a b = 1 := by
  unfold cmpS; rw [ByteArray.toList_eq, ByteArray.toList_eq] at h; exact compare_gt h (fun e => hne (bytes_inj e))
theorem cmpS_self (a : ByteArray) : cmpS a a = 0 := compare_self _
theorem bytesLess_self : ∀ (a : List UInt8), Op.bytesLess a a = false
  | [] => rfl
  | x :: a => by simp [Op.bytesLess, bytesLess_self a]

theorem isNaN_any (a : Int) (w : World) : Calls Tryz.prog 217 #[.int .i64 a] w fun e w' => e = .returned (.bool false) ∧ w' = w := by
  go_enter Tryz.func217, Tryz.ntmps217
  go_wp2
  go_ret
  exact ⟨rfl, rfl⟩

theorem cmpInt_any (a b : Int) (w : World) : Calls Tryz.prog 195 #[.int .i64 a, .int .i64 b] w fun e w' => e = .returned (.int .i64 (cmpI a b)) ∧ w' = w := by
  by_cases h1 : a < b
  · have HS : Hid (cmpI a b = -1) := cmpI_lt h1
    go_enter Tryz.func195, Tryz.ntmps195
    go_wp2_with (go_at_call 217; go_must (refine (isNaN_any _ _).mono ?_; rintro e w' ⟨rfl, rfl⟩))
    go_ret
    exact ⟨by rw [HS.out]; rfl, rfl⟩
  by_cases h2 : b < a
  · have HS : Hid (cmpI a b = 1) := cmpI_gt h2
    go_enter Tryz.func195, Tryz.ntmps195
    go_wp2_with (go_at_call 217; go_must (refine (isNaN_any _ _).mono ?_; rintro e w' ⟨rfl, rfl⟩))
    go_ret
    exact ⟨by rw [HS.out]; rfl, rfl⟩
  obtain rfl : a = b := by omega
  have HS : Hid (cmpI a a = 0) := cmpI_self a
  go_enter Tryz.func195, Tryz.ntmps195
  go_wp2_with (go_at_call 217; go_must (refine (isNaN_any _ _).mono ?_; rintro e w' ⟨rfl, rfl⟩))
  go_ret
  exact ⟨by rw [HS.out]; rfl, rfl⟩

set_option maxRecDepth 100000 in
theorem compareString_any (a b : ByteArray) (w : World) :
    Calls Tryz.prog 146 #[.string a, .string b] w fun e w' => e = .returned (.int .i64 (cmpS a b)) ∧ w' = w := by
  go_enter Tryz.func146, Tryz.ntmps146
  go_wp2
  rw [run_callFunc_extern Tryz.func180 (by kernel_rfl) (by kernel_rfl) (by kernel_rfl) (e := Extern.BytealgCompare.compare) (by kernel_rfl), Lib.run_compareString]
  simp only [Result.andThen]
  rw [Oper.upon_value]
  go_wp2
  go_ret
  exact ⟨rfl, rfl⟩

theorem stringsCompare_any (a b : ByteArray) (w : World) :
    Calls Tryz.prog 105 #[.string a, .string b] w fun e w' => e = .returned (.int .i64 (cmpS a b)) ∧ w' = w := by
  go_enter Tryz.func105, Tryz.ntmps105
  go_wp2_with (go_at_call 146; go_must (refine (compareString_any _ _ _).mono ?_; rintro e w' ⟨rfl, rfl⟩))
  go_ret
  exact ⟨rfl, rfl⟩

/-- The first of two that is not 0. -/
def or2 (a b : Int) : Int := if a = 0 then b else a

theorem cmpOr2_any (a b : Int) (g : Nat) (w : World) (h0 : w.cell? ⟨g, 0, none⟩ = some (.int .i64 a)) (h1 : w.cell? ⟨g, 1, none⟩ = some (.int .i64 b)) :
    Calls Tryz.prog 104 #[.slice (some ⟨g, 0, none⟩) 2 2] w fun e w' => e = .returned (.int .i64 (or2 a b)) ∧ w' = w := by
  go_enter Tryz.func104, Tryz.ntmps104
  go_wp2
  go_loopw [8] (fun iv wr => ∃ k : Nat, k ≤ 2 ∧ iv = .int .i64 k ∧ (1 ≤ k → a = 0) ∧ (2 ≤ k → b = 0) ∧ wr = w) (fun iv _ => 2 - (intOf iv).toNat)
  case atStart => exact ⟨0, by omega, rfl, fun h => by omega, fun h => by omega, rfl⟩
  case round =>
    obtain ⟨k, hk, rfl, e0, e1, rfl⟩ := hrel
    match k, hk with
    | 0, _ =>
      by_cases hz : a = 0
      · go_wp2
        exact ⟨⟨1, by omega, by go_num, fun _ => hz, fun h => by omega, (by first | rfl | trivial)⟩, by simp [intOf]⟩
      · have HS : Hid (or2 a b = a) := if_neg hz
        go_wp2
        go_ret
        exact ⟨by rw [HS.out]; rfl, rfl⟩
    | 1, _ =>
      have z0 := e0 (by omega)
      by_cases hz : b = 0
      · go_wp2
        exact ⟨⟨2, by omega, by go_num, fun _ => z0, fun _ => hz, (by first | rfl | trivial)⟩, by simp [intOf]⟩
      · have HS : Hid (or2 a b = b) := by show _ = _; unfold or2; rw [if_pos z0]
        go_wp2
        go_ret
        exact ⟨by rw [HS.out]; rfl, rfl⟩
    | 2, _ =>
      have HS : Hid (or2 a b = 0) := by show _ = _; unfold or2; rw [if_pos (e0 (by omega)), e1 (by omega)]
      go_wp2
      go_ret
      exact ⟨by rw [HS.out]; rfl, rfl⟩
    | k + 3, hk => omega
end Go.Proofs.YtihffcphbcepoaaGreatDoor
/-
  The program's ModuleOk, by contract: an expression's own parts.
-/
namespace Go.Proofs.YtihffcphbcepoaaGreatDoor
open Go.ChangeShapes Go.WideShapes Go.ChangeAt Go.RowKit
set_option linter.unusedVariables false

/-- The table of what a kind has lies as its initialiser lays it. -/
def ShapesAt (w : World) : Prop :=
  ∀ k : Nat, k < 11 → w.cell? ⟨3, k * 5, none⟩ = some (.int .i64 (txtK k)) ∧ w.cell? ⟨3, k * 5 + 1, none⟩ = some (.int .i64 (kidLo k)) ∧ w.cell? ⟨3, k * 5 + 2, none⟩ = some (.int .i64 (kidHi k)) ∧
    w.cell? ⟨3, k * 5 + 3, none⟩ = some (.int .i64 (clsLo k)) ∧ w.cell? ⟨3, k * 5 + 4, none⟩ = some (.int .i64 (clsHi k))
structure Tabs (w : World) : Prop where
  keys : KeysAt w
  shapes : ShapesAt w
theorem Tabs.below {w w' : World} (h : Tabs w) (hb : Below w.heap.size w w') : Tabs w' :=
  ⟨⟨cell_next hb h.keys.1, cell_next hb h.keys.2.1, cell_next hb h.keys.2.2⟩, fun k hk => by
    obtain ⟨a, b, c, d, e⟩ := h.shapes k hk
    exact ⟨cell_next hb a, cell_next hb b, cell_next hb c, cell_next hb d, cell_next hb e⟩⟩

theorem withinM_any (a b c : Int) (w : World) : Calls Tryz.prog 81 #[.int .i64 a, .int .i64 b, .int .i64 c] w fun e w' => e = .returned (.bool (inB a b c)) ∧ w' = w := by
  by_cases h1 : b ≤ a <;> by_cases h2 : a ≤ c
  all_goals
    go_enter Tryz.func81, Tryz.ntmps81
    go_wp2
    go_ret
    exact ⟨by simp [inB, h1, h2], rfl⟩

theorem isOp_any (t : ByteArray) (w : World) : Calls Tryz.prog 251 #[.string t] w fun e w' => e = .returned (.bool (opB t)) ∧ w' = w := by
  cases h0 : (t.toList == [61, 61]) <;> cases h1 : (t.toList == [60]) <;> cases h2 : (t.toList == [43]) <;> cases h3 : (t.toList == [45]) <;> cases h4 : (t.toList == [42])
  all_goals
    go_enter Tryz.func251, Tryz.ntmps251
    go_wp2
    go_ret
    exact ⟨by simp [opB, h0, h1, h2, h3, h4], rfl⟩

theorem textOk_any (k : Int) (t : ByteArray) (w : World) (hts : t.size ≤ maxLen) (hk : KeysAt w) : Calls Tryz.prog 246 #[.int .i64 k, .string t] w fun e w' => e = .returned (.bool (tkB k t)) ∧ w' = w := by
  have HK : Hid (KeysAt w) := hk
  clear hk
  by_cases k1 : k = 1
  · subst k1
    go_enter Tryz.func246, Tryz.ntmps246
    go_wp2_with (go_at_call 119; go_must (refine (implAtomOk_any _ _ hts HK.out).mono ?_; rintro e w' ⟨rfl, rfl⟩))
    go_ret
    exact ⟨by simp [tkB], rfl⟩
  by_cases k2 : k = 2
  · subst k2
    go_enter Tryz.func246, Tryz.ntmps246
    go_wp2_with (go_at_call 250; go_must (refine (implVarOk_any _ _ hts).mono ?_; rintro e w' ⟨rfl, rfl⟩))
    go_ret
    exact ⟨by simp [tkB], rfl⟩
  by_cases k3 : k = 3
  · subst k3
    go_enter Tryz.func246, Tryz.ntmps246
    go_wp2_with (go_at_call 251; go_must (refine (isOp_any _ _).mono ?_; rintro e w' ⟨rfl, rfl⟩))
    go_ret
    exact ⟨by simp [tkB], rfl⟩
  · have HS : Hid (tkB k t = t.toList.isEmpty) := by show _ = _; rw [Bool.eq_iff_iff]; simp [tkB, k1, k2, k3]
    go_enter Tryz.func246, Tryz.ntmps246
    go_wp2
    go_ret
    exact ⟨by rw [HS.out]; rfl, rfl⟩

theorem numberOk_any (k n : Int) (t m : ByteArray) (p q : Option Addr) (nk c nc c' : Nat) (w : World) : Calls Tryz.prog 244 #[.agg #[.int .i64 k, .int .i64 n, .string t, .string m, .slice p nk c, .slice q nc c']] w fun e w' => e = .returned (.bool (numB k n)) ∧ Below w.heap.size w w' := by
  have BL : Hid (Below w.heap.size w (w.alloc (.cells #[.int .i64 k, .int .i64 n, .string t, .string m, .slice p nk c, .slice q nc c'] 88))) := (Below.refl _ _).alloc (Nat.le_refl _) _
  by_cases k0 : k = 0
  · subst k0
    go_enter Tryz.func244, Tryz.ntmps244
    go_wp2_with (go_at_call 81; go_must (refine (withinM_any _ _ _ _).mono ?_; rintro e w' ⟨rfl, rfl⟩))
    go_ret
    exact ⟨by simp [numB], BL.out⟩
  · have HS : Hid (numB k n = (n == 0)) := by show _ = _; rw [Bool.eq_iff_iff]; simp [numB, k0]
    go_enter Tryz.func244, Tryz.ntmps244
    go_wp2
    go_ret
    exact ⟨by rw [HS.out]; rfl, BL.out⟩

theorem modOk_any (k n : Int) (t m : ByteArray) (p q : Option Addr) (nk c nc c' : Nat) (w : World) (hms : m.size ≤ maxLen) (hk : KeysAt w) : Calls Tryz.prog 245 #[.agg #[.int .i64 k, .int .i64 n, .string t, .string m, .slice p nk c, .slice q nc c']] w fun e w' => e = .returned (.bool (modB k m)) ∧ Below w.heap.size w w' := by
  have BL : Hid (Below w.heap.size w (w.alloc (.cells #[.int .i64 k, .int .i64 n, .string t, .string m, .slice p nk c, .slice q nc c'] 88))) := (Below.refl _ _).alloc (Nat.le_refl _) _
  have HK : Hid (KeysAt (w.alloc (.cells #[.int .i64 k, .int .i64 n, .string t, .string m, .slice p nk c, .slice q nc c'] 88))) := ⟨cell_next BL.out hk.1, cell_next BL.out hk.2.1, cell_next BL.out hk.2.2⟩
  clear hk
  by_cases hm : m.toList = []
  · have hm2 : (m.toList == []) = true := by simpa using hm
    have HS : Hid (modB k m = true) := by show _ = _; simp [modB, hm]
    clear hm
    go_enter Tryz.func245, Tryz.ntmps245
    go_wp2
    go_ret
    exact ⟨by rw [HS.out]; rfl, BL.out⟩
  · have hm2 : (m.toList == []) = false := by simpa using hm
    by_cases k8 : k = 8
    · subst k8
      have HS : Hid (modB 8 m = atomB m) := by show _ = _; simp [modB, hm]
      clear hm
      go_enter Tryz.func245, Tryz.ntmps245
      go_wp2_with (go_at_call 119; go_must (refine (implAtomOk_any _ _ hms HK.out).mono ?_; rintro e w' ⟨rfl, rfl⟩))
      go_ret
      exact ⟨by rw [HS.out]; rfl, BL.out⟩
    · have HS : Hid (modB k m = false) := by show _ = _; simp [modB, hm, k8]
      clear hm
      go_enter Tryz.func245, Tryz.ntmps245
      go_wp2
      go_ret
      exact ⟨by rw [HS.out]; rfl, BL.out⟩

set_option maxHeartbeats 8000000 in
set_option maxRecDepth 100000 in
theorem partsOk_any (k n : Int) (t m : ByteArray) (p q : Option Addr) (nk c nc c' : Nat) (w : World) (hts : t.size ≤ maxLen) (hms : m.size ≤ maxLen) (hnk : nk ≤ 9223372036854775807) (hnc : nc ≤ 9223372036854775807) (hT : Tabs w) :
    Calls Tryz.prog 236 #[.agg #[.int .i64 k, .int .i64 n, .string t, .string m, .slice p nk c, .slice q nc c']] w fun e w' => e = .returned (.bool (plainB k n t m nk nc)) ∧ Below w.heap.size w w' := by
  have HT : Hid (Tabs w) := hT
  clear hT
  by_cases hr : 0 ≤ k ∧ k ≤ 10
  · obtain ⟨kn, rfl⟩ : ∃ kn : Nat, k = kn := ⟨k.toNat, by omega⟩
    have hkn : kn < 11 := by omega
    have hki : (kn : Int) < 11 := by omega
    have hk0 : (0 : Int) ≤ (kn : Int) := by omega
    have hin : inB (kn : Int) 0 10 = true := by simp [inB]; omega
    clear hr
    have BL : Hid (Below w.heap.size w (w.alloc (.cells #[.int .i64 (kn : Int), .int .i64 n, .string t, .string m, .slice p nk c, .slice q nc c'] 88))) := (Below.refl _ _).alloc (Nat.le_refl _) _
    have BM : Hid (Below w.heap.size w ((w.alloc (.cells #[.int .i64 (kn : Int), .int .i64 n, .string t, .string m, .slice p nk c, .slice q nc c'] 88)).alloc (.cells #[.int .i64 (txtK kn), .int .i64 (kidLo kn), .int .i64 (kidHi kn), .int .i64 (clsLo kn), .int .i64 (clsHi kn)] 286))) := BL.out.alloc BL.out.size _
    obtain ⟨s0, s1, s2, s3, s4⟩ := (HT.out.below BL.out).shapes kn hkn
    have HP : Hid (plainB kn n t m nk nc = (numB kn n && (modB kn m && (tkB (txtK kn) t && (inB nk (kidLo kn) (kidHi kn) && inB nc (clsLo kn) (clsHi kn)))))) := by show _ = _; simp [plainB, hin, txtB]
    cases h1 : numB kn n with
    | false =>
      go_enter Tryz.func236, Tryz.ntmps236
      go_wp2_with (first | (go_at_call 81; go_must (refine (withinM_any _ _ _ _).mono ?_; rintro e w9 ⟨rfl, rfl⟩; rw [hin])))
      refine (numberOk_any _ _ _ _ _ _ _ _ _ _ _).mono ?_
      rintro e w2 ⟨rfl, hb2⟩
      rw [h1]
      have B2 : Hid (Below w.heap.size w w2) := BM.out.trans (hb2.mono BM.out.size)
      go_wp2
      go_ret
      exact ⟨by rw [HP.out, h1]; simp, B2.out⟩
    | true =>
      cases h2 : modB kn m with
      | false =>
        go_enter Tryz.func236, Tryz.ntmps236
        go_wp2_with (first | (go_at_call 81; go_must (refine (withinM_any _ _ _ _).mono ?_; rintro e w9 ⟨rfl, rfl⟩; rw [hin])))
        refine (numberOk_any _ _ _ _ _ _ _ _ _ _ _).mono ?_
        rintro e w2 ⟨rfl, hb2⟩
        rw [h1]
        have B2 : Hid (Below w.heap.size w w2) := BM.out.trans (hb2.mono BM.out.size)
        have g1 : Hid (Blk w2 w.heap.size #[.int .i64 (kn : Int), .int .i64 n, .string t, .string m, .slice p nk c, .slice q nc c'] 88) := ((Blk.new (w := w)).alloc).next hb2
        have g2 : Hid (Blk w2 (w.heap.size + 1) #[.int .i64 (txtK kn), .int .i64 (kidLo kn), .int .i64 (kidHi kn), .int .i64 (clsLo kn), .int .i64 (clsHi kn)] 286) := by
          have := (Blk.new (w := (w.alloc (.cells #[.int .i64 (kn : Int), .int .i64 n, .string t, .string m, .slice p nk c, .slice q nc c'] 88))) (cs := #[.int .i64 (txtK kn), .int .i64 (kidLo kn), .int .i64 (kidHi kn), .int .i64 (clsLo kn), .int .i64 (clsHi kn)]) (t := 286)).next hb2
          simp only [alloc_hs] at this
          exact this
        have a0 := g1.out.cell 0 _ rfl
        have a1 := g1.out.cell 1 _ rfl
        have a2 := g1.out.cell 2 _ rfl
        have a3 := g1.out.cell 3 _ rfl
        have a4 := g1.out.cell 4 _ rfl
        have a5 := g1.out.cell 5 _ rfl
        clear hb2 s0 s1 s2 s3 s4
        go_wp2_with fail
        refine (modOk_any _ _ _ _ _ _ _ _ _ _ _ hms (HT.out.below B2.out).keys).mono ?_
        rintro e w3 ⟨rfl, hb3⟩
        rw [h2]
        have B3 : Hid (Below w.heap.size w w3) := B2.out.trans (hb3.mono B2.out.size)
        go_wp2
        go_ret
        exact ⟨by rw [HP.out, h1, h2]; simp, B3.out⟩
      | true =>
        cases h3 : tkB (txtK kn) t with
        | false =>
          go_enter Tryz.func236, Tryz.ntmps236
          go_wp2_with (first | (go_at_call 81; go_must (refine (withinM_any _ _ _ _).mono ?_; rintro e w9 ⟨rfl, rfl⟩; rw [hin])))
          refine (numberOk_any _ _ _ _ _ _ _ _ _ _ _).mono ?_
          rintro e w2 ⟨rfl, hb2⟩
          rw [h1]
          have B2 : Hid (Below w.heap.size w w2) := BM.out.trans (hb2.mono BM.out.size)
          have g1 : Hid (Blk w2 w.heap.size #[.int .i64 (kn : Int), .int .i64 n, .string t, .string m, .slice p nk c, .slice q nc c'] 88) := ((Blk.new (w := w)).alloc).next hb2
          have g2 : Hid (Blk w2 (w.heap.size + 1) #[.int .i64 (txtK kn), .int .i64 (kidLo kn), .int .i64 (kidHi kn), .int .i64 (clsLo kn), .int .i64 (clsHi kn)] 286) := by
            have := (Blk.new (w := (w.alloc (.cells #[.int .i64 (kn : Int), .int .i64 n, .string t, .string m, .slice p nk c, .slice q nc c'] 88))) (cs := #[.int .i64 (txtK kn), .int .i64 (kidLo kn), .int .i64 (kidHi kn), .int .i64 (clsLo kn), .int .i64 (clsHi kn)]) (t := 286)).next hb2
            simp only [alloc_hs] at this
            exact this
          have a0 := g1.out.cell 0 _ rfl
          have a1 := g1.out.cell 1 _ rfl
          have a2 := g1.out.cell 2 _ rfl
          have a3 := g1.out.cell 3 _ rfl
          have a4 := g1.out.cell 4 _ rfl
          have a5 := g1.out.cell 5 _ rfl
          clear hb2 s0 s1 s2 s3 s4
          go_wp2_with fail
          refine (modOk_any _ _ _ _ _ _ _ _ _ _ _ hms (HT.out.below B2.out).keys).mono ?_
          rintro e w3 ⟨rfl, hb3⟩
          rw [h2]
          have B3 : Hid (Below w.heap.size w w3) := B2.out.trans (hb3.mono B2.out.size)
          have g3 := g1.out.next hb3
          have g4 := g2.out.next hb3
          clear a0 a1 a2 a3 a4 a5
          have a0 := g3.cell 0 _ rfl
          have a1 := g3.cell 1 _ rfl
          have a2 := g3.cell 2 _ rfl
          have a3 := g3.cell 3 _ rfl
          have a4 := g3.cell 4 _ rfl
          have a5 := g3.cell 5 _ rfl
          have b0 := g4.cell 0 _ rfl
          have b1 := g4.cell 1 _ rfl
          have b2 := g4.cell 2 _ rfl
          have b3 := g4.cell 3 _ rfl
          have b4 := g4.cell 4 _ rfl
          clear hb3 g3 g4
          go_wp2_with (first | (go_at_call 246; go_must (refine (textOk_any _ _ _ hts (HT.out.below B3.out).keys).mono ?_; rintro e w9 ⟨rfl, rfl⟩; rw [h3])))
          go_ret
          exact ⟨by rw [HP.out, h1, h2, h3]; simp, B3.out⟩
        | true =>
          cases h4 : inB nk (kidLo kn) (kidHi kn) with
          | false =>
            go_enter Tryz.func236, Tryz.ntmps236
            go_wp2_with (first | (go_at_call 81; go_must (refine (withinM_any _ _ _ _).mono ?_; rintro e w9 ⟨rfl, rfl⟩; rw [hin])))
            refine (numberOk_any _ _ _ _ _ _ _ _ _ _ _).mono ?_
            rintro e w2 ⟨rfl, hb2⟩
            rw [h1]
            have B2 : Hid (Below w.heap.size w w2) := BM.out.trans (hb2.mono BM.out.size)
            have g1 : Hid (Blk w2 w.heap.size #[.int .i64 (kn : Int), .int .i64 n, .string t, .string m, .slice p nk c, .slice q nc c'] 88) := ((Blk.new (w := w)).alloc).next hb2
            have g2 : Hid (Blk w2 (w.heap.size + 1) #[.int .i64 (txtK kn), .int .i64 (kidLo kn), .int .i64 (kidHi kn), .int .i64 (clsLo kn), .int .i64 (clsHi kn)] 286) := by
              have := (Blk.new (w := (w.alloc (.cells #[.int .i64 (kn : Int), .int .i64 n, .string t, .string m, .slice p nk c, .slice q nc c'] 88))) (cs := #[.int .i64 (txtK kn), .int .i64 (kidLo kn), .int .i64 (kidHi kn), .int .i64 (clsLo kn), .int .i64 (clsHi kn)]) (t := 286)).next hb2
              simp only [alloc_hs] at this
              exact this
            have a0 := g1.out.cell 0 _ rfl
            have a1 := g1.out.cell 1 _ rfl
            have a2 := g1.out.cell 2 _ rfl
            have a3 := g1.out.cell 3 _ rfl
            have a4 := g1.out.cell 4 _ rfl
            have a5 := g1.out.cell 5 _ rfl
            clear hb2 s0 s1 s2 s3 s4
            go_wp2_with fail
            refine (modOk_any _ _ _ _ _ _ _ _ _ _ _ hms (HT.out.below B2.out).keys).mono ?_
            rintro e w3 ⟨rfl, hb3⟩
            rw [h2]
            have B3 : Hid (Below w.heap.size w w3) := B2.out.trans (hb3.mono B2.out.size)
            have g3 := g1.out.next hb3
            have g4 := g2.out.next hb3
            clear a0 a1 a2 a3 a4 a5
            have a0 := g3.cell 0 _ rfl
            have a1 := g3.cell 1 _ rfl
            have a2 := g3.cell 2 _ rfl
            have a3 := g3.cell 3 _ rfl
            have a4 := g3.cell 4 _ rfl
            have a5 := g3.cell 5 _ rfl
            have b0 := g4.cell 0 _ rfl
            have b1 := g4.cell 1 _ rfl
            have b2 := g4.cell 2 _ rfl
            have b3 := g4.cell 3 _ rfl
            have b4 := g4.cell 4 _ rfl
            clear hb3 g3 g4
            go_wp2_with (first | (go_at_call 246; go_must (refine (textOk_any _ _ _ hts (HT.out.below B3.out).keys).mono ?_; rintro e w9 ⟨rfl, rfl⟩; rw [h3])) | (go_at_call_of 81 (kidLo kn); go_must (refine (withinM_any _ _ _ _).mono ?_; rintro e w9 ⟨rfl, rfl⟩; rw [h4])))
            go_ret
            exact ⟨by rw [HP.out, h1, h2, h3, h4]; simp, B3.out⟩
          | true =>
            go_enter Tryz.func236, Tryz.ntmps236
            go_wp2_with (first | (go_at_call 81; go_must (refine (withinM_any _ _ _ _).mono ?_; rintro e w9 ⟨rfl, rfl⟩; rw [hin])))
            refine (numberOk_any _ _ _ _ _ _ _ _ _ _ _).mono ?_
            rintro e w2 ⟨rfl, hb2⟩
            rw [h1]
            have B2 : Hid (Below w.heap.size w w2) := BM.out.trans (hb2.mono BM.out.size)
            have g1 : Hid (Blk w2 w.heap.size #[.int .i64 (kn : Int), .int .i64 n, .string t, .string m, .slice p nk c, .slice q nc c'] 88) := ((Blk.new (w := w)).alloc).next hb2
            have g2 : Hid (Blk w2 (w.heap.size + 1) #[.int .i64 (txtK kn), .int .i64 (kidLo kn), .int .i64 (kidHi kn), .int .i64 (clsLo kn), .int .i64 (clsHi kn)] 286) := by
              have := (Blk.new (w := (w.alloc (.cells #[.int .i64 (kn : Int), .int .i64 n, .string t, .string m, .slice p nk c, .slice q nc c'] 88))) (cs := #[.int .i64 (txtK kn), .int .i64 (kidLo kn), .int .i64 (kidHi kn), .int .i64 (clsLo kn), .int .i64 (clsHi kn)]) (t := 286)).next hb2
              simp only [alloc_hs] at this
              exact this
            have a0 := g1.out.cell 0 _ rfl
            have a1 := g1.out.cell 1 _ rfl
            have a2 := g1.out.cell 2 _ rfl
            have a3 := g1.out.cell 3 _ rfl
            have a4 := g1.out.cell 4 _ rfl
            have a5 := g1.out.cell 5 _ rfl
            clear hb2 s0 s1 s2 s3 s4
            go_wp2_with fail
            refine (modOk_any _ _ _ _ _ _ _ _ _ _ _ hms (HT.out.below B2.out).keys).mono ?_
            rintro e w3 ⟨rfl, hb3⟩
            rw [h2]
            have B3 : Hid (Below w.heap.size w w3) := B2.out.trans (hb3.mono B2.out.size)
            have g3 := g1.out.next hb3
            have g4 := g2.out.next hb3
            clear a0 a1 a2 a3 a4 a5
            have a0 := g3.cell 0 _ rfl
            have a1 := g3.cell 1 _ rfl
            have a2 := g3.cell 2 _ rfl
            have a3 := g3.cell 3 _ rfl
            have a4 := g3.cell 4 _ rfl
            have a5 := g3.cell 5 _ rfl
            have b0 := g4.cell 0 _ rfl
            have b1 := g4.cell 1 _ rfl
            have b2 := g4.cell 2 _ rfl
            have b3 := g4.cell 3 _ rfl
            have b4 := g4.cell 4 _ rfl
            clear hb3 g3 g4
            go_wp2_with (first | (go_at_call 246; go_must (refine (textOk_any _ _ _ hts (HT.out.below B3.out).keys).mono ?_; rintro e w9 ⟨rfl, rfl⟩; rw [h3])) | (go_at_call_of 81 (kidLo kn); go_must (refine (withinM_any _ _ _ _).mono ?_; rintro e w9 ⟨rfl, rfl⟩; rw [h4])) | (go_at_call_of 81 (clsLo kn); go_must (refine (withinM_any _ _ _ _).mono ?_; rintro e w9 ⟨rfl, rfl⟩)))
            go_ret
            exact ⟨by rw [HP.out, h1, h2, h3, h4]; simp, B3.out⟩
  · have hin : inB k 0 10 = false := by simp [inB]; omega
    have BL : Hid (Below w.heap.size w (w.alloc (.cells #[.int .i64 k, .int .i64 n, .string t, .string m, .slice p nk c, .slice q nc c'] 88))) := (Below.refl _ _).alloc (Nat.le_refl _) _
    clear hr
    go_enter Tryz.func236, Tryz.ntmps236
    go_wp2_with (first | (go_at_call 81; go_must (refine (withinM_any _ _ _ _).mono ?_; rintro e w9 ⟨rfl, rfl⟩; rw [hin])))
    go_ret
    exact ⟨by simp [plainB, hin], BL.out⟩
end Go.Proofs.YtihffcphbcepoaaGreatDoor
/-
  The program's and the specification's ModuleOk, by contract: names with their numbers.
-/
namespace Go.Proofs.YtihffcphbcepoaaGreatDoor
open Go.ChangeShapes Go.WideShapes Go.ChangeAt Go.RowKit
set_option linter.unusedVariables false

def cmpRf (a b : Rf) : Int := or2 (cmpS a.name b.name) (cmpI a.arity b.arity)
def lessB (a b : Rf) : Bool := decide (cmpRf a b < 0)
def refB (r : Rf) : Bool := atomB r.name && inB r.arity 0 6
def sameR (r : Rf) (f : Fn') : Bool := f.name.toList == r.name.toList && f.arity == r.arity

set_option maxHeartbeats 2000000 in
theorem l02Less_any (a b : Rf) (w : World) : Calls Tryz.prog 116 #[.agg #[.string a.name, .int .i64 a.arity], .agg #[.string b.name, .int .i64 b.arity]] w fun e w' => e = .returned (.bool (lessB a b)) ∧ Below w.heap.size w w' := by
  obtain ⟨s, m⟩ := a
  obtain ⟨t, n⟩ := b
  have BL : Hid (Below w.heap.size w ((w.alloc (.cells #[.string s, .int .i64 m] 73)).alloc (.cells #[.string t, .int .i64 n] 73))) := ((Below.refl _ _).alloc (Nat.le_refl _) _).alloc (by simp) _
  simp only
  cases hb : Op.bytesLess s.toList t.toList with
  | true =>
    have HS : Hid (lessB ⟨s, m⟩ ⟨t, n⟩ = true) := by show _ = _; simp [lessB, cmpRf, or2, cmpS_lt hb]
    go_enter Tryz.func116, Tryz.ntmps116
    go_wp2
    go_ret
    exact ⟨by rw [HS.out]; rfl, BL.out⟩
  | false =>
    by_cases he : s = t
    · subst he
      have HS : Hid (lessB ⟨s, m⟩ ⟨s, n⟩ = decide (m < n)) := by
        show _ = _
        simp only [lessB, cmpRf, or2, cmpS_self, if_true, cmpI]
        by_cases h1 : m < n
        · simp [h1]
        · by_cases h2 : n < m <;> simp [h1, h2]
      go_enter Tryz.func116, Tryz.ntmps116
      go_wp2
      go_ret
      exact ⟨by rw [HS.out]; rfl, BL.out⟩
    · have HS : Hid (lessB ⟨s, m⟩ ⟨t, n⟩ = false) := by show _ = _; simp [lessB, cmpRf, or2, cmpS_gt hb he]
      have hq1 := str_ne he
      have hq2 := str_neB he
      go_enter Tryz.func116, Tryz.ntmps116
      go_wp2
      go_ret
      exact ⟨by rw [HS.out]; rfl, BL.out⟩

set_option maxHeartbeats 4000000 in
theorem compareRef_any (a b : Rf) (w : World) : Calls Tryz.prog 161 #[.agg #[.string a.name, .int .i64 a.arity], .agg #[.string b.name, .int .i64 b.arity]] w fun e w' => e = .returned (.int .i64 (cmpRf a b)) ∧ Below w.heap.size w w' := by
  obtain ⟨s, m⟩ := a
  obtain ⟨t, n⟩ := b
  simp only
  obtain ⟨W2, hW2⟩ : ∃ W2, W2 = (w.alloc (.cells #[.string s, .int .i64 m] 73)).alloc (.cells #[.string t, .int .i64 n] 73) := ⟨_, rfl⟩
  have bA : Hid (Blk W2 w.heap.size #[.string s, .int .i64 m] 73) := by show Blk _ _ _ _; rw [hW2]; exact Blk.new.alloc
  have bB : Hid (Blk W2 (w.heap.size + 1) #[.string t, .int .i64 n] 73) := by
    show Blk _ _ _ _
    rw [hW2]
    have := Blk.new (w := w.alloc (.cells #[.string s, .int .i64 m] 73)) (cs := #[.string t, .int .i64 n]) (t := 73)
    rwa [alloc_hs] at this
  have HAL : Hid (Below w.heap.size w W2) := by show Below _ _ _; rw [hW2]; exact ((Below.refl _ _).alloc (Nat.le_refl _) _).alloc (by simp) _
  have HW2 : Hid (W2 = (w.alloc (.cells #[.string s, .int .i64 m] 73)).alloc (.cells #[.string t, .int .i64 n] 73)) := hW2
  clear hW2
  have a0 := bA.out.cell 0 _ rfl
  have a1 := bA.out.cell 1 _ rfl
  have b0 := bB.out.cell 0 _ rfl
  have b1 := bB.out.cell 1 _ rfl
  generalize ho : or2 (cmpS s t) (cmpI m n) = o
  have HO : Hid (or2 (cmpS s t) (cmpI m n) = o) := ho
  have HS : Hid (cmpRf ⟨s, m⟩ ⟨t, n⟩ = o) := ho
  clear ho
  go_enter Tryz.func161, Tryz.ntmps161
  go_wp2_with fail
  rw [← HW2.out]
  go_region_held3 (fun w' => w'.cell? ⟨w.heap.size, 0, none⟩ = some (.string s) ∧ w'.cell? ⟨w.heap.size, 1, none⟩ = some (.int .i64 m) ∧ w'.cell? ⟨w.heap.size + 1, 0, none⟩ = some (.string t) ∧ w'.cell? ⟨w.heap.size + 1, 1, none⟩ = some (.int .i64 n))
    (first | go_keep)
    (first
      | (go_at_call 195; refine (cmpInt_any _ _ _).mono ?_; rintro e w' ⟨rfl, rfl⟩)
      | (go_at_call 105; refine (stringsCompare_any _ _ _).mono ?_; rintro e w' ⟨rfl, rfl⟩)
      | (go_at_call 104; refine (cmpOr2_any (cmpS s t) (cmpI m n) _ _ (by exact cell_new _ _ _ 0 _ rfl) (by exact cell_new _ _ _ 1 _ rfl)).mono ?_; rintro e w' ⟨rfl, rfl⟩; rw [HO.out]))
  go_split_ands
  have K3 : Below W2.heap.size W2 ((W2.alloc (.cells #[.int .i64 (cmpS s t), .int .i64 (cmpI m n)] 3)).drew) := ((Below.refl _ _).alloc (Nat.le_refl _) _).drew
  have HB3 : Hid (Below w.heap.size w ((W2.alloc (.cells #[.int .i64 (cmpS s t), .int .i64 (cmpI m n)] 3)).drew)) := HAL.out.trans (K3.mono HAL.out.size)
  clear K3
  go_wp2
  go_ret
  exact ⟨by rw [HS.out]; rfl, HB3.out⟩

theorem refOk_any (r : Rf) (w : World) (hs : r.name.size ≤ maxLen) (hk : KeysAt w) : Calls Tryz.prog 160 #[.agg #[.string r.name, .int .i64 r.arity]] w fun e w' => e = .returned (.bool (refB r)) ∧ Below w.heap.size w w' := by
  obtain ⟨s, n⟩ := r
  simp only at *
  have BL : Hid (Below w.heap.size w (w.alloc (.cells #[.string s, .int .i64 n] 73))) := (Below.refl _ _).alloc (Nat.le_refl _) _
  have HK : Hid (KeysAt (w.alloc (.cells #[.string s, .int .i64 n] 73))) := ⟨cell_next BL.out hk.1, cell_next BL.out hk.2.1, cell_next BL.out hk.2.2⟩
  clear hk
  cases ha : atomB s with
  | true =>
    go_enter Tryz.func160, Tryz.ntmps160
    go_wp2_with (first | (go_at_call 119; go_must (refine (implAtomOk_any _ _ hs HK.out).mono ?_; rintro e w' ⟨rfl, rfl⟩; rw [ha])) | (go_at_call 81; go_must (refine (withinM_any _ _ _ _).mono ?_; rintro e w' ⟨rfl, rfl⟩)))
    go_ret
    exact ⟨by simp [refB, ha], BL.out⟩
  | false =>
    go_enter Tryz.func160, Tryz.ntmps160
    go_wp2_with (first | (go_at_call 119; go_must (refine (implAtomOk_any _ _ hs HK.out).mono ?_; rintro e w' ⟨rfl, rfl⟩; rw [ha])))
    go_ret
    exact ⟨by simp [refB, ha], BL.out⟩

theorem refOf_any (s : ByteArray) (n : Int) (p : Option Addr) (l c : Nat) (w : World) : Calls Tryz.prog 58 #[.agg #[.string s, .int .i64 n, .slice p l c]] w fun e w' => e = .returned (.agg #[.string s, .int .i64 n]) ∧ Below w.heap.size w w' := by
  go_enter Tryz.func58, Tryz.ntmps58
  go_wp2
  refine bodyPost_ret (v := .agg #[.string s, .int .i64 n]) (by simp [results, Tryz.results58, go_sem]) rfl ⟨rfl, ?_⟩
  first | exact (Below.refl _ _).alloc (Nat.le_refl _) _ | exact ((Below.refl _ _).alloc (Nat.le_refl _) _).alloc (by simp) _ | exact ((((Below.refl _ _).alloc (Nat.le_refl _) _).alloc (by simp) _).setCell (by simp) _).setCell (by simp) _
end Go.Proofs.YtihffcphbcepoaaGreatDoor
/-
  The program's ModuleOk, by contract: expressions and clauses.
-/
namespace Go.Proofs.YtihffcphbcepoaaGreatDoor
open Go.ChangeShapes Go.WideShapes Go.ChangeAt Go.RowKit
set_option linter.unusedVariables false

theorem exShape {w : World} {S : Nat → Prop} {d : Nat} {cs : List Value} {x : Ex} (h : HEx w S d cs x) : ∃ sk sn st se p1 n1 q1 p2 n2 q2, cs = [.int .i64 sk, .int .i64 sn, .string st, .string se, .slice p1 n1 q1, .slice p2 n2 q2] := by
  cases d with
  | zero => exact h.elim
  | succ d =>
    obtain ⟨kv, cv, rfl, _, _, _, _, ⟨p1, c1, rfl, _⟩, ⟨p2, c2, rfl, _⟩⟩ := h
    exact ⟨_, _, _, _, _, _, _, _, _, _, rfl⟩
theorem clShape {w : World} {S : Nat → Prop} {R : List Value → Ex → Prop} {cs : List Value} {x : Cl} (h : HCl w S R cs x) : ∃ p1 n1 q1 p2 n2 q2, cs = [.slice p1 n1 q1, .slice p2 n2 q2] := by
  obtain ⟨pv, bv, rfl, ⟨p1, c1, rfl, _⟩, ⟨p2, c2, rfl, _⟩⟩ := h
  exact ⟨_, _, _, _, _, _, rfl⟩

def XpC (d : Nat) : Prop :=
  ∀ (w : World) (cs : List Value) (x : Ex) (pat : Bool) (deep : Int), Tabs w → HEx w All d cs x → 0 ≤ deep → deep ≤ 41 → Calls Tryz.prog 226 #[.agg cs.toArray, .int .i64 deep, .bool pat] w fun e w' => e = .returned (.bool (exOk d x pat (40 - deep))) ∧ Below w.heap.size w w'
def XsC (d : Nat) : Prop :=
  ∀ (w : World) (v : Value) (es : List Ex) (pat : Bool) (deep : Int), Tabs w → Rows w All 6 (HEx w All d) v es → 0 ≤ deep → deep ≤ 41 → Calls Tryz.prog 218 #[v, .int .i64 deep, .bool pat] w fun e w' => e = .returned (.bool (es.all (fun y => exOk d y pat (40 - deep)))) ∧ Below w.heap.size w w'
def KcC (d : Nat) : Prop :=
  ∀ (w : World) (cs : List Value) (c : Cl) (pats deep : Int), Tabs w → HCl w All (HEx w All d) cs c → 0 ≤ deep → deep ≤ 41 → Calls Tryz.prog 196 #[.agg cs.toArray, .int .i64 pats, .int .i64 deep] w fun e w' => e = .returned (.bool (clB (fun y q => exOk d y q (40 - deep)) c pats)) ∧ Below w.heap.size w w'
def KsC (d : Nat) : Prop :=
  ∀ (w : World) (v : Value) (cl : List Cl) (deep : Int), Tabs w → Rows w All 2 (HCl w All (HEx w All d)) v cl → 0 ≤ deep → deep ≤ 41 → Calls Tryz.prog 237 #[v, .int .i64 deep] w fun e w' => e = .returned (.bool (cl.all (fun c => clB (fun y q => exOk d y q (40 - deep)) c 1))) ∧ Below w.heap.size w w'

set_option maxHeartbeats 8000000 in
set_option maxRecDepth 100000 in
theorem expsI_of {d : Nat} (hE : XpC d) : XsC d := by
  intro w v es pat deep hT h hd0 hd1
  have HT : Hid (Tabs w) := hT
  obtain ⟨p, cap, rfl, hcl, hcm, hx⟩ := h
  have hnb : es.length ≤ 9223372036854775807 := by unfold maxLen at hcm; omega
  generalize hn : es.length = n at *
  have HN : Hid (es.length = n) := hn
  have HX : Hid (es ≠ [] → ∃ g off, p = some ⟨g, off, none⟩ ∧ All g ∧ g < w.heap.size ∧ ∀ i x, es[i]? = some x → ∃ cs, cs.length = 6 ∧ (∀ j, j < 6 → w.cell? ⟨g, off + i * 6 + j, none⟩ = cs[j]?) ∧ HEx w All d cs x) := hx
  clear hx hn hT
  go_enter Tryz.func218, Tryz.ntmps218
  go_wp2_with fail
  go_loopw [11] (fun iv wr => ∃ k : Nat, k ≤ n ∧ iv = .int .i64 k ∧ Hid ((es.take k).all (fun y => exOk d y pat (40 - deep)) = true) ∧ Below w.heap.size w wr) (fun iv _ => n - (intOf iv).toNat)
  case atStart => exact ⟨0, Nat.zero_le _, rfl, by show _ = _; simp, Below.refl _ _⟩
  case round =>
    obtain ⟨k, hk, rfl, hall, hb⟩ := hrel
    have HB : Hid (Below w.heap.size w wr) := hb
    by_cases hlt : k < n
    · obtain ⟨x, hxk⟩ : ∃ x, es[k]? = some x := ⟨es[k]'(by rw [HN.out]; exact hlt), List.getElem?_eq_getElem _⟩
      obtain ⟨g, off, rfl, -, hgl, hat⟩ := HX.out (by intro h; rw [h] at hxk; simp at hxk)
      obtain ⟨cs, hcsl, hcs, r1⟩ := hat k x hxk
      obtain ⟨sk, sn, st, se, p1, n1, q1, p2, n2, q2, rfl⟩ := exShape r1
      have E1 : ∀ w', Below w.heap.size w w' → HEx w' All d [.int .i64 sk, .int .i64 sn, .string st, .string se, .slice p1 n1 q1, .slice p2 n2 q2] x := fun w' hw => r1.mono (SameOn.of_below hw) (fun _ h => h)
      have a0 := hcs 0 (by omega)
      have a1 := hcs 1 (by omega)
      have a2 := hcs 2 (by omega)
      have a3 := hcs 3 (by omega)
      have a4 := hcs 4 (by omega)
      have a5 := hcs 5 (by omega)
      rw [← hb.cell (p := ⟨g, _, none⟩) hgl] at a0 a1 a2 a3 a4 a5
      simp at a0 a1 a2 a3 a4 a5
      have hki : (k : Int) < (n : Int) := by omega
      have hk0 : (0 : Int) ≤ (k : Int) := by omega
      have HBA : Hid (Below w.heap.size w (wr.alloc (.cells #[.int .i64 sk, .int .i64 sn, .string st, .string se, .slice p1 n1 q1, .slice p2 n2 q2] 88))) := HB.out.alloc HB.out.size _
      clear hb hcs hat hcsl r1
      generalize hcv : exOk d x pat (40 - deep) = cv
      have HCV : Hid (exOk d x pat (40 - deep) = cv) := hcv
      have HC2 : Hid (cv = true → (es.take (k + 1)).all (fun y => exOk d y pat (40 - deep)) = true) := fun h => allT_succ _ es k x hxk hall.out (hcv.trans h)
      have HC3 : Hid (cv = false → es.all (fun y => exOk d y pat (40 - deep)) = false) := fun h => allT_at _ es k x hxk (hcv.trans h)
      clear hcv
      go_wp2_with fail
      refine (hE _ _ x pat deep (HT.out.below HBA.out) (E1 _ HBA.out) (by omega) (by omega)).mono ?_
      rintro e w4 ⟨rfl, hb4⟩
      rw [HCV.out]
      have HB4 : Hid (Below w.heap.size w w4) := HBA.out.trans (hb4.mono HBA.out.size)
      clear hb4 HCV
      cases cv with
      | true =>
        have HT' : Hid _ := HC2.out rfl
        clear HC2 HC3
        go_wp2_with fail
        exact ⟨⟨k + 1, by omega, by go_num, HT'.out, HB4.out⟩, by simp [intOf]; omega⟩
      | false =>
        have HF : Hid (es.all (fun y => exOk d y pat (40 - deep)) = false) := HC3.out rfl
        clear HC2 HC3
        go_wp2_with fail
        go_ret
        exact ⟨by first | (rw [HF.out]; rfl) | (rw [HF.out]; simp), HB4.out⟩
    · have HD : Hid (es.all (fun y => exOk d y pat (40 - deep)) = true) := by
        have := hall.out
        rwa [List.take_of_length_le (by rw [HN.out]; omega)] at this
      clear hb
      go_wp2_with fail
      go_ret
      exact ⟨by first | (rw [HD.out]; rfl) | (rw [HD.out]; simp), HB.out⟩

set_option maxHeartbeats 8000000 in
set_option maxRecDepth 100000 in
theorem casesI_of {d : Nat} (hE : KcC d) : KsC d := by
  intro w v cl deep hT h hd0 hd1
  have HT : Hid (Tabs w) := hT
  obtain ⟨p, cap, rfl, hcl, hcm, hx⟩ := h
  have hnb : cl.length ≤ 9223372036854775807 := by unfold maxLen at hcm; omega
  generalize hn : cl.length = n at *
  have HN : Hid (cl.length = n) := hn
  have HX : Hid (cl ≠ [] → ∃ g off, p = some ⟨g, off, none⟩ ∧ All g ∧ g < w.heap.size ∧ ∀ i x, cl[i]? = some x → ∃ cs, cs.length = 2 ∧ (∀ j, j < 2 → w.cell? ⟨g, off + i * 2 + j, none⟩ = cs[j]?) ∧ HCl w All (HEx w All d) cs x) := hx
  clear hx hn hT
  go_enter Tryz.func237, Tryz.ntmps237
  go_wp2_with fail
  go_loopw [9] (fun iv wr => ∃ k : Nat, k ≤ n ∧ iv = .int .i64 k ∧ Hid ((cl.take k).all (fun c => clB (fun y q => exOk d y q (40 - deep)) c 1) = true) ∧ Below w.heap.size w wr) (fun iv _ => n - (intOf iv).toNat)
  case atStart => exact ⟨0, Nat.zero_le _, rfl, by show _ = _; simp, Below.refl _ _⟩
  case round =>
    obtain ⟨k, hk, rfl, hall, hb⟩ := hrel
    have HB : Hid (Below w.heap.size w wr) := hb
    by_cases hlt : k < n
    · obtain ⟨x, hxk⟩ : ∃ x, cl[k]? = some x := ⟨cl[k]'(by rw [HN.out]; exact hlt), List.getElem?_eq_getElem _⟩
      obtain ⟨g, off, rfl, -, hgl, hat⟩ := HX.out (by intro h; rw [h] at hxk; simp at hxk)
      obtain ⟨cs, hcsl, hcs, r1⟩ := hat k x hxk
      obtain ⟨p1, n1, q1, p2, n2, q2, rfl⟩ := clShape r1
      have E1 : ∀ w', Below w.heap.size w w' → HCl w' All (HEx w' All d) [.slice p1 n1 q1, .slice p2 n2 q2] x := fun w' hw => r1.mono (SameOn.of_below hw) (fun _ h => h) (fun _ _ h => h.mono (SameOn.of_below hw) (fun _ h => h))
      have a0 := hcs 0 (by omega)
      have a1 := hcs 1 (by omega)
      rw [← hb.cell (p := ⟨g, _, none⟩) hgl] at a0 a1
      simp at a0 a1
      have hki : (k : Int) < (n : Int) := by omega
      have hk0 : (0 : Int) ≤ (k : Int) := by omega
      have HBA : Hid (Below w.heap.size w (wr.alloc (.cells #[.slice p1 n1 q1, .slice p2 n2 q2] 78))) := HB.out.alloc HB.out.size _
      clear hb hcs hat hcsl r1
      generalize hcv : clB (fun y q => exOk d y q (40 - deep)) x 1 = cv
      have HCV : Hid (clB (fun y q => exOk d y q (40 - deep)) x 1 = cv) := hcv
      have HC2 : Hid (cv = true → (cl.take (k + 1)).all (fun c => clB (fun y q => exOk d y q (40 - deep)) c 1) = true) := fun h => allT_succ _ cl k x hxk hall.out (hcv.trans h)
      have HC3 : Hid (cv = false → cl.all (fun c => clB (fun y q => exOk d y q (40 - deep)) c 1) = false) := fun h => allT_at _ cl k x hxk (hcv.trans h)
      clear hcv
      go_wp2_with fail
      refine (hE _ _ x 1 deep (HT.out.below HBA.out) (E1 _ HBA.out) (by omega) (by omega)).mono ?_
      rintro e w4 ⟨rfl, hb4⟩
      rw [HCV.out]
      have HB4 : Hid (Below w.heap.size w w4) := HBA.out.trans (hb4.mono HBA.out.size)
      clear hb4 HCV
      cases cv with
      | true =>
        have HT' : Hid _ := HC2.out rfl
        clear HC2 HC3
        go_wp2_with fail
        exact ⟨⟨k + 1, by omega, by go_num, HT'.out, HB4.out⟩, by simp [intOf]; omega⟩
      | false =>
        have HF : Hid (cl.all (fun c => clB (fun y q => exOk d y q (40 - deep)) c 1) = false) := HC3.out rfl
        clear HC2 HC3
        go_wp2_with fail
        go_ret
        exact ⟨by first | (rw [HF.out]; rfl) | (rw [HF.out]; simp), HB4.out⟩
    · have HD : Hid (cl.all (fun c => clB (fun y q => exOk d y q (40 - deep)) c 1) = true) := by
        have := hall.out
        rwa [List.take_of_length_le (by rw [HN.out]; omega)] at this
      clear hb
      go_wp2_with fail
      go_ret
      exact ⟨by first | (rw [HD.out]; rfl) | (rw [HD.out]; simp), HB.out⟩

set_option maxHeartbeats 8000000 in
set_option maxRecDepth 100000 in
theorem clauseI_of {d : Nat} (hE : XsC d) : KcC d := by
  intro w cs c pats deep hT h hd0 hd1
  have HT : Hid (Tabs w) := hT
  obtain ⟨pv, bv, rfl, f0, f1⟩ := h
  obtain ⟨ps, bs⟩ := c
  simp only at f0 f1
  have BL : Hid (Below w.heap.size w (w.alloc (.cells #[pv, bv] 78))) := (Below.refl _ _).alloc (Nat.le_refl _) _
  have F0 : ∀ w', Below w.heap.size w w' → Rows w' All 6 (HEx w' All d) pv ps := fun w' hw => f0.mono (SameOn.of_below hw) (fun _ h => h) (fun _ _ _ h => h.mono (SameOn.of_below hw) (fun _ h => h))
  have F1 : ∀ w', Below w.heap.size w w' → Rows w' All 6 (HEx w' All d) bv bs := fun w' hw => f1.mono (SameOn.of_below hw) (fun _ h => h) (fun _ _ _ h => h.mono (SameOn.of_below hw) (fun _ h => h))
  obtain ⟨p, cap, rfl, hcl, hcm, -⟩ := f0
  obtain ⟨q, cap', rfl, hcl', hcm', -⟩ := f1
  have hnb : ps.length ≤ 9223372036854775807 := by unfold maxLen at hcm; omega
  have hmb : bs.length ≤ 9223372036854775807 := by unfold maxLen at hcm'; omega
  have hv : clB (fun y q => exOk d y q (40 - deep)) (ps, bs) pats = (decide ((ps.length : Int) = pats) && (inB bs.length 1 20 && (ps.all (fun y => exOk d y true (40 - deep)) && bs.all (fun y => exOk d y false (40 - deep))))) := rfl
  rw [hv]
  clear hv hT
  generalize ps.length = n at *
  generalize bs.length = m at *
  by_cases c1 : (n : Int) = pats
  · subst c1
    rw [decide_eq_true rfl]
    cases hin : inB m 1 20 with
    | false =>
      go_enter Tryz.func196, Tryz.ntmps196
      go_wp2_with (first | (go_at_call 81; go_must (refine (withinM_any _ _ _ _).mono ?_; rintro e w9 ⟨rfl, rfl⟩; rw [hin])))
      go_ret
      exact ⟨by simp, BL.out⟩
    | true =>
      cases h1 : ps.all (fun y => exOk d y true (40 - deep)) with
      | false =>
        go_enter Tryz.func196, Tryz.ntmps196
        go_wp2_with (first | (go_at_call 81; go_must (refine (withinM_any _ _ _ _).mono ?_; rintro e w9 ⟨rfl, rfl⟩; rw [hin])))
        refine (hE _ _ ps true deep (HT.out.below BL.out) (F0 _ BL.out) (by omega) (by omega)).mono ?_
        rintro e w2 ⟨rfl, hb2⟩
        rw [h1]
        have B2 : Hid (Below w.heap.size w w2) := BL.out.trans (hb2.mono BL.out.size)
        clear hb2
        go_wp2_with fail
        go_ret
        exact ⟨by simp, B2.out⟩
      | true =>
        go_enter Tryz.func196, Tryz.ntmps196
        go_wp2_with (first | (go_at_call 81; go_must (refine (withinM_any _ _ _ _).mono ?_; rintro e w9 ⟨rfl, rfl⟩; rw [hin])))
        refine (hE _ _ ps true deep (HT.out.below BL.out) (F0 _ BL.out) (by omega) (by omega)).mono ?_
        rintro e w2 ⟨rfl, hb2⟩
        rw [h1]
        have B2 : Hid (Below w.heap.size w w2) := BL.out.trans (hb2.mono BL.out.size)
        have hbk := (Blk.new (w := w) (cs := #[.slice p n cap, .slice q m cap']) (t := 78)).next hb2
        have a0 := hbk.cell 0 _ rfl
        have a1 := hbk.cell 1 _ rfl
        clear hb2 hbk
        go_wp2_with fail
        refine (hE _ _ bs false deep (HT.out.below B2.out) (F1 _ B2.out) (by omega) (by omega)).mono ?_
        rintro e w3 ⟨rfl, hb3⟩
        have B3 : Hid (Below w.heap.size w w3) := B2.out.trans (hb3.mono B2.out.size)
        clear hb3
        go_wp2_with fail
        go_ret
        exact ⟨by simp, B3.out⟩
  · have c2 : ((n : Int) == pats) = false := by simpa using c1
    rw [decide_eq_false c1]
    go_enter Tryz.func196, Tryz.ntmps196
    go_wp2
    go_ret
    exact ⟨by simp, BL.out⟩

theorem plainB_parts {k n : Int} {t m : ByteArray} {nk nc : Nat} (h : plainB k n t m nk nc = true) : kidLo k ≤ nk ∧ (nk : Int) ≤ kidHi k ∧ clsLo k ≤ nc ∧ (nc : Int) ≤ clsHi k := by
  unfold plainB at h
  simp only [Bool.and_eq_true, inB, decide_eq_true_eq] at h
  omega

set_option maxHeartbeats 16000000 in
set_option maxRecDepth 100000 in
theorem expI_of {d : Nat} (h0 : XpC d) (h1 : XsC d) (h2 : KsC d) : XpC (d + 1) := by
  intro w cs x pat deep hT h hd0 hd1
  have HT : Hid (Tabs w) := hT
  obtain ⟨kv, cv, rfl, -, -, hts, hms, f0, f1⟩ := h
  obtain ⟨kx, nx, tx, mx, ks, cl⟩ := x
  simp only [Ex.kind, Ex.n, Ex.text, Ex.mod, Ex.kids, Ex.clauses] at *
  have F0 : ∀ w', Below w.heap.size w w' → Rows w' All 6 (HEx w' All d) kv ks := fun w' hw => f0.mono (SameOn.of_below hw) (fun _ h => h) (fun _ _ _ h => h.mono (SameOn.of_below hw) (fun _ h => h))
  have F1 : ∀ w', Below w.heap.size w w' → Rows w' All 2 (HCl w' All (HEx w' All d)) cv cl := fun w' hw => f1.mono (SameOn.of_below hw) (fun _ h => h) (fun _ _ _ h => h.mono (SameOn.of_below hw) (fun _ h => h) (fun _ _ h => h.mono (SameOn.of_below hw) (fun _ h => h)))
  obtain ⟨p, cap, rfl, hcl, hcm, hx⟩ := f0
  obtain ⟨q, cap', rfl, hcl', hcm', -⟩ := f1
  have hnb : ks.length ≤ 9223372036854775807 := by unfold maxLen at hcm; omega
  have hmb : cl.length ≤ 9223372036854775807 := by unfold maxLen at hcm'; omega
  have hv := exOk_eq d kx nx tx mx ks cl pat (40 - deep)
  have e1 : 40 - deep - 1 = 40 - (deep + 1) := by omega
  rw [e1] at hv
  rw [hv]
  clear hv e1 hT
  have BL : Hid (∀ (cs : Array Value) (t : TypeId), Below w.heap.size w (w.alloc (.cells cs t))) := fun cs t => (Below.refl _ _).alloc (Nat.le_refl _) _
  generalize hn : ks.length = n at *
  generalize hm : cl.length = m at *
  have HN : Hid (ks.length = n) := hn
  have HM : Hid (cl.length = m) := hm
  have HX : Hid (ks ≠ [] → ∃ g off, p = some ⟨g, off, none⟩ ∧ All g ∧ g < w.heap.size ∧ ∀ i x, ks[i]? = some x → ∃ cs, cs.length = 6 ∧ (∀ j, j < 6 → w.cell? ⟨g, off + i * 6 + j, none⟩ = cs[j]?) ∧ HEx w All d cs x) := hx
  clear hx hn hm
  by_cases c1 : 40 < deep
  · rw [decide_eq_false (by omega)]
    go_enter Tryz.func226, Tryz.ntmps226
    go_wp2_with fail
    go_ret
    exact ⟨by simp, BL.out _ _⟩
  rw [decide_eq_true (by omega : 0 ≤ 40 - deep)]
  cases hpl : plainB kx nx tx mx n m with
  | false =>
    go_enter Tryz.func226, Tryz.ntmps226
    go_wp2_with fail
    refine (partsOk_any _ _ _ _ _ _ _ _ _ _ _ hts hms hnb hmb (HT.out.below (BL.out _ _))).mono ?_
    rintro e W1 ⟨rfl, hb⟩
    rw [hpl]
    have B1 : Hid (Below w.heap.size w W1) := ((Below.refl _ _).alloc (Nat.le_refl _) _).trans (hb.mono (by simp))
    have bA : Hid (Blk W1 w.heap.size #[.int .i64 kx, .int .i64 nx, .string tx, .string mx, .slice p n cap, .slice q m cap'] 88) := (Blk.new (w := w)).next hb
    have xa0 := bA.out.cell 0 _ rfl
    have xa1 := bA.out.cell 1 _ rfl
    have xa2 := bA.out.cell 2 _ rfl
    have xa3 := bA.out.cell 3 _ rfl
    have xa4 := bA.out.cell 4 _ rfl
    have xa5 := bA.out.cell 5 _ rfl
    clear hb
    go_wp2_with fail
    go_ret
    exact ⟨by simp, B1.out⟩
  | true =>
    obtain ⟨r0, r1⟩ := plainB_range hpl
    obtain ⟨g0, g1, g2, g3⟩ := plainB_parts hpl
    simp only [Bool.true_and]
    have nocl : kx ≠ 10 → cl = [] := fun h => by
      have : clsHi kx = 0 := by simp [clsHi, h]
      have h3 := HM.out
      exact List.length_eq_zero_iff.1 (by omega)
    by_cases k3 : kx = 3
    · subst k3
      have hk : ks = [] := by
        have : kidHi 3 = 0 := by decide
        have h3 := HN.out
        exact List.length_eq_zero_iff.1 (by omega)
      have HV : Hid ((patB 3 pat && (kidsB (fun y q => exOk d y q (40 - (deep + 1))) ks (pat || decide ((3 : Int) = 9)) pat && cl.all (fun c => clB (fun y q => exOk d y q (40 - (deep + 1))) c 1))) = pat) := by
        show _ = _
        rw [hk, nocl (by omega)]; cases pat <;> simp [kidsB, patB]
      clear nocl hk g0 g1 g2 g3
      rw [HV.out]
      go_enter Tryz.func226, Tryz.ntmps226
      go_wp2_with fail
      refine (partsOk_any _ _ _ _ _ _ _ _ _ _ _ hts hms hnb hmb (HT.out.below (BL.out _ _))).mono ?_
      rintro e W1 ⟨rfl, hb⟩
      rw [hpl]
      have B1 : Hid (Below w.heap.size w W1) := ((Below.refl _ _).alloc (Nat.le_refl _) _).trans (hb.mono (by simp))
      have bA : Hid (Blk W1 w.heap.size #[.int .i64 3, .int .i64 nx, .string tx, .string mx, .slice p n cap, .slice q m cap'] 88) := (Blk.new (w := w)).next hb
      have xa0 := bA.out.cell 0 _ rfl
      have xa1 := bA.out.cell 1 _ rfl
      have xa2 := bA.out.cell 2 _ rfl
      have xa3 := bA.out.cell 3 _ rfl
      have xa4 := bA.out.cell 4 _ rfl
      have xa5 := bA.out.cell 5 _ rfl
      clear hb
      go_wp2_with fail
      go_ret
      exact ⟨by rfl, B1.out⟩
    by_cases k46 : kx = 4 ∨ kx = 6
    · have HV : Hid ((patB kx pat && (kidsB (fun y q => exOk d y q (40 - (deep + 1))) ks (pat || decide (kx = 9)) pat && cl.all (fun c => clB (fun y q => exOk d y q (40 - (deep + 1))) c 1))) = ks.all (fun y => exOk d y pat (40 - (deep + 1)))) := by
        show _ = _
        have e9 : decide (kx = 9) = false := by simp; omega
        have ep : patB kx pat = true := by cases pat <;> simp [patB] <;> omega
        rw [nocl (by omega), e9, Bool.or_false, kidsB_same, ep]; simp
      clear nocl g0 g1 g2 g3
      rw [HV.out]
      rcases k46 with k4 | k4
      · subst k4
        go_enter Tryz.func226, Tryz.ntmps226
        go_wp2_with fail
        refine (partsOk_any _ _ _ _ _ _ _ _ _ _ _ hts hms hnb hmb (HT.out.below (BL.out _ _))).mono ?_
        rintro e W1 ⟨rfl, hb⟩
        rw [hpl]
        have B1 : Hid (Below w.heap.size w W1) := ((Below.refl _ _).alloc (Nat.le_refl _) _).trans (hb.mono (by simp))
        have bA : Hid (Blk W1 w.heap.size #[.int .i64 4, .int .i64 nx, .string tx, .string mx, .slice p n cap, .slice q m cap'] 88) := (Blk.new (w := w)).next hb
        have xa0 := bA.out.cell 0 _ rfl
        have xa1 := bA.out.cell 1 _ rfl
        have xa2 := bA.out.cell 2 _ rfl
        have xa3 := bA.out.cell 3 _ rfl
        have xa4 := bA.out.cell 4 _ rfl
        have xa5 := bA.out.cell 5 _ rfl
        clear hb
        go_wp2_with fail
        refine (h1 _ _ ks pat (deep + 1) (HT.out.below B1.out) (F0 _ B1.out) (by omega) (by omega)).mono ?_
        rintro e w3 ⟨rfl, hb3⟩
        have B3 : Hid (Below w.heap.size w w3) := B1.out.trans (hb3.mono B1.out.size)
        clear hb3
        go_wp2_with fail
        go_ret
        exact ⟨by rfl, B3.out⟩
      · subst k4
        go_enter Tryz.func226, Tryz.ntmps226
        go_wp2_with fail
        refine (partsOk_any _ _ _ _ _ _ _ _ _ _ _ hts hms hnb hmb (HT.out.below (BL.out _ _))).mono ?_
        rintro e W1 ⟨rfl, hb⟩
        rw [hpl]
        have B1 : Hid (Below w.heap.size w W1) := ((Below.refl _ _).alloc (Nat.le_refl _) _).trans (hb.mono (by simp))
        have bA : Hid (Blk W1 w.heap.size #[.int .i64 6, .int .i64 nx, .string tx, .string mx, .slice p n cap, .slice q m cap'] 88) := (Blk.new (w := w)).next hb
        have xa0 := bA.out.cell 0 _ rfl
        have xa1 := bA.out.cell 1 _ rfl
        have xa2 := bA.out.cell 2 _ rfl
        have xa3 := bA.out.cell 3 _ rfl
        have xa4 := bA.out.cell 4 _ rfl
        have xa5 := bA.out.cell 5 _ rfl
        clear hb
        go_wp2_with fail
        refine (h1 _ _ ks pat (deep + 1) (HT.out.below B1.out) (F0 _ B1.out) (by omega) (by omega)).mono ?_
        rintro e w3 ⟨rfl, hb3⟩
        have B3 : Hid (Below w.heap.size w w3) := B1.out.trans (hb3.mono B1.out.size)
        clear hb3
        go_wp2_with fail
        go_ret
        exact ⟨by rfl, B3.out⟩
    by_cases kl : kx = 0 ∨ kx = 1 ∨ kx = 2 ∨ kx = 5
    · have hk : ks = [] := by
        have : kidHi kx = 0 := by rcases kl with rfl | rfl | rfl | rfl <;> decide
        have h3 := HN.out
        exact List.length_eq_zero_iff.1 (by omega)
      have HV : Hid ((patB kx pat && (kidsB (fun y q => exOk d y q (40 - (deep + 1))) ks (pat || decide (kx = 9)) pat && cl.all (fun c => clB (fun y q => exOk d y q (40 - (deep + 1))) c 1))) = true) := by
        show _ = _
        have ep : patB kx pat = true := by cases pat <;> simp [patB] <;> omega
        rw [hk, nocl (by omega), ep]; simp [kidsB]
      clear nocl hk g0 g1 g2 g3
      rw [HV.out]
      rcases kl with k4 | k4 | k4 | k4
      · subst k4
        go_enter Tryz.func226, Tryz.ntmps226
        go_wp2_with fail
        refine (partsOk_any _ _ _ _ _ _ _ _ _ _ _ hts hms hnb hmb (HT.out.below (BL.out _ _))).mono ?_
        rintro e W1 ⟨rfl, hb⟩
        rw [hpl]
        have B1 : Hid (Below w.heap.size w W1) := ((Below.refl _ _).alloc (Nat.le_refl _) _).trans (hb.mono (by simp))
        have bA : Hid (Blk W1 w.heap.size #[.int .i64 0, .int .i64 nx, .string tx, .string mx, .slice p n cap, .slice q m cap'] 88) := (Blk.new (w := w)).next hb
        have xa0 := bA.out.cell 0 _ rfl
        have xa1 := bA.out.cell 1 _ rfl
        have xa2 := bA.out.cell 2 _ rfl
        have xa3 := bA.out.cell 3 _ rfl
        have xa4 := bA.out.cell 4 _ rfl
        have xa5 := bA.out.cell 5 _ rfl
        clear hb
        go_wp2_with fail
        go_ret
        exact ⟨by rfl, B1.out⟩
      · subst k4
        go_enter Tryz.func226, Tryz.ntmps226
        go_wp2_with fail
        refine (partsOk_any _ _ _ _ _ _ _ _ _ _ _ hts hms hnb hmb (HT.out.below (BL.out _ _))).mono ?_
        rintro e W1 ⟨rfl, hb⟩
        rw [hpl]
        have B1 : Hid (Below w.heap.size w W1) := ((Below.refl _ _).alloc (Nat.le_refl _) _).trans (hb.mono (by simp))
        have bA : Hid (Blk W1 w.heap.size #[.int .i64 1, .int .i64 nx, .string tx, .string mx, .slice p n cap, .slice q m cap'] 88) := (Blk.new (w := w)).next hb
        have xa0 := bA.out.cell 0 _ rfl
        have xa1 := bA.out.cell 1 _ rfl
        have xa2 := bA.out.cell 2 _ rfl
        have xa3 := bA.out.cell 3 _ rfl
        have xa4 := bA.out.cell 4 _ rfl
        have xa5 := bA.out.cell 5 _ rfl
        clear hb
        go_wp2_with fail
        go_ret
        exact ⟨by rfl, B1.out⟩
      · subst k4
        go_enter Tryz.func226, Tryz.ntmps226
        go_wp2_with fail
        refine (partsOk_any _ _ _ _ _ _ _ _ _ _ _ hts hms hnb hmb (HT.out.below (BL.out _ _))).mono ?_
        rintro e W1 ⟨rfl, hb⟩
        rw [hpl]
        have B1 : Hid (Below w.heap.size w W1) := ((Below.refl _ _).alloc (Nat.le_refl _) _).trans (hb.mono (by simp))
        have bA : Hid (Blk W1 w.heap.size #[.int .i64 2, .int .i64 nx, .string tx, .string mx, .slice p n cap, .slice q m cap'] 88) := (Blk.new (w := w)).next hb
        have xa0 := bA.out.cell 0 _ rfl
        have xa1 := bA.out.cell 1 _ rfl
        have xa2 := bA.out.cell 2 _ rfl
        have xa3 := bA.out.cell 3 _ rfl
        have xa4 := bA.out.cell 4 _ rfl
        have xa5 := bA.out.cell 5 _ rfl
        clear hb
        go_wp2_with fail
        go_ret
        exact ⟨by rfl, B1.out⟩
      · subst k4
        go_enter Tryz.func226, Tryz.ntmps226
        go_wp2_with fail
        refine (partsOk_any _ _ _ _ _ _ _ _ _ _ _ hts hms hnb hmb (HT.out.below (BL.out _ _))).mono ?_
        rintro e W1 ⟨rfl, hb⟩
        rw [hpl]
        have B1 : Hid (Below w.heap.size w W1) := ((Below.refl _ _).alloc (Nat.le_refl _) _).trans (hb.mono (by simp))
        have bA : Hid (Blk W1 w.heap.size #[.int .i64 5, .int .i64 nx, .string tx, .string mx, .slice p n cap, .slice q m cap'] 88) := (Blk.new (w := w)).next hb
        have xa0 := bA.out.cell 0 _ rfl
        have xa1 := bA.out.cell 1 _ rfl
        have xa2 := bA.out.cell 2 _ rfl
        have xa3 := bA.out.cell 3 _ rfl
        have xa4 := bA.out.cell 4 _ rfl
        have xa5 := bA.out.cell 5 _ rfl
        clear hb
        go_wp2_with fail
        go_ret
        exact ⟨by rfl, B1.out⟩
    cases pat with
    | true =>
      have HV : Hid ((patB kx true && (kidsB (fun y q => exOk d y q (40 - (deep + 1))) ks (true || decide (kx = 9)) true && cl.all (fun c => clB (fun y q => exOk d y q (40 - (deep + 1))) c 1))) = false) := by
        show _ = _
        have ep : patB kx true = false := by simp [patB]; omega
        rw [ep]; rfl
      clear nocl g0 g1 g2 g3
      rw [HV.out]
      rcases (by omega : kx = 7 ∨ kx = 8 ∨ kx = 9 ∨ kx = 10) with k4 | k4 | k4 | k4
      · subst k4
        go_enter Tryz.func226, Tryz.ntmps226
        go_wp2_with fail
        refine (partsOk_any _ _ _ _ _ _ _ _ _ _ _ hts hms hnb hmb (HT.out.below (BL.out _ _))).mono ?_
        rintro e W1 ⟨rfl, hb⟩
        rw [hpl]
        have B1 : Hid (Below w.heap.size w W1) := ((Below.refl _ _).alloc (Nat.le_refl _) _).trans (hb.mono (by simp))
        have bA : Hid (Blk W1 w.heap.size #[.int .i64 7, .int .i64 nx, .string tx, .string mx, .slice p n cap, .slice q m cap'] 88) := (Blk.new (w := w)).next hb
        have xa0 := bA.out.cell 0 _ rfl
        have xa1 := bA.out.cell 1 _ rfl
        have xa2 := bA.out.cell 2 _ rfl
        have xa3 := bA.out.cell 3 _ rfl
        have xa4 := bA.out.cell 4 _ rfl
        have xa5 := bA.out.cell 5 _ rfl
        clear hb
        go_wp2_with fail
        go_ret
        exact ⟨by rfl, B1.out⟩
      · subst k4
        go_enter Tryz.func226, Tryz.ntmps226
        go_wp2_with fail
        refine (partsOk_any _ _ _ _ _ _ _ _ _ _ _ hts hms hnb hmb (HT.out.below (BL.out _ _))).mono ?_
        rintro e W1 ⟨rfl, hb⟩
        rw [hpl]
        have B1 : Hid (Below w.heap.size w W1) := ((Below.refl _ _).alloc (Nat.le_refl _) _).trans (hb.mono (by simp))
        have bA : Hid (Blk W1 w.heap.size #[.int .i64 8, .int .i64 nx, .string tx, .string mx, .slice p n cap, .slice q m cap'] 88) := (Blk.new (w := w)).next hb
        have xa0 := bA.out.cell 0 _ rfl
        have xa1 := bA.out.cell 1 _ rfl
        have xa2 := bA.out.cell 2 _ rfl
        have xa3 := bA.out.cell 3 _ rfl
        have xa4 := bA.out.cell 4 _ rfl
        have xa5 := bA.out.cell 5 _ rfl
        clear hb
        go_wp2_with fail
        go_ret
        exact ⟨by rfl, B1.out⟩
      · subst k4
        go_enter Tryz.func226, Tryz.ntmps226
        go_wp2_with fail
        refine (partsOk_any _ _ _ _ _ _ _ _ _ _ _ hts hms hnb hmb (HT.out.below (BL.out _ _))).mono ?_
        rintro e W1 ⟨rfl, hb⟩
        rw [hpl]
        have B1 : Hid (Below w.heap.size w W1) := ((Below.refl _ _).alloc (Nat.le_refl _) _).trans (hb.mono (by simp))
        have bA : Hid (Blk W1 w.heap.size #[.int .i64 9, .int .i64 nx, .string tx, .string mx, .slice p n cap, .slice q m cap'] 88) := (Blk.new (w := w)).next hb
        have xa0 := bA.out.cell 0 _ rfl
        have xa1 := bA.out.cell 1 _ rfl
        have xa2 := bA.out.cell 2 _ rfl
        have xa3 := bA.out.cell 3 _ rfl
        have xa4 := bA.out.cell 4 _ rfl
        have xa5 := bA.out.cell 5 _ rfl
        clear hb
        go_wp2_with fail
        go_ret
        exact ⟨by rfl, B1.out⟩
      · subst k4
        go_enter Tryz.func226, Tryz.ntmps226
        go_wp2_with fail
        refine (partsOk_any _ _ _ _ _ _ _ _ _ _ _ hts hms hnb hmb (HT.out.below (BL.out _ _))).mono ?_
        rintro e W1 ⟨rfl, hb⟩
        rw [hpl]
        have B1 : Hid (Below w.heap.size w W1) := ((Below.refl _ _).alloc (Nat.le_refl _) _).trans (hb.mono (by simp))
        have bA : Hid (Blk W1 w.heap.size #[.int .i64 10, .int .i64 nx, .string tx, .string mx, .slice p n cap, .slice q m cap'] 88) := (Blk.new (w := w)).next hb
        have xa0 := bA.out.cell 0 _ rfl
        have xa1 := bA.out.cell 1 _ rfl
        have xa2 := bA.out.cell 2 _ rfl
        have xa3 := bA.out.cell 3 _ rfl
        have xa4 := bA.out.cell 4 _ rfl
        have xa5 := bA.out.cell 5 _ rfl
        clear hb
        go_wp2_with fail
        go_ret
        exact ⟨by rfl, B1.out⟩
    | false =>
      have ep : patB kx false = true := by simp [patB]; omega
      rw [ep]
      clear ep
      by_cases k78 : kx = 7 ∨ kx = 8
      · have HV : Hid ((true && (kidsB (fun y q => exOk d y q (40 - (deep + 1))) ks (false || decide (kx = 9)) false && cl.all (fun c => clB (fun y q => exOk d y q (40 - (deep + 1))) c 1))) = ks.all (fun y => exOk d y false (40 - (deep + 1)))) := by
          show _ = _
          have e9 : decide (kx = 9) = false := by simp; omega
          rw [nocl (by omega), e9, Bool.or_false, kidsB_same]; simp
        clear nocl g0 g1 g2 g3
        rw [HV.out]
        rcases k78 with k4 | k4
        · subst k4
          go_enter Tryz.func226, Tryz.ntmps226
          go_wp2_with fail
          refine (partsOk_any _ _ _ _ _ _ _ _ _ _ _ hts hms hnb hmb (HT.out.below (BL.out _ _))).mono ?_
          rintro e W1 ⟨rfl, hb⟩
          rw [hpl]
          have B1 : Hid (Below w.heap.size w W1) := ((Below.refl _ _).alloc (Nat.le_refl _) _).trans (hb.mono (by simp))
          have bA : Hid (Blk W1 w.heap.size #[.int .i64 7, .int .i64 nx, .string tx, .string mx, .slice p n cap, .slice q m cap'] 88) := (Blk.new (w := w)).next hb
          have xa0 := bA.out.cell 0 _ rfl
          have xa1 := bA.out.cell 1 _ rfl
          have xa2 := bA.out.cell 2 _ rfl
          have xa3 := bA.out.cell 3 _ rfl
          have xa4 := bA.out.cell 4 _ rfl
          have xa5 := bA.out.cell 5 _ rfl
          clear hb
          go_wp2_with fail
          refine (h1 _ _ ks false (deep + 1) (HT.out.below B1.out) (F0 _ B1.out) (by omega) (by omega)).mono ?_
          rintro e w3 ⟨rfl, hb3⟩
          have B3 : Hid (Below w.heap.size w w3) := B1.out.trans (hb3.mono B1.out.size)
          clear hb3
          go_wp2_with fail
          go_ret
          exact ⟨by rfl, B3.out⟩
        · subst k4
          go_enter Tryz.func226, Tryz.ntmps226
          go_wp2_with fail
          refine (partsOk_any _ _ _ _ _ _ _ _ _ _ _ hts hms hnb hmb (HT.out.below (BL.out _ _))).mono ?_
          rintro e W1 ⟨rfl, hb⟩
          rw [hpl]
          have B1 : Hid (Below w.heap.size w W1) := ((Below.refl _ _).alloc (Nat.le_refl _) _).trans (hb.mono (by simp))
          have bA : Hid (Blk W1 w.heap.size #[.int .i64 8, .int .i64 nx, .string tx, .string mx, .slice p n cap, .slice q m cap'] 88) := (Blk.new (w := w)).next hb
          have xa0 := bA.out.cell 0 _ rfl
          have xa1 := bA.out.cell 1 _ rfl
          have xa2 := bA.out.cell 2 _ rfl
          have xa3 := bA.out.cell 3 _ rfl
          have xa4 := bA.out.cell 4 _ rfl
          have xa5 := bA.out.cell 5 _ rfl
          clear hb
          go_wp2_with fail
          refine (h1 _ _ ks false (deep + 1) (HT.out.below B1.out) (F0 _ B1.out) (by omega) (by omega)).mono ?_
          rintro e w3 ⟨rfl, hb3⟩
          have B3 : Hid (Below w.heap.size w w3) := B1.out.trans (hb3.mono B1.out.size)
          clear hb3
          go_wp2_with fail
          go_ret
          exact ⟨by rfl, B3.out⟩
      by_cases k9 : kx = 9
      · subst k9
        have hn2 : n = 2 := by
          have a1 : kidLo 9 = 2 := by decide
          have a2 : kidHi 9 = 2 := by decide
          omega
        subst hn2
        obtain ⟨xa, xb, hks⟩ : ∃ a b, ks = [a, b] := by
          have h3 := HN.out
          match ks, h3 with
          | [a, b], _ => exact ⟨a, b, rfl⟩
        have HV : Hid ((true && (kidsB (fun y q => exOk d y q (40 - (deep + 1))) ks (false || decide ((9 : Int) = 9)) false && cl.all (fun c => clB (fun y q => exOk d y q (40 - (deep + 1))) c 1))) = (exOk d xa true (40 - (deep + 1)) && exOk d xb false (40 - (deep + 1)))) := by
          show _ = _
          rw [nocl (by omega), hks]; simp [kidsB]
        rw [HV.out]
        obtain ⟨g, off, rfl, -, hgl, hat⟩ := HX.out (by rw [hks]; simp)
        obtain ⟨cs, -, hcs, ra⟩ := hat 0 xa (by rw [hks]; rfl)
        obtain ⟨cs', -, hcs', rb⟩ := hat 1 xb (by rw [hks]; rfl)
        obtain ⟨sk, sn, st, se, p1, n1, q1, p2, n2, q2, rfl⟩ := exShape ra
        obtain ⟨tk, tn, tt, te, u1, m1, v1, u2, m2, v2, rfl⟩ := exShape rb
        have EA : ∀ w', Below w.heap.size w w' → HEx w' All d [.int .i64 sk, .int .i64 sn, .string st, .string se, .slice p1 n1 q1, .slice p2 n2 q2] xa := fun w' hw => ra.mono (SameOn.of_below hw) (fun _ h => h)
        have EB : ∀ w', Below w.heap.size w w' → HEx w' All d [.int .i64 tk, .int .i64 tn, .string tt, .string te, .slice u1 m1 v1, .slice u2 m2 v2] xb := fun w' hw => rb.mono (SameOn.of_below hw) (fun _ h => h)
        have CA : ∀ w', Below w.heap.size w w' → ∀ j, j < 6 → w'.cell? ⟨g, off + 0 * 6 + j, none⟩ = _ := fun w' hw j hj => (hw.cell (p := ⟨g, off + 0 * 6 + j, none⟩) hgl).trans (hcs j hj)
        have CB : ∀ w', Below w.heap.size w w' → ∀ j, j < 6 → w'.cell? ⟨g, off + 1 * 6 + j, none⟩ = _ := fun w' hw j hj => (hw.cell (p := ⟨g, off + 1 * 6 + j, none⟩) hgl).trans (hcs' j hj)
        clear nocl hat hcs hcs' ra rb g0 g1 g2 g3
        have HCA : Hid (∀ w', Below w.heap.size w w' → ∀ j, j < 6 → w'.cell? ⟨g, off + 0 * 6 + j, none⟩ = _) := CA
        have HCB : Hid (∀ w', Below w.heap.size w w' → ∀ j, j < 6 → w'.cell? ⟨g, off + 1 * 6 + j, none⟩ = _) := CB
        clear CA CB hks
        generalize hca : exOk d xa true (40 - (deep + 1)) = ca
        have HCV : Hid (exOk d xa true (40 - (deep + 1)) = ca) := hca
        clear hca
        cases ca with
        | false =>
          go_enter Tryz.func226, Tryz.ntmps226
          go_wp2_with fail
          refine (partsOk_any _ _ _ _ _ _ _ _ _ _ _ hts hms hnb hmb (HT.out.below (BL.out _ _))).mono ?_
          rintro e W1 ⟨rfl, hb⟩
          rw [hpl]
          have B1 : Hid (Below w.heap.size w W1) := ((Below.refl _ _).alloc (Nat.le_refl _) _).trans (hb.mono (by simp))
          have bA : Hid (Blk W1 w.heap.size #[.int .i64 9, .int .i64 nx, .string tx, .string mx, .slice (some ⟨g, off, none⟩) 2 cap, .slice q m cap'] 88) := (Blk.new (w := w)).next hb
          have xa0 := bA.out.cell 0 _ rfl
          have xa1 := bA.out.cell 1 _ rfl
          have xa2 := bA.out.cell 2 _ rfl
          have xa3 := bA.out.cell 3 _ rfl
          have xa4 := bA.out.cell 4 _ rfl
          have xa5 := bA.out.cell 5 _ rfl
          clear hb
          have ya0 := HCA.out _ B1.out 0 (by omega)
          have ya1 := HCA.out _ B1.out 1 (by omega)
          have ya2 := HCA.out _ B1.out 2 (by omega)
          have ya3 := HCA.out _ B1.out 3 (by omega)
          have ya4 := HCA.out _ B1.out 4 (by omega)
          have ya5 := HCA.out _ B1.out 5 (by omega)
          simp at ya0 ya1 ya2 ya3 ya4 ya5
          go_wp2_with fail
          refine (h0 _ _ xa true (deep + 1) (HT.out.below B1.out) (EA _ B1.out) (by omega) (by omega)).mono ?_
          rintro e w3 ⟨rfl, hb3⟩
          rw [HCV.out]
          have B3 : Hid (Below w.heap.size w w3) := B1.out.trans (hb3.mono B1.out.size)
          clear hb3
          go_wp2_with fail
          go_ret
          exact ⟨by simp, B3.out⟩
        | true =>
          go_enter Tryz.func226, Tryz.ntmps226
          go_wp2_with fail
          refine (partsOk_any _ _ _ _ _ _ _ _ _ _ _ hts hms hnb hmb (HT.out.below (BL.out _ _))).mono ?_
          rintro e W1 ⟨rfl, hb⟩
          rw [hpl]
          have B1 : Hid (Below w.heap.size w W1) := ((Below.refl _ _).alloc (Nat.le_refl _) _).trans (hb.mono (by simp))
          have bA : Hid (Blk W1 w.heap.size #[.int .i64 9, .int .i64 nx, .string tx, .string mx, .slice (some ⟨g, off, none⟩) 2 cap, .slice q m cap'] 88) := (Blk.new (w := w)).next hb
          have xa0 := bA.out.cell 0 _ rfl
          have xa1 := bA.out.cell 1 _ rfl
          have xa2 := bA.out.cell 2 _ rfl
          have xa3 := bA.out.cell 3 _ rfl
          have xa4 := bA.out.cell 4 _ rfl
          have xa5 := bA.out.cell 5 _ rfl
          clear hb
          have ya0 := HCA.out _ B1.out 0 (by omega)
          have ya1 := HCA.out _ B1.out 1 (by omega)
          have ya2 := HCA.out _ B1.out 2 (by omega)
          have ya3 := HCA.out _ B1.out 3 (by omega)
          have ya4 := HCA.out _ B1.out 4 (by omega)
          have ya5 := HCA.out _ B1.out 5 (by omega)
          simp at ya0 ya1 ya2 ya3 ya4 ya5
          go_wp2_with fail
          refine (h0 _ _ xa true (deep + 1) (HT.out.below B1.out) (EA _ B1.out) (by omega) (by omega)).mono ?_
          rintro e w3 ⟨rfl, hb3⟩
          rw [HCV.out]
          have B3 : Hid (Below w.heap.size w w3) := B1.out.trans (hb3.mono B1.out.size)
          have hbk := bA.out.next hb3
          clear xa0 xa1 xa2 xa3 xa4 xa5 ya0 ya1 ya2 ya3 ya4 ya5
          have xa4 := hbk.cell 4 _ rfl
          have yb0 := HCB.out _ B3.out 0 (by omega)
          have yb1 := HCB.out _ B3.out 1 (by omega)
          have yb2 := HCB.out _ B3.out 2 (by omega)
          have yb3 := HCB.out _ B3.out 3 (by omega)
          have yb4 := HCB.out _ B3.out 4 (by omega)
          have yb5 := HCB.out _ B3.out 5 (by omega)
          simp at yb0 yb1 yb2 yb3 yb4 yb5
          clear hb3 hbk
          go_wp2_with fail
          refine (h0 _ _ xb false (deep + 1) (HT.out.below B3.out) (EB _ B3.out) (by omega) (by omega)).mono ?_
          rintro e w4 ⟨rfl, hb4⟩
          have B4 : Hid (Below w.heap.size w w4) := B3.out.trans (hb4.mono B3.out.size)
          clear hb4
          go_wp2_with fail
          go_ret
          exact ⟨by simp, B4.out⟩
      obtain rfl : kx = 10 := by omega
      have HV : Hid ((true && (kidsB (fun y q => exOk d y q (40 - (deep + 1))) ks (false || decide ((10 : Int) = 9)) false && cl.all (fun c => clB (fun y q => exOk d y q (40 - (deep + 1))) c 1))) = (ks.all (fun y => exOk d y false (40 - (deep + 1))) && cl.all (fun c => clB (fun y q => exOk d y q (40 - (deep + 1))) c 1))) := by
        show _ = _
        have e9 : (false || decide ((10 : Int) = 9)) = false := by decide
        rw [e9, kidsB_same, Bool.true_and]
      clear nocl g0 g1 g2 g3
      rw [HV.out]
      cases hca : ks.all (fun y => exOk d y false (40 - (deep + 1))) with
      | false =>
        go_enter Tryz.func226, Tryz.ntmps226
        go_wp2_with fail
        refine (partsOk_any _ _ _ _ _ _ _ _ _ _ _ hts hms hnb hmb (HT.out.below (BL.out _ _))).mono ?_
        rintro e W1 ⟨rfl, hb⟩
        rw [hpl]
        have B1 : Hid (Below w.heap.size w W1) := ((Below.refl _ _).alloc (Nat.le_refl _) _).trans (hb.mono (by simp))
        have bA : Hid (Blk W1 w.heap.size #[.int .i64 10, .int .i64 nx, .string tx, .string mx, .slice p n cap, .slice q m cap'] 88) := (Blk.new (w := w)).next hb
        have xa0 := bA.out.cell 0 _ rfl
        have xa1 := bA.out.cell 1 _ rfl
        have xa2 := bA.out.cell 2 _ rfl
        have xa3 := bA.out.cell 3 _ rfl
        have xa4 := bA.out.cell 4 _ rfl
        have xa5 := bA.out.cell 5 _ rfl
        clear hb
        go_wp2_with fail
        refine (h1 _ _ ks false (deep + 1) (HT.out.below B1.out) (F0 _ B1.out) (by omega) (by omega)).mono ?_
        rintro e w3 ⟨rfl, hb3⟩
        rw [hca]
        have B3 : Hid (Below w.heap.size w w3) := B1.out.trans (hb3.mono B1.out.size)
        clear hb3
        go_wp2_with fail
        go_ret
        exact ⟨by simp, B3.out⟩
      | true =>
        go_enter Tryz.func226, Tryz.ntmps226
        go_wp2_with fail
        refine (partsOk_any _ _ _ _ _ _ _ _ _ _ _ hts hms hnb hmb (HT.out.below (BL.out _ _))).mono ?_
        rintro e W1 ⟨rfl, hb⟩
        rw [hpl]
        have B1 : Hid (Below w.heap.size w W1) := ((Below.refl _ _).alloc (Nat.le_refl _) _).trans (hb.mono (by simp))
        have bA : Hid (Blk W1 w.heap.size #[.int .i64 10, .int .i64 nx, .string tx, .string mx, .slice p n cap, .slice q m cap'] 88) := (Blk.new (w := w)).next hb
        have xa0 := bA.out.cell 0 _ rfl
        have xa1 := bA.out.cell 1 _ rfl
        have xa2 := bA.out.cell 2 _ rfl
        have xa3 := bA.out.cell 3 _ rfl
        have xa4 := bA.out.cell 4 _ rfl
        have xa5 := bA.out.cell 5 _ rfl
        clear hb
        go_wp2_with fail
        refine (h1 _ _ ks false (deep + 1) (HT.out.below B1.out) (F0 _ B1.out) (by omega) (by omega)).mono ?_
        rintro e w3 ⟨rfl, hb3⟩
        rw [hca]
        have B3 : Hid (Below w.heap.size w w3) := B1.out.trans (hb3.mono B1.out.size)
        have hbk := bA.out.next hb3
        clear xa0 xa1 xa2 xa3 xa4 xa5
        have xa5 := hbk.cell 5 _ rfl
        clear hb3 hbk
        go_wp2_with fail
        refine (h2 _ _ cl (deep + 1) (HT.out.below B3.out) (F1 _ B3.out) (by omega) (by omega)).mono ?_
        rintro e w4 ⟨rfl, hb4⟩
        have B4 : Hid (Below w.heap.size w w4) := B3.out.trans (hb4.mono B3.out.size)
        clear hb4
        go_wp2_with fail
        go_ret
        exact ⟨by simp, B4.out⟩

theorem exp_allI : ∀ d, XpC d
  | 0 => fun w cs x pat deep _ h _ _ => h.elim
  | d + 1 => expI_of (exp_allI d) (expsI_of (exp_allI d)) (casesI_of (clauseI_of (expsI_of (exp_allI d))))
theorem clause_allI (d : Nat) : KcC d := clauseI_of (expsI_of (exp_allI d))
end Go.Proofs.YtihffcphbcepoaaGreatDoor
/-
  The program's ModuleOk, by contract: functions.
-/
namespace Go.Proofs.YtihffcphbcepoaaGreatDoor
open Go.ChangeShapes Go.WideShapes Go.ChangeAt Go.RowKit
set_option linter.unusedVariables false

theorem fnShape {w : World} {S : Nat → Prop} {d : Nat} {cs : List Value} {x : Fn'} (h : HFn w S d cs x) : ∃ p1 n1 q1, cs = [.string x.name, .int .i64 x.arity, .slice p1 n1 q1] := by
  obtain ⟨cv, rfl, _, _, ⟨p1, c1, rfl, _⟩⟩ := h
  exact ⟨_, _, _, rfl⟩
theorem Rows.take {α : Type} {w : World} {S : Nat → Prop} {c : Nat} {R : List Value → α → Prop} {p : Option Addr} {n cap : Nat} {es : List α} (h : Rows w S c R (.slice p n cap) es) (k : Nat) (hk : k ≤ n) : Rows w S c R (.slice p k cap) (es.take k) := by
  obtain ⟨p', cap', hv, h1, h2, hx⟩ := h
  simp only [Value.slice.injEq] at hv
  obtain ⟨rfl, rfl, rfl⟩ := hv
  refine ⟨p, cap, by rw [List.length_take, Nat.min_eq_left hk], by rw [List.length_take]; omega, h2, fun hne => ?_⟩
  obtain ⟨g, off, hp, hS, hl, hat⟩ := hx (fun e => hne (by rw [e]; simp))
  exact ⟨g, off, hp, hS, hl, fun i x hi => hat i x (by rw [List.getElem?_take] at hi; split at hi; exact hi; cases hi)⟩

theorem refG : Tryz.prog.eqGuardType Tryz.prog.depth 73 = false := by kernel_rfl
theorem refH : Tryz.prog.stoodInHeld 73 = false := by kernel_rfl
theorem refU : Tryz.prog.underlying 73 = some (.struct (Tryz.prog.fieldsOf 73)) := by kernel_rfl
theorem refE (a c : ByteArray) (b d : Int) (w : World) : (Op.equalIn 10000 73 (.agg #[.string a, .int .i64 b]) (.agg #[.string c, .int .i64 d])).run Tryz.prog w = .ok ((a.toList == c.toList) && (b == d)) w := by
  rw [show (10000 : Nat) = 9999 + 1 from rfl, run_equalIn_struct w 9999 _ _ _ refU refH]
  cases h1 : (a.toList == c.toList) <;> cases h2 : (b == d) <;> simp [go_sem, Program.fieldsOf, Tryz.underlying73, Tryz.underlying3, Tryz.underlying9, Op.eqFields, h1, h2]

set_option maxHeartbeats 8000000 in
set_option maxRecDepth 100000 in
theorem hasFun_any (d : Nat) (w : World) (v : Value) (fs : List Fn') (r : Rf) (h : Rows w All 3 (HFn w All d) v fs) :
    Calls Tryz.prog 101 #[v, .agg #[.string r.name, .int .i64 r.arity]] w fun e w' => e = .returned (.bool (fs.any (sameR r))) ∧ Below w.heap.size w w' := by
  obtain ⟨rs, rn⟩ := r
  simp only
  obtain ⟨p, cap, rfl, hcl, hcm, hx⟩ := h
  have hnb : fs.length ≤ 9223372036854775807 := by unfold maxLen at hcm; omega
  generalize hn : fs.length = n at *
  have HN : Hid (fs.length = n) := hn
  have HX : Hid (fs ≠ [] → ∃ g off, p = some ⟨g, off, none⟩ ∧ All g ∧ g < w.heap.size ∧ ∀ i x, fs[i]? = some x → ∃ cs, cs.length = 3 ∧ (∀ j, j < 3 → w.cell? ⟨g, off + i * 3 + j, none⟩ = cs[j]?) ∧ HFn w All d cs x) := hx
  obtain ⟨W1, hW1⟩ : ∃ W1, W1 = w.alloc (.cells #[.string rs, .int .i64 rn] 73) := ⟨_, rfl⟩
  have bA : Hid (Blk W1 w.heap.size #[.string rs, .int .i64 rn] 73) := by show Blk _ _ _ _; rw [hW1]; exact Blk.new
  have B1 : Hid (Below w.heap.size w W1) := by show Below _ _ _; rw [hW1]; exact (Below.refl _ _).alloc (Nat.le_refl _) _
  have HW1 : Hid (W1 = w.alloc (.cells #[.string rs, .int .i64 rn] 73)) := hW1
  clear hx hn hW1
  go_enter Tryz.func101, Tryz.ntmps101
  go_wp2_with fail
  rw [← HW1.out]
  go_loopw [9] (fun iv wr => ∃ k : Nat, k ≤ n ∧ iv = .int .i64 k ∧ Hid ((fs.take k).any (sameR ⟨rs, rn⟩) = false) ∧ Hid (SameOn All W1 wr) ∧ Below w.heap.size w wr) (fun iv _ => n - (intOf iv).toNat)
  case atStart => exact ⟨0, Nat.zero_le _, rfl, by show _ = _; simp, ⟨Nat.le_refl _, fun _ _ _ => rfl⟩, B1.out⟩
  case round =>
    obtain ⟨k, hk, rfl, hall, hso, hb⟩ := hrel
    have HB : Hid (Below w.heap.size w wr) := hb
    by_cases hlt : k < n
    · obtain ⟨x, hxk⟩ : ∃ x, fs[k]? = some x := ⟨fs[k]'(by rw [HN.out]; exact hlt), List.getElem?_eq_getElem _⟩
      obtain ⟨g, off, rfl, -, hgl, hat⟩ := HX.out (by intro h; rw [h] at hxk; simp at hxk)
      obtain ⟨cs, hcsl, hcs, r1⟩ := hat k x hxk
      obtain ⟨p1, n1, q1, rfl⟩ := fnShape r1
      obtain ⟨xs, xn, xc⟩ := x
      simp only at *
      have a0 := hcs 0 (by omega)
      have a1 := hcs 1 (by omega)
      have a2 := hcs 2 (by omega)
      rw [← hb.cell (p := ⟨g, _, none⟩) hgl] at a0 a1 a2
      simp at a0 a1 a2
      have hki : (k : Int) < (n : Int) := by omega
      have hk0 : (0 : Int) ≤ (k : Int) := by omega
      obtain ⟨W5, hW5⟩ : ∃ W5, W5 = wr.alloc (.cells #[.string xs, .int .i64 xn, .slice p1 n1 q1] 57) := ⟨_, rfl⟩
      have bF : Hid (Blk W5 wr.heap.size #[.string xs, .int .i64 xn, .slice p1 n1 q1] 57) := by show Blk _ _ _ _; rw [hW5]; exact Blk.new
      have K5 : Below wr.heap.size wr W5 := by rw [hW5]; exact (Below.refl _ _).alloc (Nat.le_refl _) _
      have B5 : Hid (Below w.heap.size w W5) := hb.trans (K5.mono hb.size)
      have S5 : Hid (SameOn All W1 W5) := hso.out.trans (SameOn.of_below K5)
      have HW5 : Hid (W5 = wr.alloc (.cells #[.string xs, .int .i64 xn, .slice p1 n1 q1] 57)) := hW5
      have bR := bA.out.same_on S5.out
      have y0 := bR.cell 0 _ rfl
      have y1 := bR.cell 1 _ rfl
      have z0 := bF.out.cell 0 _ rfl
      have z1 := bF.out.cell 1 _ rfl
      have z2 := bF.out.cell 2 _ rfl
      have l1 := bR.lt
      have l2 := bF.out.lt
      have qy0 : ∀ m : Wd (fun w' => SameOn All W5 w' ∧ Below w.heap.size w w'), m.val.cell? ⟨w.heap.size, 0, none⟩ = some (.string rs) := fun m => (World.cell?_of_block (m.ok.1.2 w.heap.size trivial l1)).trans y0
      have qy1 : ∀ m : Wd (fun w' => SameOn All W5 w' ∧ Below w.heap.size w w'), m.val.cell? ⟨w.heap.size, 1, none⟩ = some (.int .i64 rn) := fun m => (World.cell?_of_block (m.ok.1.2 w.heap.size trivial l1)).trans y1
      have qz0 : ∀ m : Wd (fun w' => SameOn All W5 w' ∧ Below w.heap.size w w'), m.val.cell? ⟨wr.heap.size, 0, none⟩ = some (.string xs) := fun m => (World.cell?_of_block (m.ok.1.2 wr.heap.size trivial l2)).trans z0
      have qz1 : ∀ m : Wd (fun w' => SameOn All W5 w' ∧ Below w.heap.size w w'), m.val.cell? ⟨wr.heap.size, 1, none⟩ = some (.int .i64 xn) := fun m => (World.cell?_of_block (m.ok.1.2 wr.heap.size trivial l2)).trans z1
      have qz2 : ∀ m : Wd (fun w' => SameOn All W5 w' ∧ Below w.heap.size w w'), m.val.cell? ⟨wr.heap.size, 2, none⟩ = some (.slice p1 n1 q1) := fun m => (World.cell?_of_block (m.ok.1.2 wr.heap.size trivial l2)).trans z2
      clear hb hcs hat hcsl r1 hW5 K5 y0 y1 z0 z1 z2 l1 l2 bR
      go_wp2_with fail
      rw [← HW5.out]
      have e1 := refG
      have e2 := refE
      have hCne : Nonempty (Wd (fun w' => SameOn All W5 w' ∧ Below w.heap.size w w')) := ⟨⟨W5.drew, ⟨⟨Nat.le_refl _, fun _ _ _ => rfl⟩, B5.out.drew⟩⟩⟩
      refine wp_region_class (fun w' => SameOn All W5 w' ∧ Below w.heap.size w w') (by kernel_rfl) (by kernel_rfl) ⟨⟨Nat.le_refl _, fun _ _ _ => rfl⟩, B5.out.drew⟩ ?_
      repeat (go_big_quiet_step (first | (rename_i m; go_at_call 58; refine (refOf_any _ _ _ _ _ _).mono ?_; rintro e w1 ⟨rfl, hb1⟩; exact ⟨rfl, ⟨⟨w1, ⟨(SameOn.trans m.ok.1 (SameOn.of_below hb1)), m.ok.2.trans (hb1.mono m.ok.2.size)⟩⟩, rfl⟩⟩)))
      refine wpQuiet_nil ?_
      rintro _ ⟨mq, rfl⟩
      have HB4 : Hid (Below w.heap.size w mq.val) := mq.ok.2
      have HS4 : Hid (SameOn All W1 mq.val) := S5.out.trans mq.ok.1
      generalize mq.val = w4 at HB4 HS4 ⊢
      generalize hcv : (xs.toList == rs.toList && xn == rn) = cv
      have HC2 : Hid (cv = false → (fs.take (k + 1)).any (sameR ⟨rs, rn⟩) = false) := fun h => anyT_succ _ fs k _ hxk hall.out (show (xs.toList == rs.toList && xn == rn) = false from hcv.trans h)
      have HC3 : Hid (cv = true → fs.any (sameR ⟨rs, rn⟩) = true) := fun h => anyT_at _ fs k _ hxk (show (xs.toList == rs.toList && xn == rn) = true from hcv.trans h)
      clear hcv
      cases cv with
      | false =>
        have HT' : Hid _ := HC2.out rfl
        clear HC2 HC3
        go_wp2_with fail
        exact ⟨⟨k + 1, by omega, by go_num, HT'.out, HS4.out, HB4.out⟩, by simp [intOf]; omega⟩
      | true =>
        have HF : Hid _ := HC3.out rfl
        clear HC2 HC3
        go_wp2_with fail
        go_ret
        exact ⟨by rw [HF.out]; rfl, HB4.out⟩
    · have HD : Hid (fs.any (sameR ⟨rs, rn⟩) = false) := by
        have := hall.out
        rwa [List.take_of_length_le (by rw [HN.out]; omega)] at this
      clear hb
      go_wp2_with fail
      go_ret
      exact ⟨by rw [HD.out]; rfl, HB.out⟩
end Go.Proofs.YtihffcphbcepoaaGreatDoor
/-
  The program's ModuleOk, by contract: functions, exports, modules.
-/
namespace Go.Proofs.YtihffcphbcepoaaGreatDoor
open Go.ChangeShapes Go.WideShapes Go.ChangeAt Go.RowKit
set_option linter.unusedVariables false

def rfsAt (es : List Rf) (k : Nat) : Bool :=
  match es[k]? with
  | none => true
  | some r => refB r && (match k with
    | 0 => true
    | j + 1 => match es[j]? with
      | none => true
      | some q => lessB q r)
def rfsB (es : List Rf) : Bool := (List.range es.length).all (rfsAt es)
def fnB (d : Nat) (f : Fn') : Bool := refB ⟨f.name, f.arity⟩ && (inB f.clauses.length 1 20 && f.clauses.all (fun c => clB (fun y q => exOk d y q 40) c f.arity))
def fnsAt (d : Nat) (fs : List Fn') (k : Nat) : Bool :=
  match fs[k]? with
  | none => true
  | some f => fnB d f && !(fs.take k).any (sameR ⟨f.name, f.arity⟩)
def fnsB (d : Nat) (fs : List Fn') : Bool := (List.range fs.length).all (fnsAt d fs)
/-- Whether a module is right. -/
def mdOk (d : Nat) (m : Md) : Bool := atomB m.name && ((decide (m.exports.length ≤ 20) && rfsB m.exports) && (inB m.funs.length 1 30 && fnsB d m.funs))

theorem rangeT_succ (f : Nat → Bool) (k : Nat) (h : (List.range k).all f = true) (hk : f k = true) : (List.range (k + 1)).all f = true := by
  rw [List.range_succ, List.all_append, h]; simp [hk]
theorem rangeT_at (f : Nat → Bool) (n k : Nat) (hk : k < n) (h : f k = false) : (List.range n).all f = false := by
  rw [List.all_eq_false]; exact ⟨k, List.mem_range.2 hk, by simp [h]⟩
theorem rfsAt_zero {es : List Rf} {k : Nat} {r : Rf} (hk : k = 0) (h : es[k]? = some r) : rfsAt es k = refB r := by
  subst hk; simp [rfsAt, h]
theorem rfsAt_succ {es : List Rf} {k : Nat} {q r : Rf} (hk : ¬ k = 0) (hq : es[k - 1]? = some q) (hr : es[k]? = some r) : rfsAt es k = (refB r && lessB q r) := by
  obtain ⟨j, rfl⟩ : ∃ j, k = j + 1 := ⟨k - 1, by omega⟩
  simp only [Nat.add_sub_cancel] at hq
  simp [rfsAt, hr, hq]
theorem fnsAt_eq {d : Nat} {fs : List Fn'} {k : Nat} {f : Fn'} (h : fs[k]? = some f) : fnsAt d fs k = (fnB d f && !(fs.take k).any (sameR ⟨f.name, f.arity⟩)) := by
  simp [fnsAt, h]
theorem fnB_eq (d : Nat) (s : ByteArray) (n : Int) (cl : List Cl) : fnB d ⟨s, n, cl⟩ = (refB ⟨s, n⟩ && (inB cl.length 1 20 && cl.all (fun c => clB (fun y q => exOk d y q (40 - 0)) c n))) := by
  simp [fnB]
theorem rfShape {cs : List Value} {x : Rf} (h : HRf cs x) : cs = [.string x.name, .int .i64 x.arity] := h.1

set_option maxHeartbeats 8000000 in
set_option maxRecDepth 100000 in
theorem funOk_any (d : Nat) (w : World) (cs : List Value) (f : Fn') (hT : Tabs w) (h : HFn w All d cs f) :
    Calls Tryz.prog 162 #[.agg cs.toArray] w fun e w' => e = .returned (.bool (fnB d f)) ∧ Below w.heap.size w w' := by
  have HT : Hid (Tabs w) := hT
  obtain ⟨cv, rfl, hs, -, f0⟩ := h
  obtain ⟨fs, fa, cl⟩ := f
  simp only at *
  obtain ⟨p, cap, rfl, hcl, hcm, hx⟩ := f0
  have hnb : cl.length ≤ 9223372036854775807 := by unfold maxLen at hcm; omega
  rw [fnB_eq]
  generalize hn : cl.length = n at *
  have HN : Hid (cl.length = n) := hn
  have HX : Hid (cl ≠ [] → ∃ g off, p = some ⟨g, off, none⟩ ∧ All g ∧ g < w.heap.size ∧ ∀ i x, cl[i]? = some x → ∃ cs, cs.length = 2 ∧ (∀ j, j < 2 → w.cell? ⟨g, off + i * 2 + j, none⟩ = cs[j]?) ∧ HCl w All (HEx w All d) cs x) := hx
  have BL : Hid (Below w.heap.size w (w.alloc (.cells #[.string fs, .int .i64 fa, .slice p n cap] 57))) := (Below.refl _ _).alloc (Nat.le_refl _) _
  clear hx hn hT
  cases hr : refB ⟨fs, fa⟩ with
  | false =>
    go_enter Tryz.func162, Tryz.ntmps162
    go_wp2_with fail
    refine (refOf_any fs fa p n cap _).mono ?_
    rintro e w2 ⟨rfl, hb2⟩
    have B2 : Hid (Below w.heap.size w w2) := BL.out.trans (hb2.mono BL.out.size)
    have g2 : Hid (Blk w2 w.heap.size #[.string fs, .int .i64 fa, .slice p n cap] 57) := (Blk.new (w := w)).next hb2
    clear hb2
    go_wp2_with fail
    refine (refOk_any ⟨fs, fa⟩ _ hs (HT.out.below B2.out).keys).mono ?_
    rintro e w3 ⟨rfl, hb3⟩
    rw [hr]
    have B3 : Hid (Below w.heap.size w w3) := B2.out.trans (hb3.mono B2.out.size)
    have g3 : Hid (Blk w3 w.heap.size #[.string fs, .int .i64 fa, .slice p n cap] 57) := g2.out.next hb3
    clear hb3 g2
    go_wp2_with fail
    go_ret
    exact ⟨by simp, B3.out⟩
  | true =>
    cases hin : inB n 1 20 with
    | false =>
      go_enter Tryz.func162, Tryz.ntmps162
      go_wp2_with fail
      refine (refOf_any fs fa p n cap _).mono ?_
      rintro e w2 ⟨rfl, hb2⟩
      have B2 : Hid (Below w.heap.size w w2) := BL.out.trans (hb2.mono BL.out.size)
      have g2 : Hid (Blk w2 w.heap.size #[.string fs, .int .i64 fa, .slice p n cap] 57) := (Blk.new (w := w)).next hb2
      clear hb2
      go_wp2_with fail
      refine (refOk_any ⟨fs, fa⟩ _ hs (HT.out.below B2.out).keys).mono ?_
      rintro e w3 ⟨rfl, hb3⟩
      rw [hr]
      have B3 : Hid (Below w.heap.size w w3) := B2.out.trans (hb3.mono B2.out.size)
      have g3 : Hid (Blk w3 w.heap.size #[.string fs, .int .i64 fa, .slice p n cap] 57) := g2.out.next hb3
      clear hb3 g2
      have xa0 := g3.out.cell 0 _ rfl
      have xa1 := g3.out.cell 1 _ rfl
      have xa2 := g3.out.cell 2 _ rfl
      go_wp2_with (first | (go_at_call 81; go_must (refine (withinM_any _ _ _ _).mono ?_; rintro e w9 ⟨rfl, hw9⟩; rw [hin, hw9]; clear hw9 w9)))
      go_ret
      exact ⟨by simp, B3.out⟩
    | true =>
      go_enter Tryz.func162, Tryz.ntmps162
      go_wp2_with fail
      refine (refOf_any fs fa p n cap _).mono ?_
      rintro e w2 ⟨rfl, hb2⟩
      have B2 : Hid (Below w.heap.size w w2) := BL.out.trans (hb2.mono BL.out.size)
      have g2 : Hid (Blk w2 w.heap.size #[.string fs, .int .i64 fa, .slice p n cap] 57) := (Blk.new (w := w)).next hb2
      clear hb2
      go_wp2_with fail
      refine (refOk_any ⟨fs, fa⟩ _ hs (HT.out.below B2.out).keys).mono ?_
      rintro e w3 ⟨rfl, hb3⟩
      rw [hr]
      have B3 : Hid (Below w.heap.size w w3) := B2.out.trans (hb3.mono B2.out.size)
      have g3 : Hid (Blk w3 w.heap.size #[.string fs, .int .i64 fa, .slice p n cap] 57) := g2.out.next hb3
      clear hb3 g2
      have xa0 := g3.out.cell 0 _ rfl
      have xa1 := g3.out.cell 1 _ rfl
      have xa2 := g3.out.cell 2 _ rfl
      go_wp2_with (first | (go_at_call 81; go_must (refine (withinM_any _ _ _ _).mono ?_; rintro e w9 ⟨rfl, hw9⟩; rw [hin, hw9]; clear hw9 w9)))
      obtain ⟨W1, hW1⟩ : ∃ W1, W1 = w3 := ⟨_, rfl⟩
      have bA : Hid (Blk W1 w.heap.size #[.string fs, .int .i64 fa, .slice p n cap] 57) := by show Blk _ _ _ _; rw [hW1]; exact g3.out
      have B1 : Hid (Below w.heap.size w W1) := by show Below _ _ _; rw [hW1]; exact B3.out
      rw [← hW1]
      clear hW1 g3 B3 xa0 xa1 xa2
      go_loopw [19] (fun iv wr => ∃ k : Nat, k ≤ n ∧ iv = .int .i64 k ∧ Hid ((cl.take k).all (fun c => clB (fun y q => exOk d y q (40 - 0)) c fa) = true) ∧ Hid (SameOn All W1 wr) ∧ Below w.heap.size w wr) (fun iv _ => n - (intOf iv).toNat)
      case atStart => exact ⟨0, Nat.zero_le _, rfl, by show _ = _; simp, ⟨Nat.le_refl _, fun _ _ _ => rfl⟩, B1.out⟩
      case round =>
        obtain ⟨k, hk, rfl, hall, hso, hb⟩ := hrel
        have HB : Hid (Below w.heap.size w wr) := hb
        have b1 := bA.out.same_on hso.out
        have hlw := b1.lt
        have xa1 := b1.cell 1 _ rfl
        clear b1
        by_cases hlt : k < n
        · obtain ⟨x, hxk⟩ : ∃ x, cl[k]? = some x := ⟨cl[k]'(by rw [HN.out]; exact hlt), List.getElem?_eq_getElem _⟩
          obtain ⟨g, off, rfl, -, hgl, hat⟩ := HX.out (by intro h; rw [h] at hxk; simp at hxk)
          obtain ⟨cs, hcsl, hcs, r1⟩ := hat k x hxk
          obtain ⟨p1, n1, q1, p2, n2, q2, rfl⟩ := clShape r1
          have E1 : ∀ w', Below w.heap.size w w' → HCl w' All (HEx w' All d) [.slice p1 n1 q1, .slice p2 n2 q2] x := fun w' hw => r1.mono (SameOn.of_below hw) (fun _ h => h) (fun _ _ h => h.mono (SameOn.of_below hw) (fun _ h => h))
          have a0 := hcs 0 (by omega)
          have a1 := hcs 1 (by omega)
          rw [← hb.cell (p := ⟨g, _, none⟩) hgl] at a0 a1
          simp at a0 a1
          have hki : (k : Int) < (n : Int) := by omega
          have hk0 : (0 : Int) ≤ (k : Int) := by omega
          have HBA : Hid (Below w.heap.size w (wr.alloc (.cells #[.slice p1 n1 q1, .slice p2 n2 q2] 78))) := HB.out.alloc HB.out.size _
          clear hb hcs hat hcsl r1
          generalize hcv : clB (fun y q => exOk d y q (40 - 0)) x fa = cv
          have HCV : Hid (clB (fun y q => exOk d y q (40 - 0)) x fa = cv) := hcv
          have HC2 : Hid (cv = true → (cl.take (k + 1)).all (fun c => clB (fun y q => exOk d y q (40 - 0)) c fa) = true) := fun h => allT_succ _ cl k x hxk hall.out (hcv.trans h)
          have HC3 : Hid (cv = false → cl.all (fun c => clB (fun y q => exOk d y q (40 - 0)) c fa) = false) := fun h => allT_at _ cl k x hxk (hcv.trans h)
          clear hcv
          go_wp2_with fail
          refine (clause_allI d _ _ x fa 0 (HT.out.below HBA.out) (E1 _ HBA.out) (by omega) (by omega)).mono ?_
          rintro e w4 ⟨rfl, hb4⟩
          rw [HCV.out]
          have HB4 : Hid (Below w.heap.size w w4) := HBA.out.trans (hb4.mono HBA.out.size)
          have HS4 : Hid (SameOn All W1 w4) := (hso.out.trans (SameOn.of_below ((Below.refl _ _).alloc (Nat.le_refl _) _))).trans (SameOn.of_below hb4)
          clear hb4 HCV
          cases cv with
          | true =>
            have HT' : Hid _ := HC2.out rfl
            clear HC2 HC3
            go_wp2_with fail
            exact ⟨⟨k + 1, by omega, by go_num, HT'.out, HS4.out, HB4.out⟩, by simp [intOf]; omega⟩
          | false =>
            have HF : Hid (cl.all (fun c => clB (fun y q => exOk d y q (40 - 0)) c fa) = false) := HC3.out rfl
            clear HC2 HC3
            go_wp2_with fail
            go_ret
            exact ⟨by first | (rw [HF.out]; rfl) | (rw [HF.out]; simp), HB4.out⟩
        · have HD : Hid (cl.all (fun c => clB (fun y q => exOk d y q (40 - 0)) c fa) = true) := by
            have := hall.out
            rwa [List.take_of_length_le (by rw [HN.out]; omega)] at this
          clear hb
          go_wp2_with fail
          go_ret
          exact ⟨by first | (rw [HD.out]; rfl) | (rw [HD.out]; simp), HB.out⟩

set_option maxHeartbeats 8000000 in
set_option maxRecDepth 100000 in
theorem funsOk_any (d : Nat) (w : World) (v : Value) (fs : List Fn') (hT : Tabs w) (h : Rows w All 3 (HFn w All d) v fs) :
    Calls Tryz.prog 121 #[v] w fun e w' => e = .returned (.bool (inB fs.length 1 30 && fnsB d fs)) ∧ Below w.heap.size w w' := by
  have HT : Hid (Tabs w) := hT
  have HR : ∀ w', Below w.heap.size w w' → Rows w' All 3 (HFn w' All d) v fs := fun w' hw => h.mono (SameOn.of_below hw) (fun _ h => h) (fun _ _ _ h => h.mono (SameOn.of_below hw) (fun _ h => h))
  obtain ⟨p, cap, rfl, hcl, hcm, hx⟩ := h
  have hnb : fs.length ≤ 9223372036854775807 := by unfold maxLen at hcm; omega
  have hfn : fnsB d fs = (List.range fs.length).all (fnsAt d fs) := rfl
  rw [hfn]
  clear hfn
  generalize hn : fs.length = n at *
  have HN : Hid (fs.length = n) := hn
  have HX : Hid (fs ≠ [] → ∃ g off, p = some ⟨g, off, none⟩ ∧ All g ∧ g < w.heap.size ∧ ∀ i x, fs[i]? = some x → ∃ cs, cs.length = 3 ∧ (∀ j, j < 3 → w.cell? ⟨g, off + i * 3 + j, none⟩ = cs[j]?) ∧ HFn w All d cs x) := hx
  clear hx hn hT
  cases hin : inB n 1 30 with
  | false =>
    go_enter Tryz.func121, Tryz.ntmps121
    go_wp2_with (first | (go_at_call 81; go_must (refine (withinM_any _ _ _ _).mono ?_; rintro e w9 ⟨rfl, hw9⟩; rw [hin, hw9]; clear hw9 w9)))
    go_ret
    exact ⟨by simp, Below.refl _ _⟩
  | true =>
    go_enter Tryz.func121, Tryz.ntmps121
    go_wp2_with (first | (go_at_call 81; go_must (refine (withinM_any _ _ _ _).mono ?_; rintro e w9 ⟨rfl, hw9⟩; rw [hin, hw9]; clear hw9 w9)))
    go_loopw [11] (fun iv wr => ∃ k : Nat, k ≤ n ∧ iv = .int .i64 k ∧ Hid ((List.range k).all (fnsAt d fs) = true) ∧ Below w.heap.size w wr) (fun iv _ => n - (intOf iv).toNat)
    case atStart => exact ⟨0, Nat.zero_le _, rfl, by show _ = _; simp, Below.refl _ _⟩
    case round =>
      obtain ⟨k, hk, rfl, hall, hb⟩ := hrel
      have HB : Hid (Below w.heap.size w wr) := hb
      by_cases hlt : k < n
      · obtain ⟨x, hxk⟩ : ∃ x, fs[k]? = some x := ⟨fs[k]'(by rw [HN.out]; exact hlt), List.getElem?_eq_getElem _⟩
        obtain ⟨g, off, rfl, -, hgl, hat⟩ := HX.out (by intro h; rw [h] at hxk; simp at hxk)
        obtain ⟨cs, hcsl, hcs, r1⟩ := hat k x hxk
        obtain ⟨p1, n1, q1, rfl⟩ := fnShape r1
        have E1 : ∀ w', Below w.heap.size w w' → HFn w' All d [.string x.name, .int .i64 x.arity, .slice p1 n1 q1] x := fun w' hw => r1.mono (SameOn.of_below hw) (fun _ h => h)
        have HAT : Hid (fnsAt d fs k = (fnB d x && !(fs.take k).any (sameR ⟨x.name, x.arity⟩))) := fnsAt_eq hxk
        have RT : ∀ w', Below w.heap.size w w' → Rows w' All 3 (HFn w' All d) (.slice (some ⟨g, off, none⟩) k cap) (fs.take k) := fun w' hw => (HR w' hw).take k (by omega)
        generalize hca : fnB d x = ca at *
        generalize hcb : (fs.take k).any (sameR ⟨x.name, x.arity⟩) = cb at *
        have HCA : Hid (fnB d x = ca) := hca
        have HCB : Hid ((fs.take k).any (sameR ⟨x.name, x.arity⟩) = cb) := hcb
        generalize x.name = xs at *
        generalize x.arity = xn at *
        have a0 := hcs 0 (by omega)
        have a1 := hcs 1 (by omega)
        have a2 := hcs 2 (by omega)
        rw [← hb.cell (p := ⟨g, _, none⟩) hgl] at a0 a1 a2
        simp at a0 a1 a2
        have hki : (k : Int) < (n : Int) := by omega
        have hk0 : (0 : Int) ≤ (k : Int) := by omega
        have hkc : (k : Int) ≤ (cap : Int) := by omega
        obtain ⟨W5, hW5⟩ : ∃ W5, W5 = wr.alloc (.cells #[.string xs, .int .i64 xn, .slice p1 n1 q1] 57) := ⟨_, rfl⟩
        have bF : Hid (Blk W5 wr.heap.size #[.string xs, .int .i64 xn, .slice p1 n1 q1] 57) := by show Blk _ _ _ _; rw [hW5]; exact Blk.new
        have K5 : Below wr.heap.size wr W5 := by rw [hW5]; exact (Below.refl _ _).alloc (Nat.le_refl _) _
        have B5 : Hid (Below w.heap.size w W5) := hb.trans (K5.mono hb.size)
        have HW5 : Hid (W5 = wr.alloc (.cells #[.string xs, .int .i64 xn, .slice p1 n1 q1] 57)) := hW5
        have z0 := bF.out.cell 0 _ rfl
        have z1 := bF.out.cell 1 _ rfl
        have z2 := bF.out.cell 2 _ rfl
        have l2 := bF.out.lt
        have qz0 : ∀ m : Wd (fun w' => SameOn All W5 w' ∧ Below w.heap.size w w'), m.val.cell? ⟨wr.heap.size, 0, none⟩ = some (.string xs) := fun m => (World.cell?_of_block (m.ok.1.2 wr.heap.size trivial l2)).trans z0
        have qz1 : ∀ m : Wd (fun w' => SameOn All W5 w' ∧ Below w.heap.size w w'), m.val.cell? ⟨wr.heap.size, 1, none⟩ = some (.int .i64 xn) := fun m => (World.cell?_of_block (m.ok.1.2 wr.heap.size trivial l2)).trans z1
        have qz2 : ∀ m : Wd (fun w' => SameOn All W5 w' ∧ Below w.heap.size w w'), m.val.cell? ⟨wr.heap.size, 2, none⟩ = some (.slice p1 n1 q1) := fun m => (World.cell?_of_block (m.ok.1.2 wr.heap.size trivial l2)).trans z2
        clear hb hcs hat hcsl r1 hW5 K5 z0 z1 z2 l2 hca hcb
        cases ca with
        | false =>
          have HF : Hid ((List.range n).all (fnsAt d fs) = false) := rangeT_at _ n k hlt (by rw [HAT.out]; rfl)
          go_wp2_with fail
          rw [← HW5.out]
          have hCne : Nonempty (Wd (fun w' => SameOn All W5 w' ∧ Below w.heap.size w w')) := ⟨⟨W5.drew, ⟨⟨Nat.le_refl _, fun _ _ _ => rfl⟩, B5.out.drew⟩⟩⟩
          refine wp_region_class (fun w' => SameOn All W5 w' ∧ Below w.heap.size w w') (by kernel_rfl) (by kernel_rfl) ⟨⟨Nat.le_refl _, fun _ _ _ => rfl⟩, B5.out.drew⟩ ?_
          repeat (go_big_quiet_step (first | (rename_i m; go_at_call 162; refine (funOk_any d _ _ x (HT.out.below m.ok.2) (E1 _ m.ok.2)).mono ?_; rintro e w1 ⟨rfl, hb1⟩; exact ⟨by rw [HCA.out], ⟨⟨w1, ⟨(SameOn.trans m.ok.1 (SameOn.of_below hb1)), m.ok.2.trans (hb1.mono m.ok.2.size)⟩⟩, rfl⟩⟩)))
          refine wpQuiet_nil ?_
          rintro _ ⟨mq, rfl⟩
          have HB4 : Hid (Below w.heap.size w mq.val) := mq.ok.2
          have HS4 : Hid (SameOn All W5 mq.val) := mq.ok.1
          generalize mq.val = w4 at HB4 HS4 ⊢
          go_wp2_with fail
          go_ret
          exact ⟨by rw [HF.out]; rfl, HB4.out⟩
        | true =>
          have HT2 : Hid (cb = false → (List.range (k + 1)).all (fnsAt d fs) = true) := fun h => rangeT_succ _ k hall.out (by rw [HAT.out, h]; rfl)
          have HF : Hid (cb = true → (List.range n).all (fnsAt d fs) = false) := fun h => rangeT_at _ n k hlt (by rw [HAT.out, h]; rfl)
          go_wp2_with fail
          rw [← HW5.out]
          have hCne : Nonempty (Wd (fun w' => SameOn All W5 w' ∧ Below w.heap.size w w')) := ⟨⟨W5.drew, ⟨⟨Nat.le_refl _, fun _ _ _ => rfl⟩, B5.out.drew⟩⟩⟩
          refine wp_region_class (fun w' => SameOn All W5 w' ∧ Below w.heap.size w w') (by kernel_rfl) (by kernel_rfl) ⟨⟨Nat.le_refl _, fun _ _ _ => rfl⟩, B5.out.drew⟩ ?_
          repeat (go_big_quiet_step (first | (rename_i m; go_at_call 162; refine (funOk_any d _ _ x (HT.out.below m.ok.2) (E1 _ m.ok.2)).mono ?_; rintro e w1 ⟨rfl, hb1⟩; exact ⟨by rw [HCA.out], ⟨⟨w1, ⟨(SameOn.trans m.ok.1 (SameOn.of_below hb1)), m.ok.2.trans (hb1.mono m.ok.2.size)⟩⟩, rfl⟩⟩) | (rename_i m; go_at_call 58; refine (refOf_any _ _ _ _ _ _).mono ?_; rintro e w1 ⟨rfl, hb1⟩; exact ⟨rfl, ⟨⟨w1, ⟨(SameOn.trans m.ok.1 (SameOn.of_below hb1)), m.ok.2.trans (hb1.mono m.ok.2.size)⟩⟩, rfl⟩⟩) | (rename_i m; go_at_call 101; refine (hasFun_any d _ _ (fs.take k) ⟨xs, xn⟩ (RT _ m.ok.2)).mono ?_; rintro e w1 ⟨rfl, hb1⟩; exact ⟨by rw [HCB.out], ⟨⟨w1, ⟨(SameOn.trans m.ok.1 (SameOn.of_below hb1)), m.ok.2.trans (hb1.mono m.ok.2.size)⟩⟩, rfl⟩⟩)))
          refine wpQuiet_nil ?_
          rintro _ ⟨mq, rfl⟩
          have HB4 : Hid (Below w.heap.size w mq.val) := mq.ok.2
          have HS4 : Hid (SameOn All W5 mq.val) := mq.ok.1
          generalize mq.val = w4 at HB4 HS4 ⊢
          cases cb with
          | false =>
            have HT' : Hid _ := HT2.out rfl
            clear HT2 HF
            go_wp2_with fail
            exact ⟨⟨k + 1, by omega, by go_num, HT'.out, HB4.out⟩, by simp [intOf]; omega⟩
          | true =>
            have HF' : Hid _ := HF.out rfl
            clear HT2 HF
            go_wp2_with fail
            go_ret
            exact ⟨by rw [HF'.out]; rfl, HB4.out⟩
      · have HD : Hid ((List.range n).all (fnsAt d fs) = true) := by
          obtain rfl : k = n := by omega
          exact hall.out
        clear hb
        go_wp2_with fail
        go_ret
        exact ⟨by rw [HD.out]; rfl, HB.out⟩

end Go.Proofs.YtihffcphbcepoaaGreatDoor
