/-
  Texts of the proof, packed: Chars, Names, FirstN, VarOk, Tree, Gen.
-/
import Derived.Test.YtoknolophmhlgaaGreatDoorRows
import Derived.WalkKit
import Derived.ProofKit
import Derived.OpenShut
import Derived.WalkSpells
import Derived.Lib.LaidTab
import Derived.Below
import Derived.Deep.QuietTactic
import Derived.BigQuiet
import Derived.Test.YtoknolophmhlgaaGreatDoorProg
import Derived.Deep.RegionWith
import Derived.Deep.RegionHeld3
import Derived.WalkSmall
import Derived.Deep.DeepMust
import Derived.Laws.MakeOwn
/-
  What the small tests of bytes answer: those of the program (isSmall, isGreat, isDigit, isNamePart) and those of the specification (l01In, l01Small, l01Great, l01Digit, l01Sign). No conditions but that a byte is one.
-/
namespace Go.Proofs.YtoknolophmhlgaaGreatDoor
open Go.ChangeShapes Go.WideShapes Go.ChangeAt Go.RowKit
set_option linter.unusedVariables false

def inB (x a b : Int) : Bool := decide (a ≤ x ∧ x ≤ b)
def signB (n : Int) : Bool := inB n 97 122 || inB n 65 90 || inB n 48 57 || n == 95

theorem ret_bool {a b : Bool} (h : a = b) : Ending.returned (.bool a) = .returned (.bool b) := by rw [h]

theorem l01In_any (x a b : Int) (w : World) :
    Calls Tryz.prog 30 #[.int .i64 x, .int .i64 a, .int .i64 b] w fun e w' => e = .returned (.bool (inB x a b)) ∧ w' = w := by
  by_cases h1 : a ≤ x <;> by_cases h2 : x ≤ b
  all_goals
    go_enter Tryz.func30, Tryz.ntmps30
    go_wp2
    go_ret
    exact ⟨ret_bool (by simp [inB, h1, h2]), rfl⟩

theorem l01Small_any (n : Int) (w : World) (h0 : 0 ≤ n) (h1 : n < 256) :
    Calls Tryz.prog 71 #[.int .u8 n] w fun e w' => e = .returned (.bool (inB n 97 122)) ∧ w' = w := by
  go_enter Tryz.func71, Tryz.ntmps71
  go_wp2_with (go_at_call 30; go_must (refine (l01In_any _ _ _ _).mono ?_; rintro e w' ⟨rfl, rfl⟩))
  go_ret
  exact ⟨rfl, rfl⟩

theorem l01Great_any (n : Int) (w : World) (h0 : 0 ≤ n) (h1 : n < 256) :
    Calls Tryz.prog 103 #[.int .u8 n] w fun e w' => e = .returned (.bool (inB n 65 90)) ∧ w' = w := by
  go_enter Tryz.func103, Tryz.ntmps103
  go_wp2_with (go_at_call 30; go_must (refine (l01In_any _ _ _ _).mono ?_; rintro e w' ⟨rfl, rfl⟩))
  go_ret
  exact ⟨rfl, rfl⟩

theorem l01Digit_any (n : Int) (w : World) (h0 : 0 ≤ n) (h1 : n < 256) :
    Calls Tryz.prog 104 #[.int .u8 n] w fun e w' => e = .returned (.bool (inB n 48 57)) ∧ w' = w := by
  go_enter Tryz.func104, Tryz.ntmps104
  go_wp2_with (go_at_call 30; go_must (refine (l01In_any _ _ _ _).mono ?_; rintro e w' ⟨rfl, rfl⟩))
  go_ret
  exact ⟨rfl, rfl⟩

theorem isSmall_any (n : Int) (w : World) (h0 : 0 ≤ n) (h1 : n < 256) :
    Calls Tryz.prog 76 #[.int .u8 n] w fun e w' => e = .returned (.bool (inB n 97 122)) ∧ w' = w := by
  by_cases h1 : 97 ≤ n <;> by_cases h2 : n ≤ 122
  all_goals
    go_enter Tryz.func76, Tryz.ntmps76
    go_wp2
    go_ret
    exact ⟨ret_bool (by simp [inB, h1, h2]), rfl⟩

theorem isGreat_any (n : Int) (w : World) (h0 : 0 ≤ n) (h1 : n < 256) :
    Calls Tryz.prog 107 #[.int .u8 n] w fun e w' => e = .returned (.bool (inB n 65 90)) ∧ w' = w := by
  by_cases h1 : 65 ≤ n <;> by_cases h2 : n ≤ 90
  all_goals
    go_enter Tryz.func107, Tryz.ntmps107
    go_wp2
    go_ret
    exact ⟨ret_bool (by simp [inB, h1, h2]), rfl⟩

theorem isDigit_any (n : Int) (w : World) (h0 : 0 ≤ n) (h1 : n < 256) :
    Calls Tryz.prog 108 #[.int .u8 n] w fun e w' => e = .returned (.bool (inB n 48 57)) ∧ w' = w := by
  by_cases h1 : 48 ≤ n <;> by_cases h2 : n ≤ 57
  all_goals
    go_enter Tryz.func108, Tryz.ntmps108
    go_wp2
    go_ret
    exact ⟨ret_bool (by simp [inB, h1, h2]), rfl⟩

theorem l01Sign_any (n : Int) (w : World) (h0 : 0 ≤ n) (h1 : n < 256) :
    Calls Tryz.prog 88 #[.int .u8 n] w fun e w' => e = .returned (.bool (signB n)) ∧ w' = w := by
  have hb1 : inB n 97 122 = true ∨ inB n 97 122 = false := by cases inB n 97 122 <;> simp
  have hb2 : inB n 65 90 = true ∨ inB n 65 90 = false := by cases inB n 65 90 <;> simp
  have hb3 : inB n 48 57 = true ∨ inB n 48 57 = false := by cases inB n 48 57 <;> simp
  rcases hb1 with hb1 | hb1 <;> rcases hb2 with hb2 | hb2 <;> rcases hb3 with hb3 | hb3
  all_goals
    go_enter Tryz.func88, Tryz.ntmps88
    go_wp2_with (first
      | (go_at_call 71; go_must (refine (l01Small_any _ _ h0 h1).mono ?_; rintro e w' ⟨rfl, rfl⟩))
      | (go_at_call 103; go_must (refine (l01Great_any _ _ h0 h1).mono ?_; rintro e w' ⟨rfl, rfl⟩))
      | (go_at_call 104; go_must (refine (l01Digit_any _ _ h0 h1).mono ?_; rintro e w' ⟨rfl, rfl⟩)))
    go_ret
    exact ⟨ret_bool (by simp [signB, hb1, hb2, hb3]), rfl⟩

theorem isNamePart_any (n : Int) (w : World) (h0 : 0 ≤ n) (h1 : n < 256) :
    Calls Tryz.prog 92 #[.int .u8 n] w fun e w' => e = .returned (.bool (signB n)) ∧ w' = w := by
  have hb1 : inB n 97 122 = true ∨ inB n 97 122 = false := by cases inB n 97 122 <;> simp
  have hb2 : inB n 65 90 = true ∨ inB n 65 90 = false := by cases inB n 65 90 <;> simp
  have hb3 : inB n 48 57 = true ∨ inB n 48 57 = false := by cases inB n 48 57 <;> simp
  rcases hb1 with hb1 | hb1 <;> rcases hb2 with hb2 | hb2 <;> rcases hb3 with hb3 | hb3
  all_goals
    go_enter Tryz.func92, Tryz.ntmps92
    go_wp2_with (first
      | (go_at_call 76; go_must (refine (isSmall_any _ _ h0 h1).mono ?_; rintro e w' ⟨rfl, rfl⟩))
      | (go_at_call 107; go_must (refine (isGreat_any _ _ h0 h1).mono ?_; rintro e w' ⟨rfl, rfl⟩))
      | (go_at_call 108; go_must (refine (isDigit_any _ _ h0 h1).mono ?_; rintro e w' ⟨rfl, rfl⟩)))
    go_ret
    exact ⟨ret_bool (by simp [signB, hb1, hb2, hb3]), rfl⟩
end Go.Proofs.YtoknolophmhlgaaGreatDoor
/-
  What l01Name (specification) and nameOk, madeOf (program) answer: whether a text is 1 to 10 signs of names. Condition: the text is no longer than any text may be.
-/
namespace Go.Proofs.YtoknolophmhlgaaGreatDoor
open Go.ChangeShapes Go.WideShapes Go.ChangeAt Go.RowKit
set_option linter.unusedVariables false

def allB (l : List UInt8) : Bool := l.all fun c => signB (c.toNat : Int)
def nameB (s : ByteArray) : Bool := allB s.data.toList && decide (1 ≤ s.size ∧ s.size ≤ 10)

theorem take_snoc (s : ByteArray) (k : Nat) (h : k < s.size) : s.data.toList.take (k + 1) = s.data.toList.take k ++ [s[k]] := by
  rw [List.take_succ_eq_append_getElem (by simpa using h)]; rfl
theorem allB_snoc (s : ByteArray) (k : Nat) (h : k < s.size) (ha : allB (s.data.toList.take k) = true) (hs : signB (s[k].toNat : Int) = true) :
    allB (s.data.toList.take (k + 1)) = true := by
  rw [take_snoc s k h]; unfold allB at *; rw [List.all_append, ha]; simp [hs]
theorem allB_no (s : ByteArray) (k : Nat) (h : k < s.size) (hs : signB (s[k].toNat : Int) = false) :
    allB s.data.toList = false := by
  unfold allB
  rw [List.all_eq_false]
  refine ⟨s[k], ?_, by simp [hs]⟩
  exact List.getElem_mem (by simpa using h)
theorem allB_all (s : ByteArray) (k : Nat) (h : s.size ≤ k) (ha : allB (s.data.toList.take k) = true) : allB s.data.toList = true := by
  rwa [List.take_of_length_le (by simpa using h)] at ha

theorem byte_lt (s : ByteArray) (k : Nat) (h : k < s.size) : 0 ≤ ((s[k].toNat : Nat) : Int) ∧ ((s[k].toNat : Nat) : Int) < 256 := by
  have := s[k].toNat_lt; omega

theorem inB_size (n : Nat) : inB (n : Int) 1 10 = decide (1 ≤ n ∧ n ≤ 10) := by
  unfold inB; rw [decide_eq_decide]; omega
theorem nameB_none (s : ByteArray) (h : ¬ 1 ≤ s.size ∨ ¬ s.size ≤ 10) : nameB s = false := by
  unfold nameB; rw [decide_eq_false (by omega), Bool.and_false]
theorem nameB_some (s : ByteArray) (h1 : 1 ≤ s.size) (h2 : s.size ≤ 10) : nameB s = allB s.data.toList := by
  unfold nameB; rw [decide_eq_true ⟨h1, h2⟩, Bool.and_true]

set_option maxHeartbeats 400000 in
theorem l01Name_any (s : ByteArray) (w : World) (hs : s.size ≤ maxLen) :
    Calls Tryz.prog 70 #[.string s] w fun e w' => e = .returned (.bool (nameB s)) ∧ w' = w := by
  unfold maxLen at hs
  go_enter Tryz.func70, Tryz.ntmps70
  go_wp2
  go_loop [3] (fun i => ∃ k : Nat, k ≤ s.size ∧ i = .int .i64 k ∧ allB (s.data.toList.take k) = true) (fun i => s.size - (intOf i).toNat)
  case atStart => exact ⟨0, Nat.zero_le _, rfl, rfl⟩
  case round =>
    obtain ⟨k, hk, rfl, ha⟩ := hrel
    by_cases hlt : k < s.size
    · have hb := byte_lt s k hlt
      have HA : Hid (allB (s.data.toList.take k) = true) := ha
      clear ha
      have hc : signB (s[k].toNat : Int) = true ∨ signB (s[k].toNat : Int) = false := by cases signB (s[k].toNat : Int) <;> simp
      rcases hc with hc | hc
      · go_wp2_with (go_at_call 88; go_must (refine (l01Sign_any _ _ hb.1 hb.2).mono ?_; rintro e w' ⟨rfl, rfl⟩))
        go_round
        case rel => exact ⟨k + 1, by omega, by go_num, allB_snoc s k hlt HA.out hc⟩
        case measure => simp [intOf]; omega
      · go_wp2_with (go_at_call 88; go_must (refine (l01Sign_any _ _ hb.1 hb.2).mono ?_; rintro e w' ⟨rfl, rfl⟩))
        go_ret
        exact ⟨ret_bool (by simp [nameB, allB_no s k hlt hc]), rfl⟩
    · have hall := allB_all s k (by omega) ha
      have HA : Hid (allB s.data.toList = true) := hall
      clear ha hall
      go_wp2_with (go_at_call 30; go_must (refine (l01In_any _ _ _ _).mono ?_; rintro e w' ⟨rfl, rfl⟩))
      go_ret
      exact ⟨ret_bool (by rw [nameB, HA.out, Bool.true_and, inB_size]), rfl⟩

/-- 'madeOf' of isNamePart. -/
theorem madeOf_name (s : ByteArray) (w : World) (hs : s.size ≤ maxLen) :
    Calls Tryz.prog 91 #[.string s, .func (.func 92) #[] #[]] w fun e w' => e = .returned (.bool (allB s.data.toList)) ∧ w' = w := by
  unfold maxLen at hs
  go_enter Tryz.func91, Tryz.ntmps91
  go_wp2
  go_loop [8] (fun i => ∃ k : Nat, k ≤ s.size ∧ i = .int .i64 k ∧ allB (s.data.toList.take k) = true) (fun i => s.size - (intOf i).toNat)
  case atStart => exact ⟨0, Nat.zero_le _, rfl, rfl⟩
  case round =>
    obtain ⟨k, hk, rfl, ha⟩ := hrel
    by_cases hlt : k < s.size
    · have hb := byte_lt s k hlt
      have HA : Hid (allB (s.data.toList.take k) = true) := ha
      clear ha
      have hc : signB (s[k].toNat : Int) = true ∨ signB (s[k].toNat : Int) = false := by cases signB (s[k].toNat : Int) <;> simp
      rcases hc with hc | hc
      · go_wp2_with (go_at_call 92; go_must (refine (isNamePart_any _ _ hb.1 hb.2).mono ?_; rintro e w' ⟨rfl, rfl⟩))
        go_round
        case rel => exact ⟨k + 1, by omega, by go_num, allB_snoc s k hlt HA.out hc⟩
        case measure => simp [intOf]; omega
      · go_wp2_with (go_at_call 92; go_must (refine (isNamePart_any _ _ hb.1 hb.2).mono ?_; rintro e w' ⟨rfl, rfl⟩))
        go_ret
        exact ⟨ret_bool (by rw [allB_no s k hlt hc]), rfl⟩
    · have hall := allB_all s k (by omega) ha
      have HA : Hid (allB s.data.toList = true) := hall
      clear ha hall
      go_wp2
      go_ret
      exact ⟨ret_bool (by rw [HA.out]), rfl⟩

theorem nameOk_any (s : ByteArray) (w : World) (hs : s.size ≤ maxLen) :
    Calls Tryz.prog 75 #[.string s] w fun e w' => e = .returned (.bool (nameB s)) ∧ w' = w := by
  have hs' := hs
  unfold maxLen at hs
  by_cases h1 : 1 ≤ s.size
  · by_cases h2 : s.size ≤ 10
    · go_enter Tryz.func75, Tryz.ntmps75
      go_wp2_with (go_at_call 91; go_must (refine (madeOf_name _ _ hs').mono ?_; rintro e w' ⟨rfl, rfl⟩))
      go_ret
      exact ⟨ret_bool (nameB_some s h1 h2).symm, rfl⟩
    · go_enter Tryz.func75, Tryz.ntmps75
      go_wp2
      go_ret
      exact ⟨ret_bool (nameB_none s (.inr h2)).symm, rfl⟩
  · go_enter Tryz.func75, Tryz.ntmps75
    go_wp2
    go_ret
    exact ⟨ret_bool (nameB_none s (.inl h1)).symm, rfl⟩
end Go.Proofs.YtoknolophmhlgaaGreatDoor
/-
  A name by its first byte.
-/
namespace Go.Proofs.YtoknolophmhlgaaGreatDoor
open Go.ChangeShapes Go.WideShapes Go.ChangeAt Go.RowKit
set_option linter.unusedVariables false

def firstN (s : ByteArray) : Int := ((s.data.toList.headD 0).toNat : Int)
def varB (s : ByteArray) : Bool := nameB s && inB (firstN s) 65 90
theorem nameB_size (s : ByteArray) (h : nameB s = true) : 0 < s.size := by
  unfold nameB at h
  rw [Bool.and_eq_true] at h
  have := of_decide_eq_true h.2
  omega
theorem first_eq (s : ByteArray) (h : 0 < s.size) : (s[0].toNat : Int) = firstN s := by
  have e : s.data.toList.headD 0 = s[0] := by
    have h' : 0 < s.data.toList.length := by simpa using h
    rw [List.headD_eq_head?_getD, List.head?_eq_getElem?, List.getElem?_eq_getElem h']
    rfl
  rw [firstN, e]
end Go.Proofs.YtoknolophmhlgaaGreatDoor
/-
  What VarOk answers, of the program and of the specification. Condition: the text is no longer than any text may be.
-/
namespace Go.Proofs.YtoknolophmhlgaaGreatDoor
open Go.ChangeShapes Go.WideShapes Go.ChangeAt Go.RowKit
set_option linter.unusedVariables false

theorem specVarOk_any (s : ByteArray) (w : World) (hs : s.size ≤ maxLen) :
    Calls Tryz.prog 105 #[.string s] w fun e w' => e = .returned (.bool (varB s)) ∧ w' = w := by
  have hs' := hs
  unfold maxLen at hs
  have hn : nameB s = true ∨ nameB s = false := by cases nameB s <;> simp
  rcases hn with hn | hn
  · have hz := nameB_size s hn
    have hb := byte_lt s 0 hz
    have hf := first_eq s hz
    have HF : Hid ((s[0].toNat : Int) = firstN s) := hf
    clear hf
    go_enter Tryz.func105, Tryz.ntmps105
    go_wp2_with (first
      | (go_at_call 70; go_must (refine (l01Name_any _ _ hs').mono ?_; rintro e w' ⟨rfl, rfl⟩))
      | (go_at_call 103; go_must (refine (l01Great_any _ _ hb.1 hb.2).mono ?_; rintro e w' ⟨rfl, rfl⟩)))
    go_ret
    exact ⟨ret_bool (by rw [varB, hn, HF.out, Bool.true_and]), rfl⟩
  · go_enter Tryz.func105, Tryz.ntmps105
    go_wp2_with (go_at_call 70; go_must (refine (l01Name_any _ _ hs').mono ?_; rintro e w' ⟨rfl, rfl⟩))
    go_ret
    exact ⟨ret_bool (by rw [varB, hn, Bool.false_and]), rfl⟩

theorem implVarOk_any (s : ByteArray) (w : World) (hs : s.size ≤ maxLen) :
    Calls Tryz.prog 144 #[.string s] w fun e w' => e = .returned (.bool (varB s)) ∧ w' = w := by
  have hs' := hs
  unfold maxLen at hs
  have hn : nameB s = true ∨ nameB s = false := by cases nameB s <;> simp
  rcases hn with hn | hn
  · have hz := nameB_size s hn
    have hb := byte_lt s 0 hz
    have hf := first_eq s hz
    have HF : Hid ((s[0].toNat : Int) = firstN s) := hf
    clear hf
    go_enter Tryz.func144, Tryz.ntmps144
    go_wp2_with (first
      | (go_at_call 75; go_must (refine (nameOk_any _ _ hs').mono ?_; rintro e w' ⟨rfl, rfl⟩))
      | (go_at_call 107; go_must (refine (isGreat_any _ _ hb.1 hb.2).mono ?_; rintro e w' ⟨rfl, rfl⟩)))
    go_ret
    exact ⟨ret_bool (by rw [varB, hn, HF.out, Bool.true_and]), rfl⟩
  · go_enter Tryz.func144, Tryz.ntmps144
    go_wp2_with (go_at_call 75; go_must (refine (nameOk_any _ _ hs').mono ?_; rintro e w' ⟨rfl, rfl⟩))
    go_ret
    exact ⟨ret_bool (by rw [varB, hn, Bool.false_and]), rfl⟩
end Go.Proofs.YtoknolophmhlgaaGreatDoor
/-
  Data that lies in memory as trees of rows: slices of structs whose fields are numbers, texts and slices again. What lies so is read by its tree; it stays where the blocks that it lies in stay; and whatever the statement's reader reads of such a type is such a tree.
-/
namespace Go.Proofs.YtoknolophmhlgaaGreatDoor
open Go.ChangeShapes Go.WideShapes Go.ChangeAt Go.RowKit
set_option linter.unusedVariables false

/-- Whatever lies in blocks of S lies in w' as it does in w. -/
def SameOn (S : Nat → Prop) (w w' : World) : Prop := w.heap.size ≤ w'.heap.size ∧ ∀ g, S g → g < w.heap.size → w'.heap[g]? = w.heap[g]?

theorem SameOn.of_below {S : Nat → Prop} {w w' : World} (h : Below w.heap.size w w') : SameOn S w w' := ⟨h.size, fun g _ hg => h.block g hg⟩
theorem SameOn.of_low {N : Nat} {w w' : World} (h : Below N w w') : SameOn (fun g => g < N) w w' := ⟨h.size, fun g hg _ => h.block g hg⟩
theorem SameOn.trans {S : Nat → Prop} {a b c : World} (h : SameOn S a b) (k : SameOn S b c) : SameOn S a c :=
  ⟨Nat.le_trans h.1 k.1, fun g hs hg => (k.2 g hs (Nat.lt_of_lt_of_le hg h.1)).trans (h.2 g hs hg)⟩
theorem SameOn.drew {S : Nat → Prop} {a b : World} (h : SameOn S a b) : SameOn S a b.drew := h
theorem SameOn.sub {S S' : Nat → Prop} {a b : World} (h : SameOn S a b) (hs : ∀ g, S' g → S g) : SameOn S' a b := ⟨h.1, fun g hg => h.2 g (hs g hg)⟩

/-- Every block. -/
def All (_ : Nat) : Prop := True

theorem alloc_hs (w : World) (o : Obj) : (w.alloc o).heap.size = w.heap.size + 1 := by simp

theorem cell_new (w : World) (cs : Array Value) (t : TypeId) (j : Nat) (v : Value) (h : cs[j]? = some v) : (w.alloc (.cells cs t)).cell? ⟨w.heap.size, j, none⟩ = some v := by
  have e : (w.alloc (.cells cs t)).heap[w.heap.size]? = some (.cells cs t) := by
    show (w.heap.push _)[w.heap.size]? = _
    simp
  unfold World.cell?; rw [e]; simpa using h

/-- A world of a class. -/
structure Wd (C : World → Prop) where
  val : World
  ok : C val

/-- A region that draws its order, all of whose operations yield the same in every world of a class and lead to one of it: one walk, in the order of the text. -/
theorem wp_region_class {P : Program} (C : World → Prop) {id : Nat} {Q : Exit → Act → World → Prop} {a : Act} {w : World} {l : List Oper} (hm : P.follows .mixedOrders = true) (hB : Region.lexB .any l.toArray = true)
    (hC : C w.drew) (h : wpQuiet P l.toArray (fun w' => ∃ m : Wd C, w' = m.val) (fun a' => ∀ w', (∃ m : Wd C, w' = m.val) → Q .normal a' w') l a) : (Code.region id l.toArray true).wp P Q a w :=
  wp_region_quiet (C := fun w' => ∃ m : Wd C, w' = m.val) hm hB ⟨⟨_, hC⟩, rfl⟩ (by simpa using h)

/-- v is a slice; its elements, of c cells each, are R's xs; its block is one of S. -/
def Rows {α : Type} (w : World) (S : Nat → Prop) (c : Nat) (R : List Value → α → Prop) (v : Value) (xs : List α) : Prop :=
  ∃ p cap, v = .slice p xs.length cap ∧ xs.length ≤ cap ∧ cap ≤ maxLen ∧
    (xs ≠ [] → ∃ g off, p = some ⟨g, off, none⟩ ∧ S g ∧ g < w.heap.size ∧ ∀ i x, xs[i]? = some x → ∃ cs, cs.length = c ∧ (∀ j, j < c → w.cell? ⟨g, off + i * c + j, none⟩ = cs[j]?) ∧ R cs x)

theorem Rows.mono {α : Type} {w w' : World} {S S' : Nat → Prop} {c : Nat} {R R' : List Value → α → Prop} {v : Value} {xs : List α} (h : Rows w S c R v xs)
    (hs : SameOn S w w') (hS : ∀ g, S g → S' g) (hR : ∀ cs x, x ∈ xs → R cs x → R' cs x) : Rows w' S' c R' v xs := by
  obtain ⟨p, cap, hv, h1, h2, h3⟩ := h
  refine ⟨p, cap, hv, h1, h2, fun hne => ?_⟩
  obtain ⟨g, off, hp, hg, hlt, hx⟩ := h3 hne
  refine ⟨g, off, hp, hS g hg, Nat.lt_of_lt_of_le hlt hs.1, fun i x hi => ?_⟩
  obtain ⟨cs, hl, hc, hr⟩ := hx i x hi
  exact ⟨cs, hl, fun j hj => (World.cell?_of_block (hs.2 g hg hlt)).trans (hc j hj), hR cs x (List.mem_of_getElem? hi) hr⟩

theorem Rows.nil {α : Type} {w : World} {S : Nat → Prop} {c : Nat} {R : List Value → α → Prop} {p : Option Addr} {cap : Nat} (hc : cap ≤ maxLen) : Rows w S c R (.slice p 0 cap) [] :=
  ⟨p, cap, rfl, Nat.zero_le _, hc, fun h => absurd rfl h⟩

/-- An expression, as the document's chapter 2 has it; a clause: its patterns and its body. -/
inductive Ex where
  | mk (kind n : Int) (text mod : ByteArray) (kids : List Ex) (clauses : List (List Ex × List Ex))
abbrev Cl := List Ex × List Ex
def Ex.kind : Ex → Int | .mk k _ _ _ _ _ => k
def Ex.n : Ex → Int | .mk _ n _ _ _ _ => n
def Ex.text : Ex → ByteArray | .mk _ _ t _ _ _ => t
def Ex.mod : Ex → ByteArray | .mk _ _ _ m _ _ => m
def Ex.kids : Ex → List Ex | .mk _ _ _ _ k _ => k
def Ex.clauses : Ex → List Cl | .mk _ _ _ _ _ c => c
theorem Ex.eq_iff (a b : Ex) : a = b ↔ a.kind = b.kind ∧ a.n = b.n ∧ a.text = b.text ∧ a.mod = b.mod ∧ a.kids = b.kids ∧ a.clauses = b.clauses := by
  cases a; cases b; simp [Ex.kind, Ex.n, Ex.text, Ex.mod, Ex.kids, Ex.clauses]
structure Rf where
  name : ByteArray
  arity : Int
structure Fn' where
  name : ByteArray
  arity : Int
  clauses : List Cl
structure Md where
  name : ByteArray
  exports : List Rf
  funs : List Fn'

def okI (n : Int) : Prop := (Lit.int .i64 n).wf = true
def okS (s : ByteArray) : Prop := s.size ≤ maxLen

def HCl (w : World) (S : Nat → Prop) (R : List Value → Ex → Prop) (cs : List Value) (c : Cl) : Prop :=
  ∃ p b, cs = [p, b] ∧ Rows w S 6 R p c.1 ∧ Rows w S 6 R b c.2

/-- Six cells that are an expression, at most d deep, whose kids and clauses lie in blocks of S. -/
def HEx (w : World) (S : Nat → Prop) : Nat → List Value → Ex → Prop
  | 0, _, _ => False
  | d + 1, cs, e => ∃ kv cv, cs = [.int .i64 e.kind, .int .i64 e.n, .string e.text, .string e.mod, kv, cv] ∧ okI e.kind ∧ okI e.n ∧ okS e.text ∧ okS e.mod ∧
      Rows w S 6 (HEx w S d) kv e.kids ∧ Rows w S 2 (HCl w S (HEx w S d)) cv e.clauses

def HRf (cs : List Value) (r : Rf) : Prop := cs = [.string r.name, .int .i64 r.arity] ∧ okS r.name ∧ okI r.arity

def HFn (w : World) (S : Nat → Prop) (d : Nat) (cs : List Value) (f : Fn') : Prop :=
  ∃ cv, cs = [.string f.name, .int .i64 f.arity, cv] ∧ okS f.name ∧ okI f.arity ∧ Rows w S 2 (HCl w S (HEx w S d)) cv f.clauses

def HMd (w : World) (S : Nat → Prop) (d : Nat) (cs : List Value) (m : Md) : Prop :=
  ∃ ev fv, cs = [.string m.name, ev, fv] ∧ okS m.name ∧ Rows w S 2 HRf ev m.exports ∧ Rows w S 3 (HFn w S d) fv m.funs

theorem HCl.mono {w w' : World} {S S' : Nat → Prop} {R R' : List Value → Ex → Prop} {cs : List Value} {c : Cl} (h : HCl w S R cs c) (hs : SameOn S w w') (hS : ∀ g, S g → S' g)
    (hR : ∀ cs x, R cs x → R' cs x) : HCl w' S' R' cs c := by
  obtain ⟨p, b, rfl, h1, h2⟩ := h
  exact ⟨p, b, rfl, h1.mono hs hS (fun cs x _ => hR cs x), h2.mono hs hS (fun cs x _ => hR cs x)⟩

theorem HEx.mono {w w' : World} {S S' : Nat → Prop} (hs : SameOn S w w') (hS : ∀ g, S g → S' g) : ∀ {d : Nat} {cs : List Value} {e : Ex}, HEx w S d cs e → HEx w' S' d cs e
  | 0, _, _, h => h.elim
  | d + 1, cs, e, h => by
    obtain ⟨kv, cv, rfl, h1, h2, h3, h4, hk, hc⟩ := h
    exact ⟨kv, cv, rfl, h1, h2, h3, h4, hk.mono hs hS (fun _ _ _ => HEx.mono hs hS), hc.mono hs hS (fun _ _ _ h => h.mono hs hS (fun _ _ => HEx.mono hs hS))⟩

theorem HFn.mono {w w' : World} {S S' : Nat → Prop} (hs : SameOn S w w') (hS : ∀ g, S g → S' g) {d : Nat} {cs : List Value} {f : Fn'} (h : HFn w S d cs f) : HFn w' S' d cs f := by
  obtain ⟨cv, rfl, h1, h2, hc⟩ := h
  exact ⟨cv, rfl, h1, h2, hc.mono hs hS (fun _ _ _ h => h.mono hs hS (fun _ _ => HEx.mono hs hS))⟩

theorem HMd.mono {w w' : World} {S S' : Nat → Prop} (hs : SameOn S w w') (hS : ∀ g, S g → S' g) {d : Nat} {cs : List Value} {m : Md} (h : HMd w S d cs m) : HMd w' S' d cs m := by
  obtain ⟨ev, fv, rfl, h1, he, hf⟩ := h
  exact ⟨ev, fv, rfl, h1, he.mono hs hS (fun _ _ _ h => h), hf.mono hs hS (fun _ _ _ h => h.mono hs hS)⟩

/-! What the statement's reader reads. -/
section
variable {H : Type} {enc : TypeId × Value → H} {P : Program} {w : World} {base : Nat} {sp : Nat → Bool} {held : Bool}

theorem pick {α β : Type} {p : α → β → Prop} : ∀ {l : List α}, (∀ a ∈ l, ∃ b, p a b) → ∃ bs : List β, bs.length = l.length ∧ ∀ (i : Nat) b, bs[i]? = some b → ∃ a, l[i]? = some a ∧ p a b
  | [], _ => ⟨[], rfl, fun i b h => by simp at h⟩
  | a :: l, h => by
    obtain ⟨b, hb⟩ := h a (by simp)
    obtain ⟨bs, hl, hbs⟩ := pick (l := l) fun a ha => h a (by simp [ha])
    refine ⟨b :: bs, by simp [hl], fun i b' hi => ?_⟩
    cases i with
    | zero => simp at hi; subst hi; exact ⟨a, by simp, hb⟩
    | succ i => simp at hi; obtain ⟨a', ha, hp⟩ := hbs i b' hi; exact ⟨a', by simpa using ha, hp⟩

theorem cells_at {a : Addr} {n : Nat} {cs : List Value} (h : w.cells? base a n = some cs) : cs.length = n ∧ ∀ j, j < n → w.cell? (a.add j) = cs[j]? := by
  simp only [World.cells?] at h
  split at h
  · refine ⟨by simpa using Lib.mapM_length h, fun j hj => ?_⟩
    obtain ⟨b, hb, hf⟩ := Lib.mapM_at h j j (by simp [hj])
    rw [hf, hb]
  · cases h

theorem add_add (a : Addr) (n m : Nat) (h : a.spot = none) : (a.add n).add m = ⟨a.block, a.off + n + m, none⟩ := by
  obtain ⟨b, o, s⟩ := a
  simp only at h; subst h
  unfold Addr.add
  by_cases hn : n = 0 <;> by_cases hm : m = 0 <;> simp_all

theorem open_rows {α : Type} {t e : TypeId} {c fuel : Nat} {cs : List Value} {x : DataW H × List MemPlace} {R : List Value → α → Prop} (ht : P.underlying t = some (.slice e)) (hc : P.cellsOf e = c) (hc0 : 0 < c)
    (hR : ∀ cs x, DataW.trod enc P w base sp held fuel e cs = some x → ∃ a, R cs a)
    (h : DataW.trod enc P w base sp held (fuel + 1) t cs = some x) : ∃ v xs, cs = [v] ∧ Rows w (fun g => g < w.heap.size) c R v xs := by
  unfold DataW.trod at h
  simp only [ht] at h
  split at h
  all_goals try (rename_i heq _; cases heq; done)
  all_goals try (rename_i heq; cases heq; done)
  all_goals try (cases h; done)
  · exact ⟨_, [], rfl, Rows.nil (Nat.zero_le _)⟩
  · rename_i e' a len cap heq1 
    injection heq1 with heq1
    injection heq1 with heq1
    subst heq1
    simp only [hc] at h
    split at h
    · rename_i hb
      obtain ⟨elems, he, hr⟩ := Option.bind_eq_some_iff.1 h
      have hel : elems.length = len := by simpa using Lib.mapM_length he
      have hat : ∀ i ∈ List.range len, ∃ b : List Value × α, w.cells? base (a.add (i * c)) c = some b.1 ∧ R b.1 b.2 := by
        intro i hi
        have hi' : i < len := by simpa using hi
        obtain ⟨b, _, hf⟩ := Lib.mapM_at he i i (by simp [hi'])
        obtain ⟨cs, hcs, htr⟩ := Option.bind_eq_some_iff.1 hf
        obtain ⟨a', ha'⟩ := hR cs b htr
        exact ⟨(cs, a'), hcs, ha'⟩
      obtain ⟨bs, hbl, hbs⟩ := pick hat
      refine ⟨_, bs.map (·.2), rfl, some a, cap, ?_, ?_, hb.2.2, fun hne => ?_⟩
      · simp only [List.length_map, hbl, List.length_range]
      · simp only [List.length_map, hbl, List.length_range]; exact hb.2.1
      · have hl0 : 0 < len := by
          cases bs with
          | nil => exact absurd rfl hne
          | cons b bs => simp at hbl; omega
        obtain ⟨b0, hb0⟩ : ∃ b0, bs[0]? = some b0 := ⟨bs[0]'(by rw [hbl]; simpa using hl0), List.getElem?_eq_getElem _⟩
        obtain ⟨i0, hi0, hc0', _⟩ := hbs 0 b0 hb0
        obtain rfl : i0 = 0 := by
          rw [List.getElem?_range hl0] at hi0; exact (Option.some.inj hi0).symm
        obtain ⟨hl1, hat1⟩ := cells_at hc0'
        have hcell := hat1 0 hc0
        simp only [Nat.zero_mul] at hcell
        have hsp : a.spot = none ∧ a.block < w.heap.size := by
          have : w.cell? a = some (b0.1[0]'(by rw [hl1]; exact hc0)) := by
            rw [← List.getElem?_eq_getElem]; rw [← hcell]; simp [Addr.add]
          unfold World.cell? at this
          split at this
          · rename_i heq
            constructor
            · cases hs : a.spot with
              | none => rfl
              | some s => simp [hs] at this
            · exact (Array.getElem?_eq_some_iff.1 heq).1
          · cases this
        refine ⟨a.block, a.off, ?_, hsp.2, hsp.2, fun i x hi => ?_⟩
        · obtain ⟨b, o, s⟩ := a; simp only at hsp; simp [hsp.1]
        · rw [List.getElem?_map] at hi
          obtain ⟨b, hb', rfl⟩ := Option.map_eq_some_iff.1 hi
          obtain ⟨i', hi', hcs, hr'⟩ := hbs i b hb'
          have hlt : i < len := by
            have := (List.getElem?_eq_some_iff.1 hb').1
            rw [hbl] at this; simpa using this
          obtain rfl : i' = i := by
            rw [List.getElem?_range hlt] at hi'; exact (Option.some.inj hi').symm
          obtain ⟨hl2, hat2⟩ := cells_at hcs
          exact ⟨b.1, hl2, fun j hj => by rw [← hat2 j hj, add_add _ _ _ hsp.1], hr'⟩
    · cases h

theorem open_fields {t : TypeId} {fs : Array Field} {tys : List (TypeId × Nat)} {fuel : Nat} {cs : List Value} {x : DataW H × List MemPlace} (ht : P.underlying t = some (.struct fs))
    (hf : (fs.toList.map fun f => (f.type, f.offset)) = tys) (h : DataW.trod enc P w base sp held (fuel + 1) t cs = some x) :
    cs.length = P.cellsOf t ∧ ∀ (i : Nat) ty o, tys[i]? = some (ty, o) → ∃ y, DataW.trod enc P w base sp held fuel ty ((cs.drop o).take (P.cellsOf ty)) = some y := by
  unfold DataW.trod at h
  simp only [ht] at h
  split at h
  · rename_i hl
    refine ⟨hl, fun i ty o hi => ?_⟩
    obtain ⟨xs, hm, _⟩ := Option.map_eq_some_iff.1 h
    rw [← hf, List.getElem?_map] at hi
    obtain ⟨f, hfi, hfe⟩ := Option.map_eq_some_iff.1 hi
    obtain ⟨y, _, hy⟩ := Lib.mapM_at hm i f hfi
    simp only [Prod.mk.injEq] at hfe
    rw [← hfe.1, ← hfe.2]
    exact ⟨y, hy⟩
  · cases h

theorem open_int1 {t : TypeId} {fuel : Nat} {v : Value} {x : DataW H × List MemPlace} (ht : P.underlying t = some (.int .i64)) (h : DataW.trod enc P w base sp held fuel t [v] = some x) : ∃ n, v = .int .i64 n ∧ okI n := by
  obtain ⟨n, hn, hw⟩ : ∃ n, [v] = [Value.int .i64 n] ∧ okI n := by
    cases fuel with
    | zero => simp [DataW.trod] at h
    | succ fuel =>
      unfold DataW.trod at h
      simp only [ht] at h
      split at h
      all_goals try (rename_i heq _; cases heq; done)
      all_goals try (rename_i heq; cases heq; done)
      all_goals try (cases h; done)
      · rename_i k k' n heq heq2
        split at h
        · rename_i hk
          cases heq
          obtain ⟨rfl, hw⟩ := hk
          exact ⟨n, heq2, hw⟩
        · cases h
  cases hn
  exact ⟨n, rfl, hw⟩

theorem open_str1 {t : TypeId} {fuel : Nat} {v : Value} {x : DataW H × List MemPlace} (ht : P.underlying t = some .string) (h : DataW.trod enc P w base sp held fuel t [v] = some x) : ∃ s, v = .string s ∧ okS s := by
  obtain ⟨n, hn, hw⟩ : ∃ n, [v] = [Value.string n] ∧ okS n := by
    cases fuel with
    | zero => simp [DataW.trod] at h
    | succ fuel =>
      unfold DataW.trod at h
      simp only [ht] at h
      split at h
      all_goals try (rename_i heq _; cases heq; done)
      all_goals try (rename_i heq; cases heq; done)
      all_goals try (cases h; done)
      · rename_i s heq heq2
        split at h
        · rename_i hk
          exact ⟨s, heq2, hk⟩
        · cases h
  cases hn
  exact ⟨n, rfl, hw⟩

theorem HEx.deeper {S : Nat → Prop} : ∀ {d d' : Nat} {cs : List Value} {e : Ex}, d ≤ d' → HEx w S d cs e → HEx w S d' cs e
  | 0, _, _, _, _, h => h.elim
  | d + 1, 0, _, _, hd, h => by omega
  | d + 1, d' + 1, cs, e, hd, h => by
    have hs : SameOn S w w := ⟨Nat.le_refl _, fun _ _ _ => rfl⟩
    obtain ⟨kv, cv, rfl, h1, h2, h3, h4, hk, hc⟩ := h
    exact ⟨kv, cv, rfl, h1, h2, h3, h4, hk.mono hs (fun _ h => h) (fun _ _ _ => HEx.deeper (by omega)), hc.mono hs (fun _ h => h) (fun _ _ _ h => h.mono hs (fun _ h => h) (fun _ _ => HEx.deeper (by omega)))⟩

/-- The types of expressions and clauses, in a program. -/
structure ExTypes (P : Program) (tE tEs tC tCs tI tS : TypeId) : Prop where
  e : ∃ fs, P.underlying tE = some (.struct fs) ∧ (fs.toList.map fun f => (f.type, f.offset)) = [(tI, 0), (tI, 1), (tS, 2), (tS, 3), (tEs, 4), (tCs, 5)]
  c : ∃ fs, P.underlying tC = some (.struct fs) ∧ (fs.toList.map fun f => (f.type, f.offset)) = [(tEs, 0), (tEs, 1)]
  es : P.underlying tEs = some (.slice tE)
  cs : P.underlying tCs = some (.slice tC)
  i : P.underlying tI = some (.int .i64)
  s : P.underlying tS = some .string
  ce : P.cellsOf tE = 6
  cc : P.cellsOf tC = 2
  ci : P.cellsOf tI = 1
  cS : P.cellsOf tS = 1
  ces : P.cellsOf tEs = 1
  ccs : P.cellsOf tCs = 1

theorem len6 {cs : List Value} (h : cs.length = 6) : ∃ a b c d e f, cs = [a, b, c, d, e, f] := by
  match cs, h with
  | [a, b, c, d, e, f], _ => exact ⟨a, b, c, d, e, f, rfl⟩
theorem len2 {cs : List Value} (h : cs.length = 2) : ∃ a b, cs = [a, b] := by
  match cs, h with
  | [a, b], _ => exact ⟨a, b, rfl⟩
theorem len3 {cs : List Value} (h : cs.length = 3) : ∃ a b c, cs = [a, b, c] := by
  match cs, h with
  | [a, b, c], _ => exact ⟨a, b, c, rfl⟩

variable {tE tEs tC tCs tI tS : TypeId}

theorem open_exs {n : Nat} (T : ExTypes P tE tEs tC tCs tI tS)
    (ih : ∀ fuel, fuel < n → ∀ cs x, DataW.trod enc P w base sp held fuel tE cs = some x → ∃ e, HEx w (fun g => g < w.heap.size) n cs e) {fuel : Nat} (hf : fuel ≤ n) {v : Value} {x : DataW H × List MemPlace}
    (h : DataW.trod enc P w base sp held fuel tEs [v] = some x) : ∃ es, Rows w (fun g => g < w.heap.size) 6 (HEx w (fun g => g < w.heap.size) n) v es := by
  cases fuel with
  | zero => simp [DataW.trod] at h
  | succ fuel =>
    obtain ⟨v', xs, hv, hr⟩ := open_rows T.es T.ce (by decide) (ih fuel (by omega)) h
    cases hv
    exact ⟨xs, hr⟩

theorem open_cls {n : Nat} (T : ExTypes P tE tEs tC tCs tI tS)
    (ih : ∀ fuel, fuel < n → ∀ cs x, DataW.trod enc P w base sp held fuel tE cs = some x → ∃ e, HEx w (fun g => g < w.heap.size) n cs e) {fuel : Nat} (hf : fuel ≤ n) {v : Value} {x : DataW H × List MemPlace}
    (h : DataW.trod enc P w base sp held fuel tCs [v] = some x) : ∃ es, Rows w (fun g => g < w.heap.size) 2 (HCl w (fun g => g < w.heap.size) (HEx w (fun g => g < w.heap.size) n)) v es := by
  cases fuel with
  | zero => simp [DataW.trod] at h
  | succ fuel =>
    obtain ⟨v', xs, hv, hr⟩ := open_rows (R := HCl w (fun g => g < w.heap.size) (HEx w (fun g => g < w.heap.size) n)) T.cs T.cc (by decide) (fun cs x hx => by
      cases fuel with
      | zero => simp [DataW.trod] at hx
      | succ fuel =>
        obtain ⟨fs, hu, hfs⟩ := T.c
        obtain ⟨hl, hat⟩ := open_fields hu hfs hx
        rw [T.cc] at hl
        obtain ⟨a, b, rfl⟩ := len2 hl
        obtain ⟨y0, h0⟩ := hat 0 _ _ rfl
        obtain ⟨y1, h1⟩ := hat 1 _ _ rfl
        rw [T.ces] at h0 h1
        obtain ⟨p, hp⟩ := open_exs T ih (by omega) h0
        obtain ⟨q, hq⟩ := open_exs T ih (by omega) h1
        exact ⟨(p, q), a, b, rfl, hp, hq⟩) h
    cases hv
    exact ⟨xs, hr⟩

theorem open_ex (T : ExTypes P tE tEs tC tCs tI tS) : ∀ (n fuel : Nat), fuel < n → ∀ cs x, DataW.trod enc P w base sp held fuel tE cs = some x → ∃ e, HEx w (fun g => g < w.heap.size) n cs e := by
  intro n
  induction n with
  | zero => intro fuel hf; omega
  | succ n ihn =>
    intro fuel hf cs x h
    cases fuel with
    | zero => simp [DataW.trod] at h
    | succ fuel =>
      obtain ⟨fs, hu, hfs⟩ := T.e
      obtain ⟨hl, hat⟩ := open_fields hu hfs h
      rw [T.ce] at hl
      obtain ⟨a, b, c, d, e, f, rfl⟩ := len6 hl
      obtain ⟨y0, h0⟩ := hat 0 _ _ rfl
      obtain ⟨y1, h1⟩ := hat 1 _ _ rfl
      obtain ⟨y2, h2⟩ := hat 2 _ _ rfl
      obtain ⟨y3, h3⟩ := hat 3 _ _ rfl
      obtain ⟨y4, h4⟩ := hat 4 _ _ rfl
      obtain ⟨y5, h5⟩ := hat 5 _ _ rfl
      rw [T.ci] at h0 h1
      rw [T.cS] at h2 h3
      rw [T.ces] at h4
      rw [T.ccs] at h5
      obtain ⟨k, rfl, hk⟩ := open_int1 T.i h0
      obtain ⟨m, rfl, hm⟩ := open_int1 T.i h1
      obtain ⟨s, rfl, hs⟩ := open_str1 T.s h2
      obtain ⟨r, rfl, hr⟩ := open_str1 T.s h3
      obtain ⟨ks, hks⟩ := open_exs T ihn (by omega) h4
      obtain ⟨cls, hcls⟩ := open_cls T ihn (by omega) h5
      exact ⟨.mk k m s r ks cls, e, f, rfl, hk, hm, hs, hr, hks, hcls⟩

structure MdTypes (P : Program) (tE tEs tC tCs tI tS tR tRs tF tFs tM : TypeId) : Prop extends ExTypes P tE tEs tC tCs tI tS where
  r : ∃ fs, P.underlying tR = some (.struct fs) ∧ (fs.toList.map fun f => (f.type, f.offset)) = [(tS, 0), (tI, 1)]
  f : ∃ fs, P.underlying tF = some (.struct fs) ∧ (fs.toList.map fun f => (f.type, f.offset)) = [(tS, 0), (tI, 1), (tCs, 2)]
  m : ∃ fs, P.underlying tM = some (.struct fs) ∧ (fs.toList.map fun f => (f.type, f.offset)) = [(tS, 0), (tRs, 1), (tFs, 2)]
  rs : P.underlying tRs = some (.slice tR)
  fs : P.underlying tFs = some (.slice tF)
  cr : P.cellsOf tR = 2
  cf : P.cellsOf tF = 3
  cm : P.cellsOf tM = 3
  crs : P.cellsOf tRs = 1
  cfs : P.cellsOf tFs = 1

variable {tR tRs tF tFs tM : TypeId}

theorem open_md (T : MdTypes P tE tEs tC tCs tI tS tR tRs tF tFs tM) {v : Value} {dd : DataW H} {ps : List MemPlace} (h : DataW.Trod enc P w base sp held tM v dd ps) :
    ∃ d m, HMd w (fun g => g < w.heap.size) d v.cells.toList m := by
  obtain ⟨fuel, h⟩ := h
  generalize v.cells.toList = cs at h ⊢
  cases fuel with
  | zero => simp [DataW.trod] at h
  | succ fuel =>
    obtain ⟨fs, hu, hfs⟩ := T.m
    obtain ⟨hl, hat⟩ := open_fields hu hfs h
    rw [T.cm] at hl
    obtain ⟨a, b, c, rfl⟩ := len3 hl
    obtain ⟨y0, h0⟩ := hat 0 _ _ rfl
    obtain ⟨y1, h1⟩ := hat 1 _ _ rfl
    obtain ⟨y2, h2⟩ := hat 2 _ _ rfl
    rw [T.cS] at h0
    rw [T.crs] at h1
    rw [T.cfs] at h2
    obtain ⟨s, rfl, hs⟩ := open_str1 T.s h0
    cases fuel with
    | zero => simp [DataW.trod] at h0
    | succ fuel =>
      obtain ⟨_, rs, hv, hr⟩ := open_rows (R := HRf) T.rs T.cr (by decide) (fun cs x hx => by
        cases fuel with
        | zero => simp [DataW.trod] at hx
        | succ fuel =>
          obtain ⟨fs, hu, hfs⟩ := T.r
          obtain ⟨hl, hat⟩ := open_fields hu hfs hx
          rw [T.cr] at hl
          obtain ⟨a, b, rfl⟩ := len2 hl
          obtain ⟨y0, h0⟩ := hat 0 _ _ rfl
          obtain ⟨y1, h1⟩ := hat 1 _ _ rfl
          rw [T.cS] at h0
          rw [T.ci] at h1
          obtain ⟨s, rfl, hs⟩ := open_str1 T.s h0
          obtain ⟨i, rfl, hi⟩ := open_int1 T.i h1
          exact ⟨⟨s, i⟩, rfl, hs, hi⟩) h1
      cases hv
      obtain ⟨_, fs, hv, hf⟩ := open_rows (R := HFn w (fun g => g < w.heap.size) (fuel + 1)) T.fs T.cf (by decide) (fun cs x hx => by
        cases fuel with
        | zero => simp [DataW.trod] at hx
        | succ fuel =>
          obtain ⟨fs, hu, hfs⟩ := T.f
          obtain ⟨hl, hat⟩ := open_fields hu hfs hx
          rw [T.cf] at hl
          obtain ⟨a, b, c, rfl⟩ := len3 hl
          obtain ⟨y0, h0⟩ := hat 0 _ _ rfl
          obtain ⟨y1, h1⟩ := hat 1 _ _ rfl
          obtain ⟨y2, h2⟩ := hat 2 _ _ rfl
          rw [T.cS] at h0
          rw [T.ci] at h1
          rw [T.ccs] at h2
          obtain ⟨s, rfl, hs⟩ := open_str1 T.s h0
          obtain ⟨i, rfl, hi⟩ := open_int1 T.i h1
          obtain ⟨cls, hcls⟩ := open_cls T.toExTypes (n := fuel + 1 + 1) (open_ex T.toExTypes (fuel + 1 + 1)) (by omega) h2
          exact ⟨⟨s, i, cls⟩, c, rfl, hs, hi, hcls⟩) h2
      cases hv
      exact ⟨fuel + 1, ⟨s, rs, fs⟩, b, c, rfl, hs, hr, hf⟩
end
end Go.Proofs.YtoknolophmhlgaaGreatDoor
/-
  What is alike for all trees in memory: weights, boxes, rows that are made; the forms of contracts.
-/
namespace Go.Proofs.YtoknolophmhlgaaGreatDoor
open Go.ChangeShapes Go.WideShapes Go.ChangeAt Go.RowKit
set_option linter.unusedVariables false

def wtS {α : Type} (f : α → Nat) (xs : List α) : Nat := xs.length + (xs.map f).sum
/-- What is left of so much, or -1. -/
def leftOf (left wt : Nat) : Int := if left < wt then -1 else ((left - wt : Nat) : Int)

theorem leftOf_lt {left wt : Nat} (h : left < wt) : leftOf left wt = -1 := if_pos h
theorem leftOf_ge {left wt : Nat} (h : wt ≤ left) : leftOf left wt = ((left - wt : Nat) : Int) := if_neg (by omega)
theorem sum_take_succ {α : Type} (f : α → Nat) (xs : List α) (k : Nat) (x : α) (h : xs[k]? = some x) : ((xs.take (k + 1)).map f).sum = ((xs.take k).map f).sum + f x := by
  rw [List.take_add_one, h]; simp
theorem sum_take_le {α : Type} (f : α → Nat) (xs : List α) (k : Nat) : ((xs.take k).map f).sum ≤ (xs.map f).sum := by
  conv => rhs; rw [← List.take_append_drop k xs]
  rw [List.map_append, List.sum_append]; omega

/-- A function of a value, told of a world and of what is left. -/
def SzC {α : Type} (F : FuncId) (H : World → Value → α → Prop) (wt : α → Nat) : Prop :=
  ∀ (w : World) (v : Value) (x : α) (left : Nat), H w v x → left ≤ 1048576 → Calls Tryz.prog F #[v, .int .i64 left] w fun e w' => e = .returned (.int .i64 (leftOf left (wt x))) ∧ Below w.heap.size w w'

theorem SzC.at {α : Type} {F : FuncId} {H : World → Value → α → Prop} {wt : α → Nat} (h : SzC F H wt) {w : World} {v : Value} (x : α) (l : Int) (left : Nat) (hl : l = left) (hx : H w v x) (hb : left ≤ 1048576) :
    Calls Tryz.prog F #[v, .int .i64 l] w fun e w' => e = .returned (.int .i64 (leftOf left (wt x))) ∧ Below w.heap.size w w' := by
  subst hl; exact h w v x left hx hb

/-- A function of two values that are one tree answers true and makes memory alone. -/
def EqC {α : Type} (F : FuncId) (H : World → Value → α → Prop) : Prop :=
  ∀ (w : World) (v1 v2 : Value) (x : α), H w v1 x → H w v2 x → Calls Tryz.prog F #[v1, v2] w fun e w' => e = .returned (.bool true) ∧ Below w.heap.size w w'

/-- A function that makes a copy, of what is not too great, in new memory. -/
def ToC {α : Type} (F : FuncId) (H : World → Value → α → Prop) (R : World → (Nat → Prop) → Value → α → Prop) (wt : α → Nat) : Prop :=
  ∀ (w : World) (v : Value) (x : α), H w v x → wt x ≤ 1048576 → Calls Tryz.prog F #[v] w fun e w' => ∃ u, e = .returned u ∧ R w' (fun g => w.heap.size ≤ g) u x ∧ Below w.heap.size w w'

theorem grownBy_transR {a b c : World} {r : Option Nat} (h : a.grownBy b r) (k : b.grownBy c r) : a.grownBy c r :=
  ⟨k.os.trans h.os, k.tape.trans h.tape, k.output.trans h.output, Nat.le_trans h.size k.size, fun j hj hr => (k.block j (Nat.lt_of_lt_of_le hj h.size) hr).trans (h.block j hj hr)⟩
theorem grownBy_belowR {a b : World} {r : Option Nat} (h : Below a.heap.size a b) : a.grownBy b r := ⟨h.os, h.tape, h.output, h.size, fun j hj _ => h.block j hj⟩
theorem below_grownR {a b : World} {B g : Nat} (h : a.grownBy b (some g)) (hB : B ≤ g) (hs : B ≤ a.heap.size) : Below B a b :=
  ⟨h.os, h.tape, h.output, h.size, fun j hj => h.block j (by omega) (by simp; omega)⟩
theorem own_someR {w : World} {B g n cap c : Nat} {e : TypeId} {xs : List Value} (h : w.ownsRow B e c (.slice (some ⟨g, 0, none⟩) n cap) n xs) (j : Nat) (hj : j < n * c) : ∃ u, w.cell? ⟨g, j, none⟩ = some u :=
  ⟨_, (h.cellAt j hj).trans (List.getElem?_eq_getElem (by rw [h.1]; exact hj))⟩

/-- A new row of n elements of a type: its cells, whatever they are. -/
theorem make_row {t e : TypeId} {c : Nat} (ht : Tryz.prog.underlying t = some (.slice e)) (hi : ((Tryz.prog.info? e).any fun i => i.zero.isSome && (i.size == c && decide (i.bytes ≤ 1000))) = true) (w : World) (n : Nat) (hn : n ≤ 1048576) :
    ∃ M : Array Value, M.size = n * c ∧ (Instr.makeSlice t (.int .i64 n) (.int .i64 n)).run Tryz.prog w = .ok (.slice (some ⟨w.heap.size, 0, none⟩) n n) (w.alloc (.cells M e)) := by
  cases h : Tryz.prog.info? e with
  | none => rw [h] at hi; cases hi
  | some i =>
    rw [h] at hi
    simp only [Option.any_some, Bool.and_eq_true, beq_iff_eq, decide_eq_true_eq] at hi
    obtain ⟨hz, hs, hb⟩ := hi
    obtain ⟨z, hz⟩ := Option.isSome_iff_exists.1 hz
    have := run_make (P := Tryz.prog) w t e i z ht h hz .i64 .i64 n n (by omega) (Int.le_refl _) (by
      have h1 : i.bytes * n ≤ 1000 * 1048576 := Nat.mul_le_mul hb hn
      have h2 : ((i.bytes * n : Nat) : Int) ≤ ((1000 * 1048576 : Nat) : Int) := by exact_mod_cast h1
      rw [Int.natCast_mul] at h2
      omega) (by omega)
    exact ⟨_, by rw [size_madeCells, hs]; simp, this⟩

/-- The block b holds just these cells; none is frozen. -/
def Blk (w : World) (b : Nat) (cs : Array Value) (t : TypeId) : Prop := w.heap[b]? = some (.cells cs t)
theorem Blk.cell {w : World} {b : Nat} {cs : Array Value} {t : TypeId} (h : Blk w b cs t) (j : Nat) (v : Value) (hv : cs[j]? = some v) : w.cell? ⟨b, j, none⟩ = some v := by
  unfold Blk at h; unfold World.cell?; rw [h]; simpa using hv
theorem Blk.frozen {w : World} {b : Nat} {cs : Array Value} {t : TypeId} (h : Blk w b cs t) (j : Nat) : w.frozen? ⟨b, j, none⟩ = false := by
  unfold Blk at h; unfold World.frozen?; rw [h]; simp
theorem Blk.below {w w' : World} {N b : Nat} {cs : Array Value} {t : TypeId} (h : Blk w b cs t) (hb : Below N w w') (hN : b < N) : Blk w' b cs t := (hb.block b hN).trans h
theorem Blk.new {w : World} {cs : Array Value} {t : TypeId} : Blk (w.alloc (.cells cs t)) w.heap.size cs t := by
  show (w.heap.push _)[w.heap.size]? = _
  simp
theorem Blk.alloc {w : World} {b : Nat} {cs : Array Value} {t : TypeId} {o : Obj} (h : Blk w b cs t) : Blk (w.alloc o) b cs t :=
  (Below.heap_alloc _ _ _ (by unfold Blk at h; exact (Array.getElem?_eq_some_iff.1 h).1)).trans h
theorem Blk.same {w : World} {b j : Nat} {cs cs' : Array Value} {t : TypeId} {v : Value} (h : Blk w b cs t) (hc : cs.setIfInBounds j v = cs') : Blk (w.setCell ⟨b, j, none⟩ v) b cs' t := by
  subst hc; exact heap_setCell_same w b j cs t v h
theorem Blk.other {w : World} {b : Nat} {p : Addr} {cs : Array Value} {t : TypeId} {v : Value} (h : Blk w b cs t) (hp : b ≠ p.block) : Blk (w.setCell p v) b cs t := (Below.heap_setCell _ _ _ _ hp).trans h
theorem SameOn.setCell {S : Nat → Prop} {a b : World} (h : SameOn S a b) {p : Addr} (hp : ¬ S p.block) (v : Value) : SameOn S a (b.setCell p v) :=
  ⟨by simpa [World.setCell] using h.1, fun g hg hl => (Below.heap_setCell _ _ _ _ (by intro e; exact hp (e ▸ hg))).trans (h.2 g hg hl)⟩
theorem setCell_hs (w : World) (p : Addr) (v : Value) : (w.setCell p v).heap.size = w.heap.size := by simp [World.setCell]

theorem set2_other {xs : List Value} {d0 d1 : Value} {m o : Nat} (h : m < o) : ((xs.set o d0).set (o + 1) d1)[m]? = xs[m]? := by
  rw [List.getElem?_set_ne (by omega), List.getElem?_set_ne (by omega)]
theorem set2_self {xs : List Value} {d0 d1 : Value} {o : Nat} (h : o + 1 < xs.length) (j : Nat) (hj : j < 2) : ((xs.set o d0).set (o + 1) d1)[o + j]? = [d0, d1][j]? := by
  match j, hj with
  | 0, _ => rw [List.getElem?_set_ne (by omega)]; exact List.getElem?_set_self (by omega)
  | 1, _ => rw [List.getElem?_set_self (by simp only [List.length_set]; omega)]; rfl
theorem stored2 {w : World} {B g n cap : Nat} {e : TypeId} {xs : List Value} (h : w.ownsRow B e 2 (.slice (some ⟨g, 0, none⟩) n cap) n xs) (o : Nat) (d0 d1 : Value) :
    ((w.setCell ⟨g, o, none⟩ d0).setCell ⟨g, o + 1, none⟩ d1).ownsRow B e 2 (.slice (some ⟨g, 0, none⟩) n cap) n ((xs.set o d0).set (o + 1) d1) ∧ w.grownBy ((w.setCell ⟨g, o, none⟩ d0).setCell ⟨g, o + 1, none⟩ d1) (some g) := by
  have s0 := h.stored o d0
  have s1 := s0.1.stored (o + 1) d1
  exact ⟨s1.1, grownBy_transR s0.2 (s1.2)⟩

theorem set3_other {xs : List Value} {d0 d1 d2 : Value} {m o : Nat} (h : m < o) : (((xs.set o d0).set (o + 1) d1).set (o + 2) d2)[m]? = xs[m]? := by
  rw [List.getElem?_set_ne (by omega), List.getElem?_set_ne (by omega), List.getElem?_set_ne (by omega)]
theorem set3_self {xs : List Value} {d0 d1 d2 : Value} {o : Nat} (h : o + 2 < xs.length) (j : Nat) (hj : j < 3) : (((xs.set o d0).set (o + 1) d1).set (o + 2) d2)[o + j]? = [d0, d1, d2][j]? := by
  match j, hj with
  | 0, _ => rw [List.getElem?_set_ne (by omega), List.getElem?_set_ne (by omega)]; exact List.getElem?_set_self (by omega)
  | 1, _ => rw [List.getElem?_set_ne (by omega), List.getElem?_set_self (by simp only [List.length_set]; omega)]; rfl
  | 2, _ => rw [List.getElem?_set_self (by simp only [List.length_set]; omega)]; rfl
theorem stored3 {w : World} {B g n cap : Nat} {e : TypeId} {xs : List Value} (h : w.ownsRow B e 3 (.slice (some ⟨g, 0, none⟩) n cap) n xs) (o : Nat) (d0 d1 d2 : Value) :
    (((w.setCell ⟨g, o, none⟩ d0).setCell ⟨g, o + 1, none⟩ d1).setCell ⟨g, o + 2, none⟩ d2).ownsRow B e 3 (.slice (some ⟨g, 0, none⟩) n cap) n (((xs.set o d0).set (o + 1) d1).set (o + 2) d2) ∧ w.grownBy (((w.setCell ⟨g, o, none⟩ d0).setCell ⟨g, o + 1, none⟩ d1).setCell ⟨g, o + 2, none⟩ d2) (some g) := by
  have s0 := h.stored o d0
  have s1 := s0.1.stored (o + 1) d1
  have s2 := s1.1.stored (o + 2) d2
  exact ⟨s2.1, grownBy_transR s0.2 (grownBy_transR s1.2 (s2.2))⟩

theorem set4_other {xs : List Value} {d0 d1 d2 d3 : Value} {m o : Nat} (h : m < o) : ((((xs.set o d0).set (o + 1) d1).set (o + 2) d2).set (o + 3) d3)[m]? = xs[m]? := by
  rw [List.getElem?_set_ne (by omega), List.getElem?_set_ne (by omega), List.getElem?_set_ne (by omega), List.getElem?_set_ne (by omega)]
theorem set4_self {xs : List Value} {d0 d1 d2 d3 : Value} {o : Nat} (h : o + 3 < xs.length) (j : Nat) (hj : j < 4) : ((((xs.set o d0).set (o + 1) d1).set (o + 2) d2).set (o + 3) d3)[o + j]? = [d0, d1, d2, d3][j]? := by
  match j, hj with
  | 0, _ => rw [List.getElem?_set_ne (by omega), List.getElem?_set_ne (by omega), List.getElem?_set_ne (by omega)]; exact List.getElem?_set_self (by omega)
  | 1, _ => rw [List.getElem?_set_ne (by omega), List.getElem?_set_ne (by omega), List.getElem?_set_self (by simp only [List.length_set]; omega)]; rfl
  | 2, _ => rw [List.getElem?_set_ne (by omega), List.getElem?_set_self (by simp only [List.length_set]; omega)]; rfl
  | 3, _ => rw [List.getElem?_set_self (by simp only [List.length_set]; omega)]; rfl
theorem stored4 {w : World} {B g n cap : Nat} {e : TypeId} {xs : List Value} (h : w.ownsRow B e 4 (.slice (some ⟨g, 0, none⟩) n cap) n xs) (o : Nat) (d0 d1 d2 d3 : Value) :
    ((((w.setCell ⟨g, o, none⟩ d0).setCell ⟨g, o + 1, none⟩ d1).setCell ⟨g, o + 2, none⟩ d2).setCell ⟨g, o + 3, none⟩ d3).ownsRow B e 4 (.slice (some ⟨g, 0, none⟩) n cap) n ((((xs.set o d0).set (o + 1) d1).set (o + 2) d2).set (o + 3) d3) ∧ w.grownBy ((((w.setCell ⟨g, o, none⟩ d0).setCell ⟨g, o + 1, none⟩ d1).setCell ⟨g, o + 2, none⟩ d2).setCell ⟨g, o + 3, none⟩ d3) (some g) := by
  have s0 := h.stored o d0
  have s1 := s0.1.stored (o + 1) d1
  have s2 := s1.1.stored (o + 2) d2
  have s3 := s2.1.stored (o + 3) d3
  exact ⟨s3.1, grownBy_transR s0.2 (grownBy_transR s1.2 (grownBy_transR s2.2 (s3.2)))⟩

theorem set5_other {xs : List Value} {d0 d1 d2 d3 d4 : Value} {m o : Nat} (h : m < o) : (((((xs.set o d0).set (o + 1) d1).set (o + 2) d2).set (o + 3) d3).set (o + 4) d4)[m]? = xs[m]? := by
  rw [List.getElem?_set_ne (by omega), List.getElem?_set_ne (by omega), List.getElem?_set_ne (by omega), List.getElem?_set_ne (by omega), List.getElem?_set_ne (by omega)]
theorem set5_self {xs : List Value} {d0 d1 d2 d3 d4 : Value} {o : Nat} (h : o + 4 < xs.length) (j : Nat) (hj : j < 5) : (((((xs.set o d0).set (o + 1) d1).set (o + 2) d2).set (o + 3) d3).set (o + 4) d4)[o + j]? = [d0, d1, d2, d3, d4][j]? := by
  match j, hj with
  | 0, _ => rw [List.getElem?_set_ne (by omega), List.getElem?_set_ne (by omega), List.getElem?_set_ne (by omega), List.getElem?_set_ne (by omega)]; exact List.getElem?_set_self (by omega)
  | 1, _ => rw [List.getElem?_set_ne (by omega), List.getElem?_set_ne (by omega), List.getElem?_set_ne (by omega), List.getElem?_set_self (by simp only [List.length_set]; omega)]; rfl
  | 2, _ => rw [List.getElem?_set_ne (by omega), List.getElem?_set_ne (by omega), List.getElem?_set_self (by simp only [List.length_set]; omega)]; rfl
  | 3, _ => rw [List.getElem?_set_ne (by omega), List.getElem?_set_self (by simp only [List.length_set]; omega)]; rfl
  | 4, _ => rw [List.getElem?_set_self (by simp only [List.length_set]; omega)]; rfl
theorem stored5 {w : World} {B g n cap : Nat} {e : TypeId} {xs : List Value} (h : w.ownsRow B e 5 (.slice (some ⟨g, 0, none⟩) n cap) n xs) (o : Nat) (d0 d1 d2 d3 d4 : Value) :
    (((((w.setCell ⟨g, o, none⟩ d0).setCell ⟨g, o + 1, none⟩ d1).setCell ⟨g, o + 2, none⟩ d2).setCell ⟨g, o + 3, none⟩ d3).setCell ⟨g, o + 4, none⟩ d4).ownsRow B e 5 (.slice (some ⟨g, 0, none⟩) n cap) n (((((xs.set o d0).set (o + 1) d1).set (o + 2) d2).set (o + 3) d3).set (o + 4) d4) ∧ w.grownBy (((((w.setCell ⟨g, o, none⟩ d0).setCell ⟨g, o + 1, none⟩ d1).setCell ⟨g, o + 2, none⟩ d2).setCell ⟨g, o + 3, none⟩ d3).setCell ⟨g, o + 4, none⟩ d4) (some g) := by
  have s0 := h.stored o d0
  have s1 := s0.1.stored (o + 1) d1
  have s2 := s1.1.stored (o + 2) d2
  have s3 := s2.1.stored (o + 3) d3
  have s4 := s3.1.stored (o + 4) d4
  exact ⟨s4.1, grownBy_transR s0.2 (grownBy_transR s1.2 (grownBy_transR s2.2 (grownBy_transR s3.2 (s4.2))))⟩

theorem set6_other {xs : List Value} {d0 d1 d2 d3 d4 d5 : Value} {m o : Nat} (h : m < o) : ((((((xs.set o d0).set (o + 1) d1).set (o + 2) d2).set (o + 3) d3).set (o + 4) d4).set (o + 5) d5)[m]? = xs[m]? := by
  rw [List.getElem?_set_ne (by omega), List.getElem?_set_ne (by omega), List.getElem?_set_ne (by omega), List.getElem?_set_ne (by omega), List.getElem?_set_ne (by omega), List.getElem?_set_ne (by omega)]
theorem set6_self {xs : List Value} {d0 d1 d2 d3 d4 d5 : Value} {o : Nat} (h : o + 5 < xs.length) (j : Nat) (hj : j < 6) : ((((((xs.set o d0).set (o + 1) d1).set (o + 2) d2).set (o + 3) d3).set (o + 4) d4).set (o + 5) d5)[o + j]? = [d0, d1, d2, d3, d4, d5][j]? := by
  match j, hj with
  | 0, _ => rw [List.getElem?_set_ne (by omega), List.getElem?_set_ne (by omega), List.getElem?_set_ne (by omega), List.getElem?_set_ne (by omega), List.getElem?_set_ne (by omega)]; exact List.getElem?_set_self (by omega)
  | 1, _ => rw [List.getElem?_set_ne (by omega), List.getElem?_set_ne (by omega), List.getElem?_set_ne (by omega), List.getElem?_set_ne (by omega), List.getElem?_set_self (by simp only [List.length_set]; omega)]; rfl
  | 2, _ => rw [List.getElem?_set_ne (by omega), List.getElem?_set_ne (by omega), List.getElem?_set_ne (by omega), List.getElem?_set_self (by simp only [List.length_set]; omega)]; rfl
  | 3, _ => rw [List.getElem?_set_ne (by omega), List.getElem?_set_ne (by omega), List.getElem?_set_self (by simp only [List.length_set]; omega)]; rfl
  | 4, _ => rw [List.getElem?_set_ne (by omega), List.getElem?_set_self (by simp only [List.length_set]; omega)]; rfl
  | 5, _ => rw [List.getElem?_set_self (by simp only [List.length_set]; omega)]; rfl
theorem stored6 {w : World} {B g n cap : Nat} {e : TypeId} {xs : List Value} (h : w.ownsRow B e 6 (.slice (some ⟨g, 0, none⟩) n cap) n xs) (o : Nat) (d0 d1 d2 d3 d4 d5 : Value) :
    ((((((w.setCell ⟨g, o, none⟩ d0).setCell ⟨g, o + 1, none⟩ d1).setCell ⟨g, o + 2, none⟩ d2).setCell ⟨g, o + 3, none⟩ d3).setCell ⟨g, o + 4, none⟩ d4).setCell ⟨g, o + 5, none⟩ d5).ownsRow B e 6 (.slice (some ⟨g, 0, none⟩) n cap) n ((((((xs.set o d0).set (o + 1) d1).set (o + 2) d2).set (o + 3) d3).set (o + 4) d4).set (o + 5) d5) ∧ w.grownBy ((((((w.setCell ⟨g, o, none⟩ d0).setCell ⟨g, o + 1, none⟩ d1).setCell ⟨g, o + 2, none⟩ d2).setCell ⟨g, o + 3, none⟩ d3).setCell ⟨g, o + 4, none⟩ d4).setCell ⟨g, o + 5, none⟩ d5) (some g) := by
  have s0 := h.stored o d0
  have s1 := s0.1.stored (o + 1) d1
  have s2 := s1.1.stored (o + 2) d2
  have s3 := s2.1.stored (o + 3) d3
  have s4 := s3.1.stored (o + 4) d4
  have s5 := s4.1.stored (o + 5) d5
  exact ⟨s5.1, grownBy_transR s0.2 (grownBy_transR s1.2 (grownBy_transR s2.2 (grownBy_transR s3.2 (grownBy_transR s4.2 (s5.2)))))⟩

/-- Whether two trees are one. -/
noncomputable def sameB {α : Type} (x y : α) : Bool := @decide (x = y) (Classical.propDecidable _)
theorem sameB_true {α : Type} {x y : α} (h : x = y) : sameB x y = true := by exact @decide_eq_true _ (Classical.propDecidable _) h
theorem sameB_false {α : Type} {x y : α} (h : x ≠ y) : sameB x y = false := by exact @decide_eq_false _ (Classical.propDecidable _) h

theorem str_ne {a b : ByteArray} (h : ¬ a = b) : ¬ a.toList = b.toList := fun e => h (bytes_inj (by rw [← ByteArray.toList_eq, ← ByteArray.toList_eq, e]))
theorem str_neB {a b : ByteArray} (h : ¬ a = b) : (a.toList == b.toList) = false := by simpa using str_ne h

/-- A function of two values tells whether their trees are one, and makes memory alone. -/
def CmpC {α : Type} (F : FuncId) (H : World → Value → α → Prop) : Prop :=
  ∀ (w : World) (v1 v2 : Value) (x y : α), H w v1 x → H w v2 y → Calls Tryz.prog F #[v1, v2] w fun e w' => e = .returned (.bool (sameB x y)) ∧ Below w.heap.size w w'

theorem take_succ_same {α : Type} {xs ys : List α} {k : Nat} {x : α} (h : xs.take k = ys.take k) (hx : xs[k]? = some x) (hy : ys[k]? = some x) : xs.take (k + 1) = ys.take (k + 1) := by
  rw [List.take_add_one, List.take_add_one, h, hx, hy]
theorem take_all_same {α : Type} {xs ys : List α} {k : Nat} (h : xs.take k = ys.take k) (hx : xs.length ≤ k) (hy : ys.length ≤ k) : xs = ys := by
  rwa [List.take_of_length_le hx, List.take_of_length_le hy] at h
theorem ne_at {α : Type} {xs ys : List α} {k : Nat} {x y : α} (hx : xs[k]? = some x) (hy : ys[k]? = some y) (h : x ≠ y) : xs ≠ ys := by
  intro e; rw [e, hy] at hx; exact h (Option.some.inj hx).symm

theorem Blk.lt {w : World} {b : Nat} {cs : Array Value} {t : TypeId} (h : Blk w b cs t) : b < w.heap.size := by
  unfold Blk at h; exact (Array.getElem?_eq_some_iff.1 h).1
theorem Blk.next {w w' : World} {b : Nat} {cs : Array Value} {t : TypeId} (h : Blk w b cs t) (hb : Below w.heap.size w w') : Blk w' b cs t := h.below hb h.lt
theorem cell_next {w w' : World} {a : Addr} {v : Value} (hb : Below w.heap.size w w') (h : w.cell? a = some v) : w'.cell? a = some v := by
  refine (hb.cell (p := a) ?_).trans h
  unfold World.cell? at h
  split at h
  · rename_i heq; exact (Array.getElem?_eq_some_iff.1 heq).1
  · cases h

theorem agg_of_cells {v : Value} {cs : List Value} (h : v.cells.toList = cs) (hl : cs.length ≠ 1) : v = .agg cs.toArray := by
  subst h
  cases v <;> first | (exfalso; exact hl rfl) | rfl
theorem Blk.same_on {w w' : World} {b : Nat} {cs : Array Value} {t : TypeId} (h : Blk w b cs t) (hs : SameOn All w w') : Blk w' b cs t :=
  (hs.2 b trivial (by unfold Blk at h; exact (Array.getElem?_eq_some_iff.1 h).1)).trans h

end Go.Proofs.YtoknolophmhlgaaGreatDoor
