/-
  What the laws' own markText answers: m and the decimal text of a number from 1 on. Condition: the number is one of 1 .. 2^40.
-/
import Derived.Test.YtafehfpjogbmfaaDoorRows
import Derived.WalkKit
import Derived.ProofKit
import Derived.OpenShut
import Derived.WalkSpells
import Derived.Lib.ItoaNum
import Derived.Laws.IdiomStrings
namespace Go.Proofs.YtafehfpjogbmfaaDoor
open Go.ChangeShapes Go.WideShapes Go.ChangeAt Go.RowKit
set_option linter.unusedVariables false

theorem ret_strM {a b : List UInt8} (h : a = b) : Ending.returned (.string ⟨a.toArray⟩) = .returned (.string ⟨b.toArray⟩) := by rw [h]

theorem mk_length_le : ∀ (k u : Nat), u < 10 ^ (k + 1) → (Lib.decDigits u).length ≤ k + 1
  | 0, u, h => by
    rw [Lib.decDigits, dif_pos (by simpa using h)]; simp
  | k + 1, u, h => by
    by_cases hu : u < 10
    · rw [Lib.decDigits, dif_pos hu]; simp
    · rw [Lib.decDigits, dif_neg hu, List.length_append]
      have := mk_length_le k (u / 10) (by rw [Nat.div_lt_iff_lt_mul (by omega)]; rw [Nat.pow_succ] at h; exact h)
      simp only [List.length_cons, List.length_nil]; omega
theorem mk_step (x : Nat) (l D : List UInt8) (h : Lib.decDigits x ++ l = D) :
    (x / 10 ≠ 0 → Lib.decDigits (x / 10) ++ ((48 + UInt8.ofNat (x % 10)) :: l) = D) ∧ (x / 10 = 0 → (48 + UInt8.ofNat (x % 10)) :: l = D) := by
  have e : ∀ m : Nat, (48 + UInt8.ofNat m) = UInt8.ofNat (48 + m) := fun m => (UInt8.ofNat_add 48 m).symm
  rw [e]
  refine ⟨fun h0 => ?_, fun h0 => ?_⟩
  · rw [Lib.decDigits, dif_neg (by omega)] at h
    rw [← h]; simp
  · rw [Lib.decDigits, dif_pos (by omega)] at h
    rw [← h, Nat.mod_eq_of_lt (by omega)]; rfl
theorem mk_cons (c : UInt8) (l : List UInt8) : ((⟨#[c]⟩ : ByteArray) ++ ⟨l.toArray⟩) = ⟨(c :: l).toArray⟩ := by
  apply ByteArray.ext; simp
theorem mk_conv (wr : World) (x : Nat) :
    Sem.run Tryd.prog (convert 52 9 (.slice (some ⟨wr.heap.size, 0, none⟩) 1 1)) (wr.alloc (.cells #[.int .u8 (48 + (x : Int) % 10)] 5)) =
      .ok (.string ⟨#[UInt8.ofNat (48 + x % 10)]⟩) (wr.alloc (.cells #[.int .u8 (48 + (x : Int) % 10)] 5)) := by
  refine Go.run_convert_bytes_back (P := Tryd.prog) _ _ _ 5 ⟨wr.heap.size, 0, none⟩ 1 [UInt8.ofNat (48 + x % 10)] Tryd.underlying52 Tryd.underlying5 Tryd.underlying9 ?_
  intro j hj
  simp only [List.length_cons, List.length_nil] at hj
  obtain rfl : j = 0 := by omega
  have e : (UInt8.ofNat (48 + x % 10)).toNat = 48 + x % 10 := by
    rw [UInt8.toNat_ofNat']; omega
  simp only [List.getElem_cons_zero, e]
  simp [Addr.add]

set_option maxHeartbeats 1000000 in
theorem markText_any (n : Nat) (w : World) (h0 : 1 ≤ n) (h1 : n ≤ 1099511627776) :
    Calls Tryd.prog 24 #[.int .i64 n] w fun e w' => e = .returned (.string ⟨(109 :: Lib.decDigits n).toArray⟩) ∧ Below w.heap.size w w' := by
  have hD : (Lib.decDigits n).length ≤ 13 := mk_length_le 12 n (by omega)
  have hz : ¬ n = 0 := by omega
  go_enter Tryd.func24, Tryd.ntmps24
  go_wp2
  go_loopw [0, 3] (fun m o wr => ∃ (x : Nat) (l : List UInt8), m = .int .i64 x ∧ o = .string ⟨l.toArray⟩ ∧ x ≤ n ∧ (x ≠ 0 → Lib.decDigits x ++ l = Lib.decDigits n) ∧ (x = 0 → l = Lib.decDigits n) ∧ Below w.heap.size w wr) (fun m _ _ => (intOf m).toNat)
  case atStart => exact ⟨n, [], rfl, rfl, Nat.le_refl _, fun _ => by simp, fun h => by omega, Below.refl _ _⟩
  case round =>
    obtain ⟨x, l, rfl, rfl, hx, hr1, hr2, hb⟩ := hrel
    have H1 : Hid (x ≠ 0 → Lib.decDigits x ++ l = Lib.decDigits n) := hr1
    have H2 : Hid (x = 0 → l = Lib.decDigits n) := hr2
    have HB : Hid (Below w.heap.size w wr) := hb
    clear hr1 hr2 hb
    by_cases hxz : 0 < x
    · have hcat := H1.out (by omega)
      have hll : l.length ≤ 20 := by have := congrArg List.length hcat; rw [List.length_append] at this; omega
      have HS : Hid _ := mk_step x l _ hcat
      have hcv := mk_conv wr x
      clear hcat H1 H2 hD
      go_wp2
      refine ⟨⟨x / 10, _, by go_num, by rw [mk_cons], by omega, HS.out.1, HS.out.2, HB.out.alloc HB.out.size _⟩, ?_⟩
      simp only [intOf]; omega
    · have hl : l = Lib.decDigits n := H2.out (by omega)
      have hll : l.length ≤ 20 := by rw [hl]; omega
      have HL : Hid (l = Lib.decDigits n) := hl
      clear hl hD
      go_wp2
      go_ret
      exact ⟨by rw [mk_cons]; exact ret_strM (by rw [HL.out]), HB.out⟩
end Go.Proofs.YtafehfpjogbmfaaDoor
