/-
  The specification's l01Has, by contract: whether a text is among texts.
-/
import Derived.Test.YtompbdecdaaldaaDoorStrRow
namespace Go.Proofs.YtompbdecdaaldaaDoor
open Go.ChangeShapes Go.WideShapes Go.ChangeAt Go.RowKit
set_option linter.unusedVariables false

theorem anyT_succ' {α : Type} (f : α → Bool) (xs : List α) (k : Nat) (x : α) (h : xs[k]? = some x) (ht : (xs.take k).any f = false) (hx : f x = false) : (xs.take (k + 1)).any f = false := by
  rw [List.take_add_one, h, List.any_append, ht]; simp [hx]
theorem anyT_at' {α : Type} (f : α → Bool) (xs : List α) (k : Nat) (x : α) (h : xs[k]? = some x) (hx : f x = true) : xs.any f = true := by
  rw [List.any_eq_true]; exact ⟨x, List.mem_of_getElem? h, hx⟩

set_option maxHeartbeats 1000000 in
theorem hasS_any (w : World) (v : Value) (xs : List ByteArray) (s : ByteArray) (h : StrR w v xs) :
    Calls Tryd.prog 13 #[v, .string s] w fun e w' => e = .returned (.bool (hasS xs s)) ∧ w' = w := by
  have hv : hasS xs s = xs.any (fun x => x.toList == s.toList) := rfl
  rw [hv]
  clear hv
  obtain ⟨p, cap, rfl, hcl, hcm, hx⟩ := h
  have hnb : xs.length ≤ 9223372036854775807 := by unfold maxLen at hcm; omega
  generalize hn : xs.length = n at *
  have HN : Hid (xs.length = n) := hn
  have HX : Hid (xs ≠ [] → ∃ g off, p = some ⟨g, off, none⟩ ∧ All g ∧ g < w.heap.size ∧ ∀ i x, xs[i]? = some x → ∃ cs, cs.length = 1 ∧ (∀ j, j < 1 → w.cell? ⟨g, off + i * 1 + j, none⟩ = cs[j]?) ∧ HStr cs x) := hx
  clear hx hn
  go_enter Tryd.func13, Tryd.ntmps13
  go_wp2
  go_loop [5] (fun iv => ∃ k : Nat, k ≤ n ∧ iv = .int .i64 k ∧ Hid ((xs.take k).any (fun x => x.toList == s.toList) = false)) (fun iv => n - (intOf iv).toNat)
  case atStart => exact ⟨0, Nat.zero_le _, rfl, by show _ = _; simp⟩
  case round =>
    obtain ⟨k, hk, rfl, hno⟩ := hrel
    by_cases hlt : k < n
    · obtain ⟨x, hxk⟩ : ∃ x, xs[k]? = some x := ⟨xs[k]'(by rw [HN.out]; exact hlt), List.getElem?_eq_getElem _⟩
      obtain ⟨g, off, rfl, -, hgl, hat⟩ := HX.out (by intro h; rw [h] at hxk; simp at hxk)
      obtain ⟨cs, hcsl, hcs, rfl, -⟩ := hat k x hxk
      have a0 := hcs 0 (by omega)
      simp at a0
      have hki : (k : Int) < (n : Int) := by omega
      have hk0 : (0 : Int) ≤ (k : Int) := by omega
      clear hcs hat hcsl
      cases hq : (x.toList == s.toList) with
      | true =>
        have HS : Hid ((xs.any fun x => x.toList == s.toList) = true) := anyT_at' _ xs k x hxk hq
        go_wp2
        go_ret
        exact ⟨by rw [HS.out]; rfl, rfl⟩
      | false =>
        have HS : Hid ((xs.take (k + 1)).any (fun x => x.toList == s.toList) = false) := anyT_succ' _ xs k x hxk hno.out hq
        go_wp2
        go_round
        case rel => exact ⟨k + 1, by omega, by go_num, HS⟩
        case measure => simp [intOf]; omega
    · have HS : Hid ((xs.any fun x => x.toList == s.toList) = false) := by
        have := hno.out
        rwa [List.take_of_length_le (by rw [HN.out]; omega)] at this
      go_wp2
      go_ret
      exact ⟨by rw [HS.out]; rfl, rfl⟩

theorem one_str (W : World) (s : ByteArray) (g : Nat) (hg : g = W.heap.size) : ∀ j u, (strs [s])[j]? = some u → (W.alloc (.cells #[.string s] 9)).cell? ((⟨g, 0, none⟩ : Addr).add j) = some u := by
  subst hg
  intro j u h
  match j, h with
  | 0, h => simp [strs] at h; subst h; rw [Addr.add]; exact cell_new W _ _ 0 _ rfl

end Go.Proofs.YtompbdecdaaldaaDoor
