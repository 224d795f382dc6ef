/-
  What the laws' own heldTokenS answers of a list of words that bears its marks.
-/
import Derived.Test.YtijmppcfbdoocaaDoorToks
namespace Go.Proofs.YtijmppcfbdoocaaDoor
open Go.ChangeShapes Go.WideShapes Go.ChangeAt Go.RowKit
set_option linter.unusedVariables false

theorem markToks_get (k n i : Nat) (h : i < (markToks k n).length) : (markToks k n)[i] = markTok (k + 4 * i) := by simp [markToks]

set_option maxHeartbeats 4000000 in
theorem heldTokenS_own (B g n cap k0 : Nat) (w : World) (hn : n ≤ 4194304) (hcap : n ≤ cap) (hk : 1 ≤ k0) (hk' : k0 ≤ 4194304) (h : w.ownsRow B 33 4 (.slice (some ⟨g, 0, none⟩) n cap) n (toksC (markToks k0 n))) :
    Calls Tryd.prog 13 #[.slice (some ⟨g, 0, none⟩) n cap, .int .i64 k0] w fun e w' => e = .returned (.int .i64 ((k0 + 4 * n : Nat) : Int)) ∧ Below w.heap.size w w' := by
  have H : Hid (w.ownsRow B 33 4 (.slice (some ⟨g, 0, none⟩) n cap) n (toksC (markToks k0 n))) := h
  have hgl : g < w.heap.size := (h.lt g rfl).2
  clear h
  go_enter Tryd.func13, Tryd.ntmps13
  go_wp2
  go_loopw [1, 5] (fun kv iv wr => ∃ i kk : Nat, i ≤ n ∧ iv = .int .i64 i ∧ kv = .int .i64 kk ∧ Hid (kk = k0 + 4 * i) ∧ Below w.heap.size w wr) (fun _ iv _ => n - (intOf iv).toNat)
  case atStart => exact ⟨0, k0, Nat.zero_le _, rfl, rfl, rfl, Below.refl _ _⟩
  case round =>
    obtain ⟨i, kk, hi, rfl, rfl, hkk, hb⟩ := hrel
    have hkb : 1 ≤ kk ∧ kk ≤ 33554432 := by have := hkk.out; omega
    have HB : Hid (Below w.heap.size w wr) := hb
    have hgl' : g < wr.heap.size := Nat.lt_of_lt_of_le hgl hb.size
    by_cases hlt : i < n
    · obtain ⟨a0, a1, a2, a3⟩ := own_toks H.out i (by rw [markToks_length]; exact hlt)
      rw [markToks_get, ← hkk.out] at a0 a1 a2 a3
      simp only [markTok] at a0 a1 a2 a3
      rw [← hb.cell (p := ⟨g, _, none⟩) hgl] at a0 a1 a2 a3
      clear hb
      go_wp2
      go_region_with ((go_at_call 28; refine (markText_of _ (kk + 1) (by omega) _ (by omega) (by omega)).mono ?_; rintro e w1 ⟨rfl, hb1⟩; have d1 := (hb1.cell (p := ⟨g, i * 4 + 1, none⟩) (by simpa using hgl')).trans a1; have d2 := (hb1.cell (p := ⟨g, i * 4 + 2, none⟩) (by simpa using hgl')).trans a2; have d3 := (hb1.cell (p := ⟨g, i * 4 + 3, none⟩) (by simpa using hgl')).trans a3; have HB1 : Hid _ := hb1; clear hb1))
      all_goals go_wp2
      all_goals
        have hbe : Below w.heap.size w w1 := by
          refine Below.trans ?_ (HB1.out.mono (by exact HB.out.size))
          repeat (first | exact HB.out | apply Below.drew)
        exact ⟨⟨i + 1, kk + 4, by omega, by go_num, by go_num, (by have := hkk.out; show kk + 4 = k0 + 4 * (i + 1); omega), hbe⟩, by simp [intOf]; omega⟩
    · have HK : Hid (kk = k0 + 4 * n) := by have := hkk.out; show kk = k0 + 4 * n; omega
      clear hb
      go_wp2
      go_ret
      exact ⟨by rw [HK.out]; rfl, HB.out⟩
end Go.Proofs.YtijmppcfbdoocaaDoor
