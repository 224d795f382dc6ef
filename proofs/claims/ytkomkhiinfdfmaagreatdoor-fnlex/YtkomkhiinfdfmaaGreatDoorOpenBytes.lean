/-
  A law's argument that is a list of bytes, opened.
-/
import Derived.Test.YtkomkhiinfdfmaaGreatDoorDrawA
import Derived.OpenShut
namespace Go.Proofs.YtkomkhiinfdfmaaGreatDoor
open Go.ChangeShapes Go.WideShapes Go.ChangeAt Go.RowKit
set_option linter.unusedVariables false

theorem open_u8 {H : Type} {enc : TypeId × Value → H} {P : Program} {w : World} {base : Nat} {sp : Nat → Bool} {held : Bool} {t : TypeId} {fuel : Nat} {cs : List Value} {x : DataW H × List MemPlace} (ht : P.underlying t = some (.int .u8)) (h : DataW.trod enc P w base sp held fuel t cs = some x) : ∃ n : Nat, HByte cs n := by
  obtain ⟨n, hn, hw⟩ : ∃ n, cs = [Value.int .u8 n] ∧ (Lit.int .u8 n).wf = true := by
    cases fuel with
    | zero => simp [DataW.trod] at h
    | succ fuel =>
      unfold DataW.trod at h
      simp only [ht] at h
      split at h
      all_goals try (rename_i heq _; cases heq; done)
      all_goals try (rename_i heq; cases heq; done)
      all_goals try (cases h; done)
      · rename_i k k' n heq
        split at h
        · rename_i hk
          cases heq
          obtain ⟨rfl, hw⟩ := hk
          exact ⟨n, rfl, hw⟩
        · cases h
  have hb : 0 ≤ n ∧ n ≤ 255 := by
    simp [Lit.wf, IntKind.min, IntKind.max, IntKind.signed, IntKind.bits] at hw
    omega
  obtain ⟨m, rfl⟩ := Int.eq_ofNat_of_zero_le hb.1
  exact ⟨m, hn, by omega⟩
theorem open_bytes {H : Type} {enc : TypeId × Value → H} {P : Program} {w : World} {base : Nat} {sp : Nat → Bool} {held : Bool} {tB tBs : TypeId} (hBs : P.underlying tBs = some (.slice tB)) (hcB : P.cellsOf tB = 1) (hB : P.underlying tB = some (.int .u8)) {v : Value} {dd : DataW H} {ps : List MemPlace} (hc : v.cells.toList = [v]) (h : DataW.Trod enc P w base sp held tBs v dd ps) :
    ∃ bs, Rows w All 1 HByte v bs := by
  obtain ⟨fuel, h⟩ := h
  cases fuel with
  | zero => simp [DataW.trod] at h
  | succ fuel =>
    obtain ⟨v', xs, hv, hr⟩ := open_rows (R := HByte) hBs hcB (by decide) (fun cs x hx => open_u8 hB hx) h
    rw [hc] at hv
    obtain rfl : v = v' := by simpa using hv
    exact ⟨xs, Rows.mono hr ⟨Nat.le_refl _, fun _ _ _ => rfl⟩ (fun _ _ => trivial) (fun _ _ _ h => h)⟩
end Go.Proofs.YtkomkhiinfdfmaaGreatDoor
