/-
  A law's argument that is a list of texts: opened; the laws' szStringS and toStringS, by contract.
-/
import Derived.Test.YtompbdecdaaldaaDoorOwnStr
import Derived.OpenShut
namespace Go.Proofs.YtompbdecdaaldaaDoor
open Go.ChangeShapes Go.WideShapes Go.ChangeAt Go.RowKit
set_option linter.unusedVariables false
set_option maxRecDepth 100000

theorem open_s1 {H : Type} {enc : TypeId × Value → H} {P : Program} {w : World} {base : Nat} {sp : Nat → Bool} {held : Bool} {t : TypeId} {fuel : Nat} {cs : List Value} {x : DataW H × List MemPlace} (ht : P.underlying t = some .string) (h : DataW.trod enc P w base sp held fuel t cs = some x) : ∃ s, HStr cs s := by
  cases fuel with
  | zero => simp [DataW.trod] at h
  | succ fuel =>
    unfold DataW.trod at h
    simp only [ht] at h
    split at h
    all_goals try (rename_i heq _; cases heq; done)
    all_goals try (rename_i heq; cases heq; done)
    all_goals try (cases h; done)
    · rename_i s heq
      split at h
      · rename_i hk
        exact ⟨s, rfl, hk⟩
      · cases h
theorem open_strs {H : Type} {enc : TypeId × Value → H} {P : Program} {w : World} {base : Nat} {sp : Nat → Bool} {held : Bool} {tS tSs : TypeId} (hSs : P.underlying tSs = some (.slice tS)) (hcS : P.cellsOf tS = 1) (hS : P.underlying tS = some .string) {v : Value} {dd : DataW H} {ps : List MemPlace} (hc : v.cells.toList = [v]) (h : DataW.Trod enc P w base sp held tSs v dd ps) :
    ∃ xs, StrR w v xs := by
  obtain ⟨fuel, h⟩ := h
  cases fuel with
  | zero => simp [DataW.trod] at h
  | succ fuel =>
    obtain ⟨v', xs, hv, hr⟩ := open_rows (R := HStr) hSs hcS (by decide) (fun cs x hx => open_s1 hS hx) h
    rw [hc] at hv
    obtain rfl : v = v' := by simpa using hv
    exact ⟨xs, Rows.mono hr ⟨Nat.le_refl _, fun _ _ _ => rfl⟩ (fun _ _ => trivial) (fun _ _ _ h => h)⟩

/-- How great a list of texts is. -/
def wtSs (U : List ByteArray) : Nat := wtS ByteArray.size U

set_option maxHeartbeats 1000000 in
theorem szStrings_any (w : World) (v : Value) (U : List ByteArray) (left : Nat) (h : StrR w v U) (hl : left ≤ 1048576) :
    Calls Tryd.prog 4 #[v, .int .i64 left] w fun e w' => e = .returned (.int .i64 (leftOf left (wtSs U))) ∧ w' = w := by
  have OX := h.okS
  obtain ⟨p, cap, rfl, hcl, hcm, hx⟩ := h
  have hnb : U.length ≤ 9223372036854775807 := by unfold maxLen at hcm; omega
  have HW : Hid (wtSs U = U.length + (U.map ByteArray.size).sum) := rfl
  have HT : Hid (∀ k, ((U.take k).map ByteArray.size).sum ≤ (U.map ByteArray.size).sum) := fun k => sum_take_le _ _ _
  have HO : Hid (∀ x ∈ U, okS x) := OX
  have HX : Hid (U ≠ [] → ∃ g off, p = some ⟨g, off, none⟩ ∧ All g ∧ g < w.heap.size ∧ ∀ i x, U[i]? = some x → ∃ cs, cs.length = 1 ∧ (∀ j, j < 1 → w.cell? ⟨g, off + i * 1 + j, none⟩ = cs[j]?) ∧ HStr cs x) := hx
  clear hx OX
  by_cases hbig : left < U.length
  · have HR : Hid (leftOf left (wtSs U) = -1) := leftOf_lt (by rw [HW.out]; omega)
    have hlt : (left : Int) - (U.length : Int) < 0 := by omega
    generalize hn : U.length = n at *
    clear hn HW HT HO HX
    go_enter Tryd.func4, Tryd.ntmps4
    go_wp2
    go_ret
    exact ⟨by rw [HR.out]; rfl, rfl⟩
  · have hnl : ¬ (left : Int) - (U.length : Int) < 0 := by omega
    generalize hn : U.length = n at *
    have HN : Hid (U.length = n) := hn
    clear hn
    go_enter Tryd.func4, Tryd.ntmps4
    go_wp2
    go_loop [1, 5] (fun lv iv => ∃ k r : Nat, k ≤ n ∧ iv = .int .i64 k ∧ lv = .int .i64 r ∧ r ≤ left ∧ Hid (r + n + ((U.take k).map ByteArray.size).sum = left)) (fun _ iv => n - (intOf iv).toNat)
    case atStart => exact ⟨0, left - n, Nat.zero_le _, rfl, by go_num, by omega, by show _ = _; simp; omega⟩
    case round =>
      obtain ⟨k, r, hk, rfl, rfl, hrl, hr⟩ := hrel
      by_cases hlt : k < n
      · obtain ⟨x, hxk⟩ : ∃ x, U[k]? = some x := ⟨U[k]'(by rw [HN.out]; exact hlt), List.getElem?_eq_getElem _⟩
        obtain ⟨g, off, rfl, -, hgl, hat⟩ := HX.out (by intro h; rw [h] at hxk; simp at hxk)
        obtain ⟨cs, hcsl, hcs, rfl, -⟩ := hat k x hxk
        have a0 := hcs 0 (by omega)
        simp at a0
        have hki : (k : Int) < (n : Int) := by omega
        have hk0 : (0 : Int) ≤ (k : Int) := by omega
        have hsz : x.size ≤ maxLen := HO.out x (List.mem_of_getElem? hxk)
        unfold maxLen at hsz
        have HS : Hid (((U.take (k + 1)).map ByteArray.size).sum = ((U.take k).map ByteArray.size).sum + x.size) := sum_take_succ _ _ _ _ hxk
        clear hcs hat hcsl
        by_cases hlr : r < x.size
        · have hneg : (r : Int) - (x.size : Int) < 0 := by omega
          have HR : Hid (leftOf left (wtSs U) = -1) := leftOf_lt (by
            have h1 := HT.out (k + 1)
            have h2 := HS.out
            have h3 := hr.out
            have h4 := HN.out
            rw [HW.out]; omega)
          go_wp2
          go_ret
          exact ⟨by rw [HR.out]; rfl, rfl⟩
        · have hneg : ¬ (r : Int) - (x.size : Int) < 0 := by omega
          go_wp2
          go_round
          case rel => exact ⟨k + 1, r - x.size, by omega, by go_num, by go_num, by omega, by have h2 := HS.out; have h3 := hr.out; show _ = _; omega⟩
          case measure => simp [intOf]; omega
      · have HR : Hid (leftOf left (wtSs U) = (r : Int)) := by
          have h3 := hr.out
          have h4 := HN.out
          rw [List.take_of_length_le (by rw [HN.out]; omega)] at h3
          show _ = _
          rw [leftOf_ge (by rw [HW.out]; omega), HW.out]
          omega
        go_wp2
        go_ret
        exact ⟨by rw [HR.out]; rfl, rfl⟩

theorem strs_mix (U : List ByteArray) (k : Nat) (x : ByteArray) (h : U[k]? = some x) (M : List Value) (hM : k < M.length) : (strs (U.take k) ++ M.drop k).set k (.string x) = strs (U.take (k + 1)) ++ M.drop (k + 1) := by
  have hk : k < U.length := (List.getElem?_eq_some_iff.1 h).1
  have h1 : (strs (U.take k)).length = k := by rw [strs_length, List.length_take]; omega
  rw [List.set_append_right _ _ (by omega), h1, Nat.sub_self, List.drop_eq_getElem_cons hM, List.set_cons_zero, List.take_add_one, h, strs_append]
  simp [strs]
set_option maxHeartbeats 1000000 in
theorem toStrings_any (w : World) (v : Value) (U : List ByteArray) (h : StrR w v U) (hl : U.length ≤ 1048576) :
    Calls Tryd.prog 6 #[v] w fun e w' => ∃ u, e = .returned u ∧ OwnS w' w.heap.size u U ∧ Below w.heap.size w w' ∧ u.ownBlock = some w.heap.size := by
  obtain ⟨p, cap, rfl, hcl, hcm, hx⟩ := h
  have HX : Hid (U ≠ [] → ∃ g off, p = some ⟨g, off, none⟩ ∧ All g ∧ g < w.heap.size ∧ ∀ i x, U[i]? = some x → ∃ cs, cs.length = 1 ∧ (∀ j, j < 1 → w.cell? ⟨g, off + i * 1 + j, none⟩ = cs[j]?) ∧ HStr cs x) := hx
  generalize hn : U.length = n at *
  have HN : Hid (U.length = n) := hn
  clear hx hn
  obtain ⟨M, hM, hmk⟩ := make_row (c := 1) Tryd.underlying22 (by kernel_rfl) w n (by omega)
  rw [Nat.mul_one] at hM
  have B0 : Hid (Below w.heap.size w (w.alloc (.cells M 9))) := (Below.refl _ _).alloc (Nat.le_refl _) _
  have O0 : Hid ((w.alloc (.cells M 9)).ownsRow w.heap.size 9 1 (.slice (some ⟨w.heap.size, 0, none⟩) n n) n M.toList) :=
    ⟨by simp [hM], .inr ⟨w.heap.size, n, M, rfl, Nat.le_refl _, Blk.new (w := w) (cs := M) (t := 9), Nat.le_refl _, by unfold maxLen; omega, by simp [hM], by rw [Nat.mul_one, List.take_of_length_le (by simp [hM])]⟩⟩
  go_enter Tryd.func6, Tryd.ntmps6
  go_wp2_with fail
  go_loopw [4] (fun iv wr => ∃ k : Nat, k ≤ n ∧ iv = .int .i64 k ∧ Hid (wr.ownsRow w.heap.size 9 1 (.slice (some ⟨w.heap.size, 0, none⟩) n n) n (strs (U.take k) ++ M.toList.drop k)) ∧ Hid (Below w.heap.size w wr)) (fun iv _ => n - (intOf iv).toNat)
  case atStart => exact ⟨0, Nat.zero_le _, rfl, by show World.ownsRow _ _ _ _ _ _ _; simpa [strs] using O0.out, B0.out⟩
  case round =>
    obtain ⟨k, hk, rfl, ho, hb⟩ := hrel
    by_cases hlt : k < n
    · obtain ⟨x, hxk⟩ : ∃ x, U[k]? = some x := ⟨U[k]'(by rw [HN.out]; exact hlt), List.getElem?_eq_getElem _⟩
      obtain ⟨g, off, rfl, -, hgl, hat⟩ := HX.out (by intro h; rw [h] at hxk; simp at hxk)
      obtain ⟨cs, hcsl, hcs, rfl, -⟩ := hat k x hxk
      have a0 := hcs 0 (by omega)
      rw [← hb.out.cell (p := ⟨g, _, none⟩) hgl] at a0
      simp at a0
      have hki : (k : Int) < (n : Int) := by omega
      have hk0 : (0 : Int) ≤ (k : Int) := by omega
      have hfz := ho.out.frozenAt k
      have hlen : (strs (U.take k) ++ M.toList.drop k).length = n := by have := ho.out.1; omega
      obtain ⟨u, hcl'⟩ : ∃ u, wr.cell? ⟨w.heap.size, k, none⟩ = some u := ⟨_, (ho.out.cellAt k (by omega)).trans (List.getElem?_eq_getElem (by rw [hlen]; exact hlt))⟩
      have st := ho.out.stored k (.string x)
      rw [strs_mix U k x hxk M.toList (by simp [hM]; exact hlt)] at st
      have ST : Hid _ := st
      clear st hcs hat hcsl hlen
      go_wp2
      exact ⟨⟨k + 1, by omega, by go_num, ST.out.1, hb.out.trans (below_grownR ST.out.2 (Nat.le_refl _) hb.out.size)⟩, by simp [intOf]; omega⟩
    · have HE : Hid (strs (U.take k) ++ M.toList.drop k = strs U) := by
        show _ = _
        rw [List.take_of_length_le (by rw [HN.out]; omega), List.drop_eq_nil_of_le (by simp [hM]; omega), List.append_nil]
      go_wp2
      go_ret
      have h1 := ho.out
      rw [HE.out] at h1
      refine ⟨_, rfl, ⟨?_, hb.out.size⟩, hb.out, rfl⟩
      rw [HN.out]
      exact h1
end Go.Proofs.YtompbdecdaaldaaDoor
