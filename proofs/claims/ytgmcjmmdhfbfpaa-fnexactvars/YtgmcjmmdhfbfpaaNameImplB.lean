/-
  The program's names.ascending, by contract.
-/
import Derived.Test.YtgmcjmmdhfbfpaaNameImplA
import Derived.Test.YtgmcjmmdhfbfpaaRangeBound
import Derived.Test.YtgmcjmmdhfbfpaaIter
namespace Go.Proofs.Ytgmcjmmdhfbfpaa
open Go.ChangeShapes Go.WideShapes Go.ChangeAt Go.RowKit Go.Maps Go.WideMaps Go.Shelf Go.Sort
set_option linter.unusedVariables false
set_option maxRecDepth 100000
attribute [local go_sem] Oper.semAt_some

/-- The names of a map, ascending. -/
def keysL (K : List (List UInt8)) : List (List UInt8) := (strKeys (setD K)).mergeSort (fun x y => decide (x ≤ y))
structure SetOk (D : DataW Unit) : Prop where
  tidy : Tidy D
  keys : ∀ es, D = .map es → ∀ p ∈ es, ∃ x, p.1 = .string x
theorem put_ok {D : DataW Unit} (h : SetOk D) (x : List UInt8) : SetOk (D.put (.string x) (.agg [])) := by
  refine ⟨h.tidy.put (k := .string x) trivial _, fun es he p hp => ?_⟩
  obtain ⟨es0, rfl, hp0⟩ := h.tidy
  have he' : DataW.insert (Lit.string x, DataW.agg []) (es0.filter fun p => !p.1.sameKey (.string x)) = es := by simpa [DataW.put] using he
  rw [← he'] at hp
  have hp2 := ((insert_perm (Lit.string x, (DataW.agg [] : DataW Unit)) (es0.filter fun p => !p.1.sameKey (.string x))).mem_iff).1 hp
  rcases List.mem_cons.1 hp2 with rfl | hp2
  · exact ⟨x, rfl⟩
  · exact h.keys es0 rfl p (List.mem_filter.1 hp2).1
theorem setD_from : ∀ (K : List (List UInt8)) (D : DataW Unit), SetOk D → SetOk (K.foldl (fun D x => D.put (.string x) (.agg [])) D) ∧ Maps.size (K.foldl (fun D x => D.put (.string x) (.agg [])) D) ≤ Maps.size D + K.length ∧
    ∀ z, has (K.foldl (fun D x => D.put (.string x) (.agg [])) D) (.string z) = true ↔ has D (.string z) = true ∨ z ∈ K
  | [], D, h => ⟨h, by simp, fun z => by simp⟩
  | x :: xs, D, h => by
    obtain ⟨h1, h2, h3⟩ := setD_from xs _ (put_ok h x)
    refine ⟨h1, ?_, fun z => ?_⟩
    · have := size_put (k := .string x) h.tidy (.agg [])
      have h4 : Maps.size (D.put (.string x) (.agg [])) ≤ Maps.size D + 1 := by rw [this]; split <;> omega
      simp only [List.foldl_cons, List.length_cons]
      omega
    · rw [List.foldl_cons, h3 z]
      by_cases hz : z = x
      · subst hz
        have hm : IsMap D := by obtain ⟨es, rfl, _⟩ := h.tidy; exact ⟨es, rfl⟩
        simp [has_put_same hm (k := Lit.string z) trivial]
      · rw [has_put_other (by intro e; cases e; exact hz rfl)]
        simp [hz]
theorem setD_ok (K : List (List UInt8)) : SetOk (setD K) ∧ Maps.size (setD K) ≤ K.length ∧ ∀ z, has (setD K) (.string z) = true ↔ z ∈ K := by
  obtain ⟨h1, h2, h3⟩ := setD_from K (.map []) ⟨⟨[], rfl, List.Pairwise.nil⟩, fun es he p hp => by cases he; cases hp⟩
  refine ⟨h1, by (have h4 : Maps.size (DataW.map ([] : List (Lit × DataW Unit))) = 0 := rfl; rw [h4] at h2; unfold setD; omega), fun z => (h3 z).trans ?_⟩
  simp [has_eq]
theorem setD_size (K : List (List UInt8)) : Maps.size (setD K) ≤ K.length := (setD_ok K).2.1
/-- The keys are just the names, each once. -/
theorem setD_perm (K ss : List (List UInt8)) (hnd : ss.Nodup) (hm : ∀ x, x ∈ ss ↔ x ∈ K) : ss.Perm (strKeys (setD K)) := by
  obtain ⟨h1, -, h3⟩ := setD_ok K
  obtain ⟨es, he, hp⟩ := h1.tidy
  have hk := h1.keys es he
  rw [he] at h3 ⊢
  exact perm_strKeys hp hk hnd (fun x => (hm x).trans (h3 x).symm)
theorem keysL_len (K : List (List UInt8)) : (keysL K).length ≤ K.length := by
  unfold keysL
  rw [List.length_mergeSort]
  have := setD_size K
  obtain ⟨es, he, hp⟩ := (setD_ok K).1.tidy
  rw [he] at this ⊢
  simpa [strKeys, Maps.size] using this
theorem srow {w : World} {B : Nat} {v : Value} {L : List (List UInt8)} {n : Nat} (hn : L.length = n) (h : w.ownsRow B 9 1 v n (L.map encStr)) :
    ∃ p cap, v = .slice p n cap ∧ (∀ a, p = some a → B ≤ a.block ∧ a.block < w.heap.size) ∧ ∀ k x, L[k]? = some x → ∃ b, p = some ⟨b, 0, none⟩ ∧ B ≤ b ∧ b < w.heap.size ∧ w.cell? ⟨b, k, none⟩ = some (encStr x) := by
  rcases h.2 with ⟨rfl, h0⟩ | ⟨g, cap, cur, rfl, hB, hg, hr⟩
  · refine ⟨none, 0, by rw [h0], fun a e => by (cases e), fun k x hx => ?_⟩
    have := (List.getElem?_eq_some_iff.1 hx).1
    omega
  · refine ⟨_, cap, rfl, fun a e => by (cases e; exact ⟨hB, (Array.getElem?_eq_some_iff.1 hg).1⟩), fun k x hx => ⟨g, rfl, hB, (Array.getElem?_eq_some_iff.1 hg).1, ?_⟩⟩
    have := (List.getElem?_eq_some_iff.1 hx).1
    rw [h.cellAt k (by omega)]
    simp [hx]

theorem blk_lt {A B : World} {b : Nat} (h : B.heap[b]? = A.heap[b]?) (hb : b < A.heap.size) : b < B.heap.size := by
  rw [Array.getElem?_eq_getElem hb] at h
  exact (Array.getElem?_eq_some_iff.1 h).1
def blkOf : Option Addr → Option Nat
  | some a => some a.block
  | none => none

set_option maxHeartbeats 4000000 in
theorem asc_in (l mb : Nat) (K : List (List UInt8)) (W0 : World) (hm : MapAt W0 mb K) (hK : K.length ≤ 4194304) (J : Option Nat → List (List UInt8) → World → Prop)
    (hJb : ∀ q s A B, J q s A → Below A.heap.size A B → J q s B) (hJn : ∀ s A B b, J none s A → Below A.heap.size A B → A.heap.size ≤ b → b < B.heap.size → J (some b) s B)
    (hY : ∀ q pre x W1, J q pre W1 → pre.length < (keysL K).length → YieldAt Fence.wide 5 Try.prog l #[encStr x] W1 fun e W' => e = .returned (.bool true) ∧ J q (pre ++ [x]) W' ∧ ∀ b, q = some b → b < W1.heap.size → W'.heap[b]? = W1.heap[b]?)
    (h0 : J none [] W0) :
    CallsIn Fence.wide 6 Try.prog 33 #[.map (some mb), .func (.yield l) #[] #[]] W0 fun e W' => (∃ v, e = .returned v) ∧ ∃ q, J q (keysL K) W' := by
  have hsz := setD_size K
  have hmax : Maps.size (setD K) ≤ maxLen := by unfold maxLen; omega
  have hbytes : Maps.size (setD K) * 16 ≤ 140737488355328 := by omega
  have hfK : Fence.wide.fn 38 := trivial
  have hfS : Fence.wide.fn 37 := trivial
  refine callsIn_of_wp Try.func33 rfl trivial ?_ rfl
  simp only [Try.ntmps33, List.size_toArray, List.length_cons, List.length_nil, Nat.reduceAdd, Nat.reduceSub, Array.replicate_succ, Array.replicate_zero, List.push_toArray, List.append_toArray, List.nil_append, List.cons_append]
  gi_wp2_with (first
    | (gi_at_call 38; refine (Try.maps_Keys_38 _ _).mono ?_; rintro e w' ⟨rfl, rfl⟩)
    | (gi_at_call 37; refine (Try.slices_Sorted_keys_37_38 mb K.length (setD K) setR W0 hm hmax hbytes).mono ?_; rintro e w' ⟨v, ss, rfl, hS, hrow, hnil, hb⟩; obtain ⟨p, cap, rfl, hpb, hat⟩ := srow (by simp) hrow))
  have hL : (ss.mergeSort fun x y => decide (x ≤ y)) = keysL K := mergeSort_of_perm hS
  rw [hL] at hat
  have hn : ss.length = (keysL K).length := by rw [← hL, List.length_mergeSort]
  have hBW : Below W0.heap.size W0 w' := ((Below.refl _ W0).alloc (Nat.le_refl _) _).trans (hb.mono (by simp))
  have hJ1 : J (blkOf p) [] w' := by
    cases p with
    | none => exact hJb _ _ _ _ h0 hBW
    | some a => exact hJn _ _ _ a.block h0 hBW (by have := (hpb a rfl).1; simp at this; omega) (hpb a rfl).2
  have HKL : Hid ((keysL K).length ≤ K.length) := keysL_len K
  have HAT : Hid (∀ k x, (keysL K)[k]? = some x → ∃ b, p = some ⟨b, 0, none⟩ ∧ b < w'.heap.size ∧ w'.cell? ⟨b, k, none⟩ = some (encStr x)) := fun k x hx => by
    obtain ⟨b, e1, e2, e3, e4⟩ := hat k x hx
    exact ⟨b, e1, e3, e4⟩
  have HPB : Hid (∀ b, blkOf p = some b → b < w'.heap.size) := fun b e => by
    cases p with
    | none => cases e
    | some a => cases e; exact (hpb a rfl).2
  clear hat hpb hnil hrow hL hS hb hBW h0 hm hmax hbytes hsz
  generalize ss.length = n at *
  have HN : Hid (n = (keysL K).length) := hn
  have hnb : n ≤ 9223372036854775807 := by have := HKL.out; omega
  clear hn
  gi_loopw [10] (fun iv wr => ∃ k : Nat, k ≤ n ∧ iv = .int .i64 k ∧ Hid (J (blkOf p) ((keysL K).take k) wr) ∧ Hid (∀ b, blkOf p = some b → b < wr.heap.size ∧ wr.heap[b]? = w'.heap[b]?)) (fun iv _ => n - (intOf iv).toNat)
  case atStart => exact ⟨0, Nat.zero_le _, rfl, hJ1, fun b e => ⟨HPB.out b e, rfl⟩⟩
  case round =>
    obtain ⟨k, hk, rfl, HJ, HB⟩ := hrel
    by_cases hlt : k < n
    · obtain ⟨x, hx⟩ : ∃ x, (keysL K)[k]? = some x := ⟨(keysL K)[k]'(by rw [← HN.out]; exact hlt), List.getElem?_eq_getElem _⟩
      obtain ⟨b, rfl, hbl, hc0⟩ := HAT.out k x hx
      have hc := (World.cell?_of_block (a := ⟨b, k, none⟩) (HB.out b rfl).2).trans hc0
      have HT : Hid ((keysL K).take (k + 1) = (keysL K).take k ++ [x]) := by show _ = _; rw [List.take_add_one, hx]; rfl
      obtain ⟨fn, tmps, assign, body, hy, hR⟩ := hY _ _ x wr HJ.out (by rw [List.length_take, ← HN.out]; omega)
      have hki : (k : Int) < (n : Int) := by omega
      have hk0 : (0 : Int) ≤ (k : Int) := by omega
      clear hc0
      gi_wp2
      refine hR.mono ?_
      rintro e W3 ⟨rfl, hJ3, hk3⟩
      gi_wp2
      go_roundw
      case rel => exact ⟨k + 1, by omega, by go_num, by show J _ _ _; rw [HT.out]; exact hJ3, fun b' e => by cases e; exact ⟨blk_lt (hk3 b rfl (HB.out b rfl).1) (HB.out b rfl).1, (hk3 b rfl (HB.out b rfl).1).trans (HB.out b rfl).2⟩⟩
      case measure => simp [intOf]; omega
    · have HS : J (blkOf p) (keysL K) wr := by
        have := HJ.out
        rwa [List.take_of_length_le (by rw [← HN.out]; omega)] at this
      gi_wp2
      go_end0
      exact ⟨⟨_, rfl⟩, _, HS⟩
end Go.Proofs.Ytgmcjmmdhfbfpaa
