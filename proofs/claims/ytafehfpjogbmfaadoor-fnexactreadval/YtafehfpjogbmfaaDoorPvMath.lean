/-
  The mathematics of the program's reader of values: it reads from the text that is left, and answers as the specification's.
-/
import Derived.Test.YtafehfpjogbmfaaDoorRvMath2
import Derived.Test.YtafehfpjogbmfaaDoorValOkSpec
namespace Go.Proofs.YtafehfpjogbmfaaDoor
open Go.ChangeShapes Go.WideShapes Go.ChangeAt Go.RowKit
set_option linter.unusedVariables false
set_option maxRecDepth 100000

/-- The signs that end a name or a number. -/
def dlm : List UInt8 := [123, 125, 91, 93, 124, 44]
def ndB (c : UInt8) : Bool := !dlm.contains c
def wLen (l : List UInt8) : Nat := (l.takeWhile ndB).length
/-- The value of a word that is a name or a number. -/
def sgV (l : List UInt8) : Option Va :=
  if atomB (byteArr l) = true then some (.mk 1 0 (byteArr l) [])
  else if (decide (l.length ≤ 9 + minN l) && allDig (l.drop (minN l)) && (Lib.itoa (numV l) == l)) = true then some (.mk 0 (numV l) ⟨#[]⟩ []) else none
/-- The kids of a list's cell or of a tuple, one behind the other. -/
def pW (V : List UInt8 → Option (Va × List UInt8)) (k : Int) (b e : UInt8) : Nat → List Va → List UInt8 → Option (Va × List UInt8)
  | 0, _, _ => none
  | m + 1, acc, l =>
    match V l with
    | none => none
    | some (x, r) =>
      if r.take 1 = [e] then some (.mk k 0 ⟨#[]⟩ (acc ++ [x]), r.drop 1)
      else if r.take 1 = [b] then pW V k b e m (acc ++ [x]) (r.drop 1)
      else none
/-- The value that a text begins with, and what is left. -/
def pV (m : Nat) : Nat → List UInt8 → Option (Va × List UInt8)
  | 0, _ => none
  | d + 1, l =>
    if l.take 2 = [91, 93] then some (.mk 3 0 ⟨#[]⟩ [], l.drop 2)
    else if l.take 1 = [91] then pW (pV m d) 4 124 93 m [] (l.drop 1)
    else if l.take 1 = [123] then pW (pV m d) 2 44 125 m [] (l.drop 1)
    else match sgV (l.take (wLen l)) with
      | none => none
      | some x => some (x, l.drop (wLen l))

theorem take1 {l : List UInt8} {i : Nat} (h : i < l.length) : (l.drop i).take 1 = [l.getD i 0] := by
  rw [drop_cons l i h]; rfl
theorem take1_end {l : List UInt8} {i : Nat} {c : UInt8} (h : (l.drop i).take 1 = [c]) : i < l.length ∧ l.getD i 0 = c := by
  by_cases hi : i < l.length
  · rw [take1 hi] at h
    exact ⟨hi, by simpa using h⟩
  · rw [List.drop_eq_nil_of_le (by omega)] at h
    simp at h
theorem take2 {l : List UInt8} {i : Nat} {a b : UInt8} (h : (l.drop i).take 2 = [a, b]) : i + 1 < l.length ∧ l.getD i 0 = a ∧ l.getD (i + 1) 0 = b := by
  by_cases hi : i + 1 < l.length
  · rw [drop_cons l i (by omega), drop_cons l (i + 1) hi] at h
    simp at h
    exact ⟨hi, by simpa using h.1, by simpa using h.2⟩
  · have := congrArg List.length h
    simp at this
    omega
theorem take2_of {l : List UInt8} {i : Nat} (h : i + 1 < l.length) : (l.drop i).take 2 = [l.getD i 0, l.getD (i + 1) 0] := by
  rw [drop_cons l i (by omega), drop_cons l (i + 1) h]; rfl
theorem drop1 {l : List UInt8} {i : Nat} : (l.drop i).drop 1 = l.drop (i + 1) := by rw [List.drop_drop]

/-- What is good somewhere. -/
def OkV (x : Va) : Prop := ∃ D deep, vaOk D x deep = true
theorem OkV.kids {x y : Va} (h : OkV x) (hy : y ∈ x.kids) : OkV y := by
  obtain ⟨D, deep, h⟩ := h
  match D, h with
  | D + 1, h =>
    unfold vaOk at h
    simp only [Bool.and_eq_true, List.all_eq_true] at h
    exact ⟨D, deep - 1, h.1.2 y hy⟩
theorem OkV.pair {n : Int} {t : ByteArray} {ks : List Va} (h : OkV (.mk 4 n t ks)) : ks.length = 2 := by
  obtain ⟨D, deep, h⟩ := h
  match D, h with
  | D + 1, h =>
    unfold vaOk at h
    simp only [Bool.and_eq_true] at h
    have h2 : shapeB 4 t ks.length = true := h.2
    unfold shapeB at h2
    simpa using h2
theorem pW_kids {V : List UInt8 → Option (Va × List UInt8)} {k : Int} {b e : UInt8} : ∀ m acc l y r, pW V k b e m acc l = some (y, r) → ∃ ks, ks ≠ [] ∧ y = .mk k 0 ⟨#[]⟩ (acc ++ ks)
  | 0, _, _, _, _, h => by simp [pW] at h
  | m + 1, acc, l, y, r, h => by
    unfold pW at h
    cases hv : V l with
    | none => rw [hv] at h; simp at h
    | some p =>
      obtain ⟨x, r1⟩ := p
      rw [hv] at h
      simp only at h
      by_cases h1 : r1.take 1 = [e]
      · rw [if_pos h1] at h
        simp only [Option.some.injEq, Prod.mk.injEq] at h
        exact ⟨[x], by simp, h.1.symm⟩
      · rw [if_neg h1] at h
        by_cases h2 : r1.take 1 = [b]
        · rw [if_pos h2] at h
          obtain ⟨ks, -, rfl⟩ := pW_kids m _ _ _ _ h
          exact ⟨x :: ks, by simp, by simp⟩
        · rw [if_neg h2] at h; simp at h

theorem dlm_mem {c : UInt8} : ndB c = false ↔ c ∈ dlm := by unfold ndB; simp
theorem nm_nd {c : UInt8} (h : nmB c = true) : ndB c = true := by
  cases hn : ndB c with
  | true => rfl
  | false =>
    have hm := dlm_mem.1 hn
    simp only [dlm, List.mem_cons, List.not_mem_nil, or_false] at hm
    rcases hm with rfl | rfl | rfl | rfl | rfl | rfl <;> exact absurd h (by decide)
theorem tw_more {p q : UInt8 → Bool} : ∀ l : List UInt8, (∀ c, p c = true → q c = true) → ((l.takeWhile p).length = l.length ∨ q (l.getD (l.takeWhile p).length 0) = false) → l.takeWhile q = l.takeWhile p
  | [], _, _ => rfl
  | c :: l, hpq, h => by
    cases hp : p c with
    | true =>
      rw [List.takeWhile_cons_of_pos hp, List.takeWhile_cons_of_pos (hpq c hp), tw_more l hpq (by rw [List.takeWhile_cons_of_pos hp] at h; simpa using h)]
    | false =>
      have e : (c :: l).takeWhile p = [] := List.takeWhile_cons_of_neg (by simp [hp])
      rw [e] at h ⊢
      rcases h with h | h
      · simp at h
      · exact List.takeWhile_cons_of_neg (by simpa using h)
theorem tw_less {p q : UInt8 → Bool} : ∀ l : List UInt8, (∀ c, p c = true → q c = true) → (∀ c ∈ l.takeWhile q, p c = true) → l.takeWhile q = l.takeWhile p
  | [], _, _ => rfl
  | c :: l, hpq, h => by
    cases hq : q c with
    | true =>
      rw [List.takeWhile_cons_of_pos hq] at h ⊢
      rw [List.takeWhile_cons_of_pos (h c (by simp)), tw_less l hpq (fun c hc => h c (by simp [hc]))]
    | false =>
      have hp : p c = false := by
        cases hp : p c with
        | true => exact absurd (hpq c hp) (by simp [hq])
        | false => rfl
      rw [List.takeWhile_cons_of_neg (by simp [hq]), List.takeWhile_cons_of_neg (by simp [hp])]
theorem take_tw {p : UInt8 → Bool} : ∀ l : List UInt8, l.take (l.takeWhile p).length = l.takeWhile p
  | [] => rfl
  | c :: l => by
    cases hp : p c with
    | true => rw [List.takeWhile_cons_of_pos hp]; simp [take_tw l]
    | false => rw [List.takeWhile_cons_of_neg (by simp [hp])]; rfl

theorem itoa_le9 {n : Int} (h0 : -999999999 ≤ n) (h1 : n ≤ 999999999) : (Lib.itoa n).length ≤ 9 + (if n < 0 then 1 else 0) := by
  by_cases hn : n < 0
  · rw [itoa_neg n hn, if_pos hn]
    have := decDigits_length_le 8 n.natAbs (by omega)
    simp; omega
  · rw [itoa_pos n (by omega), if_neg hn]
    have := decDigits_length_le 8 n.natAbs (by omega)
    omega
theorem sgV_plain {l : List UInt8} {x : Va} : sgV l = some x ↔ plainV l = (x, true) := by
  unfold sgV plainV
  by_cases ha : atomB (byteArr l) = true
  · rw [if_pos ha, if_pos ha]; simp
  · rw [if_neg ha, if_neg ha]
    cases hd : allDig (l.drop (minN l)) with
    | false => simp
    | true =>
      by_cases hi : Lib.itoa (numV l) = l
      · have hne : l ≠ [] := by
          intro h
          rw [h] at hi
          simp [numV, minB, valOf, Lib.itoa, Lib.decDigits] at hi
        have hm : minN l = 0 ∨ minN l = 1 := by unfold minN; split <;> simp
        by_cases hl : l.length ≤ 9 + minN l
        · have hv := valOf_bd 9 (l.drop (minN l)) (by simp; omega) hd
          have hin : inB (numV l) (-999999999) 999999999 = true := by
            refine decide_eq_true ?_
            have hp : (10 : Int) ^ 9 = 1000000000 := by decide
            rw [hp] at hv
            unfold numV
            unfold minN at hv
            by_cases hb : minB l = true
            · rw [if_pos hb] at hv ⊢; omega
            · rw [if_neg hb] at hv ⊢; simp only [List.drop_zero] at hv; omega
          have hc : ¬ (true = false ∨ (minN l < l.length ∧ 10 < l.length)) := by
            rintro (h | h)
            · cases h
            · omega
          rw [if_neg hc]
          simp [hl, hi, hne, hin]
        · have hin : inB (numV l) (-999999999) 999999999 = false := by
            refine decide_eq_false (fun h => hl ?_)
            have := itoa_le9 h.1 h.2
            rw [hi] at this
            unfold minN
            by_cases hb : minB l = true
            · rw [if_pos hb]; split at this <;> omega
            · rw [if_neg hb]
              have hnn : ¬ numV l < 0 := by
                unfold minN at hd
                unfold numV
                rw [if_neg hb] at hd ⊢
                have := (valOf_bd _ l (Nat.le_refl _) hd).1
                omega
              rw [if_neg hnn] at this
              omega
          by_cases hc : (true = false ∨ (minN l < l.length ∧ 10 < l.length))
          · rw [if_pos hc]; simp [hl]
          · rw [if_neg hc]; simp [hl, hin]
      · by_cases hc : (true = false ∨ (minN l < l.length ∧ 10 < l.length))
        · rw [if_pos hc]; simp [hi]
        · rw [if_neg hc]; simp [hi]

theorem sgV_nil : sgV [] = none := by
  cases h : sgV [] with
  | none => rfl
  | some x =>
    have h1 := sgV_plain.1 h
    have h2 := plainV_nil
    rw [h1] at h2
    cases h2
theorem sgV_nm {l : List UInt8} {x : Va} (h : sgV l = some x) : ∀ c ∈ l, nmB c = true := by
  intro c hc
  unfold sgV at h
  by_cases ha : atomB (byteArr l) = true
  · unfold atomB nameB allB byteArr at ha
    simp only [Bool.and_eq_true, List.all_eq_true] at ha
    have := ha.1.1.1 c (by simpa using hc)
    unfold nmB
    rw [this]; rfl
  · rw [if_neg ha] at h
    split at h
    · rename_i hq
      simp only [Bool.and_eq_true] at hq
      have hd := hq.1.2
      unfold minN at hd
      have hdig : ∀ c ∈ l.drop (minN l), nmB c = true := by
        intro c hc
        have := List.all_eq_true.1 hq.1.2 c hc
        unfold digB at this
        unfold nmB signB
        rw [this]
        simp
      match l, hc, hdig with
      | a :: l, hc, hdig =>
        unfold minN at hdig
        by_cases hb : minB (a :: l) = true
        · rw [if_pos hb] at hdig
          rcases List.mem_cons.1 hc with rfl | hc
          · unfold minB at hb
            simp at hb
            rw [hb]; decide
          · exact hdig c (by simpa using hc)
        · rw [if_neg hb] at hdig
          exact hdig c (by simpa using hc)
    · cases h

theorem pW_of {l : List UInt8} {V : Nat → Va × Int} {P : List UInt8 → Option (Va × List UInt8)} (hE : EndsV l.length V)
    (hA : ∀ i x e, i ≤ l.length → V i = (x, e) → 0 ≤ e → (e = l.length ∨ l.getD e.toNat 0 ∈ dlm) → P (l.drop i) = some (x, l.drop e.toNat)) :
    ∀ k acc i x e, i ≤ l.length → rvT l V k acc i = (x, e) → 0 ≤ e → pW P 2 44 125 k acc (l.drop i) = some (x, l.drop e.toNat)
  | 0, _, _, x, e, _, h, he => by
    unfold rvT at h
    simp only [Prod.mk.injEq] at h
    omega
  | k + 1, acc, i, x, e, hi, h, he => by
    unfold rvT at h
    unfold pW
    obtain ⟨x1, e1, hv⟩ : ∃ x1 e1, V i = (x1, e1) := ⟨_, _, rfl⟩
    rw [hv] at h
    simp only at h
    by_cases h1 : e1 < 0 ∨ (l.length : Int) ≤ e1 ∨ (l.getD e1.toNat 0 ≠ 44 ∧ l.getD e1.toNat 0 ≠ 125)
    · rw [if_pos h1] at h
      simp only [Prod.mk.injEq] at h
      omega
    · rw [if_neg h1] at h
      obtain ⟨n1, rfl⟩ : ∃ n1 : Nat, e1 = n1 := ⟨e1.toNat, by omega⟩
      simp only [Int.toNat_natCast] at h h1
      have hn1 : n1 < l.length := by omega
      have hc : l.getD n1 0 = 44 ∨ l.getD n1 0 = 125 := by
        by_cases a : l.getD n1 0 = 44
        · exact .inl a
        · by_cases b : l.getD n1 0 = 125
          · exact .inr b
          · exact absurd (.inr (.inr ⟨a, b⟩)) h1
      rw [hA i x1 n1 hi hv (by omega) (.inr (by rw [Int.toNat_natCast]; rcases hc with hc | hc <;> rw [hc] <;> decide))]
      simp only [Int.toNat_natCast]
      rw [take1 hn1, drop1]
      by_cases h2 : l.getD n1 0 = 125
      · rw [if_pos h2] at h
        rw [if_pos (by rw [h2])]
        simp only [Prod.mk.injEq] at h
        rw [← h.1, ← h.2]
        rfl
      · rw [if_neg h2] at h
        have h3 : l.getD n1 0 = 44 := by rcases hc with hc | hc; exact hc; exact absurd hc h2
        rw [if_neg (by rw [h3]; decide), if_pos (by rw [h3])]
        exact pW_of hE hA k _ _ _ _ (by omega) h he

theorem pV_of {l : List UInt8} : ∀ d i x e, i ≤ l.length → rvV l d i = (x, e) → 0 ≤ e → (e = l.length ∨ l.getD e.toNat 0 ∈ dlm) → pV (l.length + 1) d (l.drop i) = some (x, l.drop e.toNat)
  | 0, i, x, e, _, h, he, _ => by
    unfold rvV at h
    simp only [Prod.mk.injEq] at h
    omega
  | d + 1, i, x, e, hi, h, he, hd => by
    have IH := pV_of (l := l) d
    unfold rvV at h
    unfold pV
    by_cases h0 : ¬ i < l.length
    · rw [if_pos h0] at h
      simp only [Prod.mk.injEq] at h
      omega
    rw [if_neg h0] at h
    have h0 : i < l.length := Decidable.not_not.1 h0
    by_cases h1 : l.getD i 0 = 123
    · rw [if_pos h1] at h
      rw [if_neg (by intro h; have := (take2 h).2.1; rw [h1] at this; exact absurd this (by decide)), if_neg (by rw [take1 h0, h1]; decide), if_pos (by rw [take1 h0, h1]), drop1]
      exact pW_of (rvV_ends d) IH _ _ _ _ _ (by omega) h he
    rw [if_neg h1] at h
    by_cases h2 : l.getD i 0 = 91 ∧ i + 1 < l.length ∧ l.getD (i + 1) 0 = 93
    · rw [if_pos h2] at h
      simp only [Prod.mk.injEq] at h
      rw [if_pos (by rw [take2_of h2.2.1, h2.1, h2.2.2]), ← h.1, ← h.2, List.drop_drop]
      rfl
    rw [if_neg h2] at h
    have h2' : ¬ (l.drop i).take 2 = [91, 93] := fun h => h2 ⟨(take2 h).2.1, (take2 h).1, (take2 h).2.2⟩
    rw [if_neg h2']
    by_cases h3 : l.getD i 0 = 91
    · rw [if_pos h3] at h
      rw [if_pos (by rw [take1 h0, h3]), drop1]
      unfold rvC at h
      obtain ⟨x1, e1, hv⟩ : ∃ x1 e1, rvV l d (i + 1) = (x1, e1) := ⟨_, _, rfl⟩
      rw [hv] at h
      simp only at h
      by_cases c1 : e1 < 0 ∨ (l.length : Int) ≤ e1 ∨ l.getD e1.toNat 0 ≠ 124
      · rw [if_pos c1] at h
        simp only [Prod.mk.injEq] at h
        omega
      rw [if_neg c1] at h
      obtain ⟨n1, rfl⟩ : ∃ n1 : Nat, e1 = n1 := ⟨e1.toNat, by omega⟩
      simp only [Int.toNat_natCast] at h c1
      have hn1 : n1 < l.length := by omega
      have hc1 : l.getD n1 0 = 124 := Decidable.byContradiction (fun q => c1 (.inr (.inr q)))
      obtain ⟨x2, e2, hv2⟩ : ∃ x2 e2, rvV l d (n1 + 1) = (x2, e2) := ⟨_, _, rfl⟩
      rw [hv2] at h
      simp only at h
      by_cases c2 : e2 < 0 ∨ (l.length : Int) ≤ e2 ∨ l.getD e2.toNat 0 ≠ 93
      · rw [if_pos c2] at h
        simp only [Prod.mk.injEq] at h
        omega
      rw [if_neg c2] at h
      obtain ⟨n2, rfl⟩ : ∃ n2 : Nat, e2 = n2 := ⟨e2.toNat, by omega⟩
      simp only [Int.toNat_natCast, Prod.mk.injEq] at h c2
      have hn2 : n2 < l.length := by omega
      have hc2 : l.getD n2 0 = 93 := Decidable.byContradiction (fun q => c2 (.inr (.inr q)))
      obtain ⟨m, hm⟩ : ∃ m, l.length = m + 1 := ⟨l.length - 1, by omega⟩
      have e1 := IH (i + 1) x1 n1 (by omega) hv (by omega) (.inr (by rw [Int.toNat_natCast, hc1]; decide))
      have e2 := IH (n1 + 1) x2 n2 (by omega) hv2 (by omega) (.inr (by rw [Int.toNat_natCast, hc2]; decide))
      rw [hm] at e1 e2
      rw [hm]
      unfold pW
      rw [e1]
      simp only [Int.toNat_natCast]
      rw [take1 hn1, hc1, drop1, if_neg (by decide), if_pos rfl]
      unfold pW
      rw [e2]
      simp only [Int.toNat_natCast]
      rw [take1 hn2, hc2, drop1, if_pos rfl, ← h.1, ← h.2]
      rfl
    · rw [if_neg h3] at h
      rw [if_neg (by rw [take1 h0]; intro q; exact h3 (by simpa using q)), if_neg (by rw [take1 h0]; intro q; exact h1 (by simpa using q))]
      by_cases h4 : (plainV (cut l i (runEnd nmB l i))).2 = true
      · rw [if_pos h4] at h
        simp only [Prod.mk.injEq] at h
        obtain ⟨hx, rfl⟩ := h
        have hlen : ((l.drop i).takeWhile nmB).length ≤ l.length - i := by
          have := (List.takeWhile_prefix nmB (l := l.drop i)).length_le
          simpa using this
        have htw : (l.drop i).takeWhile ndB = (l.drop i).takeWhile nmB := by
          refine tw_more _ (fun c => nm_nd) ?_
          unfold runEnd at hd
          rcases hd with hd | hd
          · left
            simp; omega
          · right
            rw [Int.toNat_natCast] at hd
            rw [List.getD_eq_getElem?_getD, List.getElem?_drop, ← List.getD_eq_getElem?_getD]
            exact dlm_mem.2 hd
        have hcut : cut l i (runEnd nmB l i) = (l.drop i).take (wLen (l.drop i)) := by
          unfold cut runEnd wLen
          rw [htw, show i + ((l.drop i).takeWhile nmB).length - i = ((l.drop i).takeWhile nmB).length by omega]
        have hsg : sgV ((l.drop i).take (wLen (l.drop i))) = some x := by
          refine sgV_plain.2 ?_
          rw [← hcut]
          exact Prod.ext hx h4
        rw [hsg]
        simp only [Int.toNat_natCast, List.drop_drop]
        unfold wLen runEnd
        rw [htw]
      · rw [if_neg h4] at h
        simp only [Prod.mk.injEq] at h
        omega

theorem rvT_of {l : List UInt8} {V : Nat → Va × Int} {P : List UInt8 → Option (Va × List UInt8)}
    (hB : ∀ i x r, i ≤ l.length → P (l.drop i) = some (x, r) → OkV x → ∃ e : Nat, e ≤ l.length ∧ V i = (x, (e : Int)) ∧ r = l.drop e) :
    ∀ k acc i x r, i ≤ l.length → pW P 2 44 125 k acc (l.drop i) = some (x, r) → OkV x → ∃ e : Nat, e ≤ l.length ∧ rvT l V k acc i = (x, (e : Int)) ∧ r = l.drop e
  | 0, _, _, _, _, _, h, _ => by simp [pW] at h
  | k + 1, acc, i, x, r, hi, h, ho => by
    unfold pW at h
    cases hp : P (l.drop i) with
    | none => rw [hp] at h; simp at h
    | some q =>
      obtain ⟨x1, r1⟩ := q
      rw [hp] at h
      simp only at h
      have kid : OkV x1 → ∃ e : Nat, e ≤ l.length ∧ V i = (x1, (e : Int)) ∧ r1 = l.drop e := hB i x1 r1 hi hp
      by_cases h1 : r1.take 1 = [125]
      · rw [if_pos h1] at h
        simp only [Option.some.injEq, Prod.mk.injEq] at h
        obtain ⟨n1, hn, hv, rfl⟩ := kid (ho.kids (by rw [← h.1]; simp [Va.kids]))
        obtain ⟨hlt, hg⟩ := take1_end h1
        refine ⟨n1 + 1, by omega, ?_, by rw [← h.2, drop1]⟩
        unfold rvT
        rw [hv]
        simp only [Int.toNat_natCast]
        rw [hg, if_neg (by simp; omega), if_pos rfl, ← h.1]
        rfl
      · rw [if_neg h1] at h
        by_cases h2 : r1.take 1 = [44]
        · rw [if_pos h2] at h
          obtain ⟨ks, -, hx⟩ := pW_kids _ _ _ _ _ h
          obtain ⟨n1, hn, hv, rfl⟩ := kid (ho.kids (by rw [hx]; simp [Va.kids]))
          obtain ⟨hlt, hg⟩ := take1_end h2
          rw [drop1] at h
          obtain ⟨e, he, hT, hr⟩ := rvT_of hB k _ _ _ _ (by omega) h ho
          refine ⟨e, he, ?_, hr⟩
          unfold rvT
          rw [hv]
          simp only [Int.toNat_natCast]
          rw [hg, if_neg (by simp; omega), if_neg (by decide)]
          exact hT
        · rw [if_neg h2] at h; simp at h

theorem rvV_of {l : List UInt8} : ∀ d i x r, i ≤ l.length → pV (l.length + 1) d (l.drop i) = some (x, r) → OkV x → ∃ e : Nat, e ≤ l.length ∧ rvV l d i = (x, (e : Int)) ∧ r = l.drop e
  | 0, _, _, _, _, h, _ => by simp [pV] at h
  | d + 1, i, x, r, hi, h, ho => by
    have IH := rvV_of (l := l) d
    unfold pV at h
    unfold rvV
    by_cases c0 : (l.drop i).take 2 = [91, 93]
    · rw [if_pos c0] at h
      obtain ⟨h1, h2, h3⟩ := take2 c0
      simp only [Option.some.injEq, Prod.mk.injEq] at h
      refine ⟨i + 2, by omega, ?_, by rw [← h.2, List.drop_drop]⟩
      rw [if_neg (by omega), if_neg (by rw [h2]; decide), if_pos ⟨h2, h1, h3⟩, ← h.1]
      rfl
    rw [if_neg c0] at h
    by_cases c1 : (l.drop i).take 1 = [91]
    · rw [if_pos c1, drop1] at h
      obtain ⟨hlt, hg⟩ := take1_end c1
      rw [if_neg (by omega), if_neg (by rw [hg]; decide), if_neg (fun q => c0 (by rw [take2_of q.2.1, q.1, q.2.2])), if_pos hg]
      obtain ⟨m, hm⟩ : ∃ m, l.length = m + 1 := ⟨l.length - 1, by omega⟩
      unfold pW at h
      cases hp : pV (l.length + 1) d (l.drop (i + 1)) with
      | none => rw [hp] at h; simp at h
      | some q =>
        obtain ⟨x1, r1⟩ := q
        rw [hp] at h
        simp only at h
        by_cases h1 : r1.take 1 = [93]
        · rw [if_pos h1] at h
          simp only [Option.some.injEq, Prod.mk.injEq] at h
          rw [← h.1] at ho
          have := ho.pair
          simp at this
        · rw [if_neg h1] at h
          by_cases h2 : r1.take 1 = [124]
          · rw [if_pos h2] at h
            rw [show pW (pV (l.length + 1) d) 4 124 93 l.length ([] ++ [x1]) (r1.drop 1) = pW (pV (l.length + 1) d) 4 124 93 (m + 1) ([] ++ [x1]) (r1.drop 1) by rw [hm]] at h
            obtain ⟨ks0, -, hx0⟩ := pW_kids _ _ _ _ _ h
            obtain ⟨n1, hn, hv, rfl⟩ := IH _ _ _ (by omega) hp (ho.kids (by rw [hx0]; simp [Va.kids]))
            obtain ⟨hlt1, hg1⟩ := take1_end h2
            rw [drop1] at h
            unfold pW at h
            cases hp2 : pV (l.length + 1) d (l.drop (n1 + 1)) with
            | none => rw [hp2] at h; simp at h
            | some q =>
              obtain ⟨x2, r2⟩ := q
              rw [hp2] at h
              simp only at h
              by_cases g1 : r2.take 1 = [93]
              · rw [if_pos g1] at h
                simp only [Option.some.injEq, Prod.mk.injEq] at h
                obtain ⟨n2, hn2, hv2, rfl⟩ := IH _ _ _ (by omega) hp2 (ho.kids (by rw [← h.1]; simp [Va.kids]))
                obtain ⟨hlt2, hg2⟩ := take1_end g1
                refine ⟨n2 + 1, by omega, ?_, by rw [← h.2, drop1]⟩
                unfold rvC
                rw [hv]
                simp only [Int.toNat_natCast]
                rw [if_neg (by rw [hg1]; rintro (h | h | h); omega; omega; exact h rfl), hv2]
                simp only [Int.toNat_natCast]
                rw [if_neg (by rw [hg2]; rintro (h | h | h); omega; omega; exact h rfl), ← h.1]
                rfl
              · rw [if_neg g1] at h
                by_cases g2 : r2.take 1 = [124]
                · rw [if_pos g2] at h
                  obtain ⟨ks, hks, hx⟩ := pW_kids _ _ _ _ _ h
                  rw [hx] at ho
                  have hp := ho.pair
                  have hz : ks.length ≠ 0 := fun q => hks (List.length_eq_zero_iff.1 q)
                  rw [List.length_append, List.length_append, List.length_append] at hp
                  simp only [List.length_cons, List.length_nil] at hp
                  omega
                · rw [if_neg g2] at h; simp at h
          · rw [if_neg h2] at h; simp at h
    rw [if_neg c1] at h
    by_cases c2 : (l.drop i).take 1 = [123]
    · rw [if_pos c2, drop1] at h
      obtain ⟨hlt, hg⟩ := take1_end c2
      rw [if_neg (by omega), if_pos hg]
      exact rvT_of IH _ _ _ _ _ (by omega) h ho
    rw [if_neg c2] at h
    cases hs : sgV ((l.drop i).take (wLen (l.drop i))) with
    | none => rw [hs] at h; simp at h
    | some y =>
      rw [hs] at h
      simp only [Option.some.injEq, Prod.mk.injEq] at h
      obtain ⟨rfl, rfl⟩ := h
      have hw : (l.drop i).take (wLen (l.drop i)) = (l.drop i).takeWhile ndB := take_tw _
      have hlt : i < l.length := by
        by_cases q : i < l.length
        · exact q
        · rw [List.drop_eq_nil_of_le (by omega)] at hs
          simp only [List.take_nil] at hs
          rw [sgV_nil] at hs
          cases hs
      have htw : (l.drop i).takeWhile ndB = (l.drop i).takeWhile nmB := tw_less _ (fun c => nm_nd) (by rw [← hw]; exact sgV_nm hs)
      have hlen : ((l.drop i).takeWhile nmB).length ≤ l.length - i := by
        have := (List.takeWhile_prefix nmB (l := l.drop i)).length_le
        simpa using this
      have hcut : cut l i (runEnd nmB l i) = (l.drop i).take (wLen (l.drop i)) := by
        unfold cut runEnd wLen
        rw [htw, show i + ((l.drop i).takeWhile nmB).length - i = ((l.drop i).takeWhile nmB).length by omega]
      have hpl := sgV_plain.1 hs
      refine ⟨runEnd nmB l i, runEnd_le nmB l i hi, ?_, ?_⟩
      · rw [if_neg (by omega), if_neg (fun q => c2 (by rw [take1 hlt, q])), if_neg (fun q => c1 (by rw [take1 hlt, q.1])), if_neg (fun q => c1 (by rw [take1 hlt, q])), hcut, hpl, if_pos rfl]
      · rw [List.drop_drop]
        unfold wLen runEnd
        rw [htw]

theorem pV_len {m : Nat} : ∀ d l x r, pV m d l = some (x, r) → r.length ≤ l.length
  | 0, _, _, _, h => by simp [pV] at h
  | d + 1, l, x, r, h => by
    have IH := pV_len (m := m) d
    have hW : ∀ k b e n acc l y r, pW (pV m d) k b e n acc l = some (y, r) → r.length ≤ l.length := by
      intro k b e n
      induction n with
      | zero => intro acc l y r h; simp [pW] at h
      | succ n ih =>
        intro acc l y r h
        unfold pW at h
        cases hv : pV m d l with
        | none => rw [hv] at h; simp at h
        | some q =>
          obtain ⟨x1, r1⟩ := q
          have h0 := IH _ _ _ hv
          rw [hv] at h
          simp only at h
          by_cases h1 : r1.take 1 = [e]
          · rw [if_pos h1] at h
            simp only [Option.some.injEq, Prod.mk.injEq] at h
            rw [← h.2]
            simp; omega
          · rw [if_neg h1] at h
            by_cases h2 : r1.take 1 = [b]
            · rw [if_pos h2] at h
              have := ih _ _ _ _ h
              simp at this
              omega
            · rw [if_neg h2] at h; simp at h
    unfold pV at h
    by_cases c0 : l.take 2 = [91, 93]
    · rw [if_pos c0] at h
      simp only [Option.some.injEq, Prod.mk.injEq] at h
      rw [← h.2]; simp
    rw [if_neg c0] at h
    by_cases c1 : l.take 1 = [91]
    · rw [if_pos c1] at h
      have := hW _ _ _ _ _ _ _ _ h
      simp at this
      omega
    rw [if_neg c1] at h
    by_cases c2 : l.take 1 = [123]
    · rw [if_pos c2] at h
      have := hW _ _ _ _ _ _ _ _ h
      simp at this
      omega
    rw [if_neg c2] at h
    cases hs : sgV (l.take (wLen l)) with
    | none => rw [hs] at h; simp at h
    | some y =>
      rw [hs] at h
      simp only [Option.some.injEq, Prod.mk.injEq] at h
      rw [← h.2]; simp
end Go.Proofs.YtafehfpjogbmfaaDoor
