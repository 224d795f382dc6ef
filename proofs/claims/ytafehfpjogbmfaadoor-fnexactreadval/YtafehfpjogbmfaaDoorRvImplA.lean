/-
  The program's reader of values: a sign that is taken, and a number, by contract.
-/
import Derived.Test.YtafehfpjogbmfaaDoorPvMath
import Derived.Test.YtafehfpjogbmfaaDoorRvTree
import Derived.Test.YtafehfpjogbmfaaDoorOnly
import Derived.Test.YtafehfpjogbmfaaDoorImplDec
import Derived.Test.YtafehfpjogbmfaaDoorDigs
namespace Go.Proofs.YtafehfpjogbmfaaDoor
open Go.ChangeShapes Go.WideShapes Go.ChangeAt Go.RowKit
set_option linter.unusedVariables false
set_option linter.unusedSimpArgs false
set_option maxRecDepth 100000

/-- The reader: what is left of its text, and how many brackets are open. -/
def RB (w : World) (b : Nat) (l : List UInt8) (o : Int) : Prop := Blk w b #[.string (byteArr l), .int .i64 o] 34
theorem offOnlyV {b pb : Nat} {w w1 w' : World} (h : Off [pb] w w1) (ho : OnlyB b w1 w') (hb : w.heap.size ≤ b) : Off [pb] w w' :=
  ⟨ho.os.trans h.os, ho.tape.trans h.tape, ho.output.trans h.output, by rw [ho.size]; exact h.size, fun a ha hf => (ho.block a (by omega)).trans (h.block a ha hf)⟩
theorem offSelfV {b : Nat} {w w' : World} (ho : OnlyB b w w') : Off [b] w w' :=
  ⟨ho.os, ho.tape, ho.output, by rw [ho.size]; exact Nat.le_refl _, fun a ha hf => ho.block a (by simpa using hf)⟩
theorem blkOffV {pb b : Nat} {w w' : World} {cs : Array Value} {t : TypeId} (h : Blk w b cs t) (ho : Off [pb] w w') (hne : b ≠ pb) : Blk w' b cs t := (ho.block b h.lt (by simpa using hne)).trans h
theorem ovtOffV {pb : Nat} {w w' : World} {cs : List Value} {x : Va} {fp : List Nat} (h : OVT w cs x fp) (ho : Off [pb] w w') (hb : ∀ a ∈ fp, a ≠ pb) : OVT w' cs x fp :=
  OVT.keeps _ _ _ _ _ h (fun a ha => ho.block a (h.lt a ha) (by simpa using hb a ha))
theorem accept_any {b : Nat} {l : List UInt8} {o : Int} (sl : List UInt8) (w : World) (hB : RB w b l o) :
    Calls Tryd.prog 20 #[.pointer (some ⟨b, 0, none⟩), .string (byteArr sl)] w fun e w' => e = .returned (.bool (Lib.hasPrefix l sl)) ∧ RB w' b (Lib.trimPrefix l sl) o ∧ OnlyB b w w' := by
  have PC : Hid (Calls Tryd.prog 30 #[.string (byteArr l), .string (byteArr sl)] w fun e w' => e = .returned (.tuple #[.string (byteArr (Lib.trimPrefix l sl)), .bool (Lib.hasPrefix l sl)]) ∧ w' = w) := Tryd.strings_CutPrefix (byteArr l) (byteArr sl) w
  have HB : Hid (RB w b l o) := hB
  have c0 : w.cell? ⟨b, 0, none⟩ = some (.string (byteArr l)) := hB.cell 0 _ rfl
  have z0 := hB.frozen 0
  clear hB
  cases hp : Lib.hasPrefix l sl with
  | true =>
    rw [hp] at PC
    go_enter Tryd.func20, Tryd.ntmps20
    go_wp2_with (go_at_call 30; go_must (refine (PC.out).mono ?_; rintro e w' ⟨rfl, hw⟩; rw [hw]))
    go_ret
    exact ⟨rfl, HB.out.same rfl, OnlyB.set⟩
  | false =>
    rw [hp] at PC
    go_enter Tryd.func20, Tryd.ntmps20
    go_wp2_with (go_at_call 30; go_must (refine (PC.out).mono ?_; rintro e w' ⟨rfl, hw⟩; rw [hw]))
    go_ret
    refine ⟨rfl, ?_, rfl, rfl, rfl, rfl, fun _ _ => rfl⟩
    unfold Lib.trimPrefix
    rw [hp]
    exact HB.out

theorem okI_rng {x : Int} (h1 : -1000000000 ≤ x) (h2 : x ≤ 1000000000) : okI x := by
  unfold okI Lit.wf
  simp [IntKind.min, IntKind.max, IntKind.signed, IntKind.bits]
  omega
/-- Whether a word is a number. -/
def numOk (l : List UInt8) : Bool := decide (l.length ≤ 9 + minN l) && allDig (l.drop (minN l)) && (Lib.itoa (numV l) == l)
theorem pre_min {l : List UInt8} : Lib.hasPrefix l [45] = minB l := by
  unfold Lib.hasPrefix minB
  cases l with
  | nil => rfl
  | cons c l =>
    by_cases hc : c = 45
    · subst hc; simp
    · have : (45 == c) = false := beq_eq_false_iff_ne.2 (fun e => hc e.symm)
      simp [List.isPrefixOf, this, hc]
theorem trim_min {l : List UInt8} : Lib.trimPrefix l [45] = l.drop (minN l) := by
  unfold Lib.trimPrefix minN
  rw [pre_min]
  split <;> simp
theorem minNV_le {l : List UInt8} : minN l ≤ l.length := by
  unfold minN minB
  split
  · rename_i h
    simp only [Bool.and_eq_true, decide_eq_true_eq] at h
    omega
  · omega
set_option maxHeartbeats 4000000 in
theorem numberIn_any {l : List UInt8} (w : World) (hl : l.length ≤ 1048576) (hp : PowAt w) :
    Calls Tryd.prog 33 #[.string (byteArr l)] w fun e w' => ∃ n, e = .returned (.tuple #[.agg #[.int .i64 0, .int .i64 n, .string ⟨#[]⟩, .slice none 0 0], .bool (numOk l)]) ∧ Below w.heap.size w w' ∧ (numOk l = true → n = numV l ∧ okI n) := by
  have hll : (byteArr l).size = l.length := by simp [byteArr, ByteArray.size]
  obtain ⟨D, hD⟩ : ∃ D, D = l.drop (minN l) := ⟨_, rfl⟩
  have hDs : (byteArr D).size = D.length := by simp [byteArr, ByteArray.size]
  have hDl : D.length = l.length - minN l := by rw [hD]; simp
  have hml := minNV_le (l := l)
  obtain ⟨w1, hw1⟩ : ∃ w1, w1 = w.alloc (.cells #[.int .i64 0, .int .i64 0, .string ⟨#[]⟩, .slice none 0 0] 24) := ⟨_, rfl⟩
  have R1 : Hid (Blk w1 w.heap.size #[.int .i64 0, .int .i64 0, .string ⟨#[]⟩, .slice none 0 0] 24) := by show Blk _ _ _ _; rw [hw1]; exact Blk.new
  have B1 : Hid (Below w.heap.size w w1) := by show Below _ _ _; rw [hw1]; exact (Below.refl _ _).alloc (Nat.le_refl _) _
  have S1 : w.heap.size + 1 ≤ w1.heap.size := by rw [hw1, alloc_hs]; exact Nat.le_refl _
  have P1 : Hid (PowAt w1) := powAt_below hp B1.out
  have HW1 : Hid (w1 = w.alloc (.cells #[.int .i64 0, .int .i64 0, .string ⟨#[]⟩, .slice none 0 0] 24)) := hw1
  have PC : Hid (∀ w, Calls Tryd.prog 30 #[.string (byteArr l), .string ⟨#[45]⟩] w fun e w' => e = .returned (.tuple #[.string (byteArr D), .bool (minB l)]) ∧ w' = w) := by
    intro w
    have := Tryd.strings_CutPrefix (byteArr l) ⟨#[45]⟩ w
    rw [show (Lib.trimPrefix (byteArr l).data.toList (⟨#[45]⟩ : ByteArray).data.toList) = D from by rw [hD]; exact trim_min, show Lib.hasPrefix (byteArr l).data.toList (⟨#[45]⟩ : ByteArray).data.toList = minB l from pre_min] at this
    exact this
  have MD : Hid (∀ w, Calls Tryd.prog 48 #[.string (byteArr D), .func (.func 49) #[] #[]] w fun e w' => e = .returned (.bool (allDig D)) ∧ w' = w) := fun w => madeOf_digit (byteArr D) w (by unfold maxLen; omega)
  have HN : Hid (numOk l = (decide (D.length ≤ 9) && allDig D && (Lib.itoa (numV l) == l))) := by
    show _ = _
    unfold numOk
    rw [hD, show decide (l.length ≤ 9 + minN l) = decide ((l.drop (minN l)).length ≤ 9) from by rw [decide_eq_decide]; simp]
  have HV : Hid (numV l = if minB l = true then - valOf D else valOf D) := by
    show _ = _
    unfold numV
    rw [hD]
    unfold minN
    cases minB l <;> simp
  clear hw1 hp hD hDl hml
  have r0 : w1.cell? ⟨w.heap.size, 0, none⟩ = some (.int .i64 0) := R1.out.cell 0 _ rfl
  have rz0 := R1.out.frozen 0
  have r1 : w1.cell? ⟨w.heap.size, 1, none⟩ = some (.int .i64 0) := R1.out.cell 1 _ rfl
  have rz1 := R1.out.frozen 1
  have r2 : w1.cell? ⟨w.heap.size, 2, none⟩ = some (.string ⟨#[]⟩) := R1.out.cell 2 _ rfl
  have rz2 := R1.out.frozen 2
  have r3 : w1.cell? ⟨w.heap.size, 3, none⟩ = some (.slice none 0 0) := R1.out.cell 3 _ rfl
  have rz3 := R1.out.frozen 3
  have bad : ∀ c : Bool, numOk l = false → c = false → ∃ n, Ending.returned (.tuple #[.agg #[.int .i64 0, .int .i64 0, .string ⟨#[]⟩, .slice none 0 0], .bool false]) = Ending.returned (.tuple #[.agg #[.int .i64 0, .int .i64 n, .string ⟨#[]⟩, .slice none 0 0], .bool (numOk l)]) ∧ (numOk l = true → n = numV l ∧ okI n) := fun c h _ => ⟨0, by rw [h], fun k => by rw [h] at k; cases k⟩
  have BAD : Hid (numOk l = false → ∃ n, Ending.returned (.tuple #[.agg #[.int .i64 0, .int .i64 0, .string ⟨#[]⟩, .slice none 0 0], .bool false]) = Ending.returned (.tuple #[.agg #[.int .i64 0, .int .i64 n, .string ⟨#[]⟩, .slice none 0 0], .bool (numOk l)]) ∧ (numOk l = true → n = numV l ∧ okI n)) := fun h => bad false h rfl
  clear bad
  by_cases h9 : D.length ≤ 9
  · cases hd : allDig D with
    | false =>
      have HF : Hid (numOk l = false) := by show _ = _; rw [HN.out, hd]; simp
      rw [hd] at MD
      clear HN
      go_enter Tryd.func33, Tryd.ntmps33
      go_wp2_with (first
        | (rw [← HW1.out])
        | (go_at_call 30; go_must (refine (PC.out _).mono ?_; rintro e w' ⟨rfl, hw⟩; rw [hw]))
        | (go_at_call 48; go_must (refine (MD.out _).mono ?_; rintro e w' ⟨rfl, hw⟩; rw [hw])))
      have hon := st4_only (b := w.heap.size) (w := w1) (c0 := .int .i64 0) (c1 := .int .i64 0) (c2 := .string ⟨#[]⟩) (c3 := .slice none 0 0)
      have hbk := st4_blk R1.out (.int .i64 0) (.int .i64 0) (.string ⟨#[]⟩) (.slice none 0 0)
      have q0 := hbk.cell 0 _ rfl
      have q1 := hbk.cell 1 _ rfl
      have q2 := hbk.cell 2 _ rfl
      have q3 := hbk.cell 3 _ rfl
      refine bodyPost_ret (v := .tuple #[.agg #[.int .i64 0, .int .i64 0, .string ⟨#[]⟩, .slice none 0 0], .bool false]) (by simp [results, Tryd.results33, go_sem, q0, q1, q2, q3]) rfl ?_
      obtain ⟨n, h1, h2⟩ := BAD.out HF.out
      exact ⟨n, h1, belowOnly B1.out hon (Nat.le_refl _), h2⟩
    | true =>
      have hv := valOf_bd 9 D h9 hd
      have hp9 : (10 : Int) ^ 9 = 1000000000 := by decide
      rw [hp9] at hv
      obtain ⟨hv0, hv1⟩ := hv
      have DV : Hid (∀ w, Calls Tryd.prog 50 #[.string (byteArr D)] w fun e w' => e = .returned (.int .i64 (valOf D)) ∧ w' = w) := fun w => digitsValue_any (byteArr D) w (by rw [hDs]; exact h9) hd
      obtain ⟨n, hn⟩ : ∃ n, n = valOf D := ⟨_, rfl⟩
      rw [← hn] at DV hv0 hv1
      rw [hd] at MD
      have HN2 : Hid (∀ z, numV l = z → numOk l = (Lib.itoa z == l)) := by
        intro z hz
        rw [HN.out, hd, decide_eq_true h9, hz]
        rfl
      have HV2 : Hid (numV l = if minB l = true then - n else n) := by show _ = _; rw [hn]; exact HV.out
      have TL : (byteArr l).toList = l := by rw [Lib.toList_data]; rfl
      clear HN HV hn hp9
      cases hm : minB l with
      | true =>
        rw [hm] at PC HV2
        have HZ : Hid (numV l = -n) := by show _ = _; rw [HV2.out]; rfl
        have DT : Hid (∀ w, PowAt w → Calls Tryd.prog 51 #[.int .i64 (-n)] w fun e w' => e = .returned (.string ⟨(Lib.itoa (-n)).toArray⟩) ∧ Below w.heap.size w w') := fun w => implDecText_any (-n) w (by omega) (by omega)
        clear HV2
        clear r0 rz0 r1 rz1 r2 rz2 r3 rz3
        go_enter Tryd.func33, Tryd.ntmps33
        go_wp2_with (first
          | (rw [← HW1.out])
          | (go_at_call 30; go_must (refine (PC.out _).mono ?_; rintro e w' ⟨rfl, hw⟩; rw [hw]))
          | (go_at_call 48; go_must (refine (MD.out _).mono ?_; rintro e w' ⟨rfl, hw⟩; rw [hw]))
          | (go_at_call 50; go_must (refine (DV.out _).mono ?_; rintro e w' ⟨rfl, hw⟩; rw [hw]))
          | (go_at_call 51; go_must (refine (DT.out _ P1.out).mono ?_; rintro e w2 ⟨rfl, hb⟩; have R2 : Hid (Blk w2 w.heap.size #[.int .i64 0, .int .i64 0, .string ⟨#[]⟩, .slice none 0 0] 24) := R1.out.next hb; have B2 : Hid (Below w.heap.size w w2) := B1.out.trans (hb.mono (by omega)); clear hb; have r0 : w2.cell? ⟨w.heap.size, 0, none⟩ = some (.int .i64 0) := R2.out.cell 0 _ rfl; have rz0 := R2.out.frozen 0; have r1 : w2.cell? ⟨w.heap.size, 1, none⟩ = some (.int .i64 0) := R2.out.cell 1 _ rfl; have rz1 := R2.out.frozen 1; have r2 : w2.cell? ⟨w.heap.size, 2, none⟩ = some (.string ⟨#[]⟩) := R2.out.cell 2 _ rfl; have rz2 := R2.out.frozen 2; have r3 : w2.cell? ⟨w.heap.size, 3, none⟩ = some (.slice none 0 0) := R2.out.cell 3 _ rfl; have rz3 := R2.out.frozen 3)))
        have hon := st4_only (b := w.heap.size) (w := w2) (c0 := .int .i64 0) (c1 := .int .i64 (-n)) (c2 := .string ⟨#[]⟩) (c3 := .slice none 0 0)
        have hbk := st4_blk R2.out (.int .i64 0) (.int .i64 (-n)) (.string ⟨#[]⟩) (.slice none 0 0)
        have q0 := hbk.cell 0 _ rfl
        have q1 := hbk.cell 1 _ rfl
        have q2 := hbk.cell 2 _ rfl
        have q3 := hbk.cell 3 _ rfl
        refine bodyPost_ret (v := .tuple #[.agg #[.int .i64 0, .int .i64 (-n), .string ⟨#[]⟩, .slice none 0 0], .bool (Lib.itoa (-n) == l)]) (by simp [results, Tryd.results33, go_sem, q0, q1, q2, q3]) rfl ?_
        exact ⟨-n, by rw [HN2.out _ HZ.out], belowOnly B2.out hon (Nat.le_refl _), fun _ => ⟨HZ.out.symm, okI_rng (by omega) (by omega)⟩⟩
      | false =>
        rw [hm] at PC HV2
        have HZ : Hid (numV l = n) := by show _ = _; rw [HV2.out]; rfl
        have DT : Hid (∀ w, PowAt w → Calls Tryd.prog 51 #[.int .i64 n] w fun e w' => e = .returned (.string ⟨(Lib.itoa n).toArray⟩) ∧ Below w.heap.size w w') := fun w => implDecText_any n w (by omega) (by omega)
        clear HV2
        clear r0 rz0 r1 rz1 r2 rz2 r3 rz3
        go_enter Tryd.func33, Tryd.ntmps33
        go_wp2_with (first
          | (rw [← HW1.out])
          | (go_at_call 30; go_must (refine (PC.out _).mono ?_; rintro e w' ⟨rfl, hw⟩; rw [hw]))
          | (go_at_call 48; go_must (refine (MD.out _).mono ?_; rintro e w' ⟨rfl, hw⟩; rw [hw]))
          | (go_at_call 50; go_must (refine (DV.out _).mono ?_; rintro e w' ⟨rfl, hw⟩; rw [hw]))
          | (go_at_call 51; go_must (refine (DT.out _ P1.out).mono ?_; rintro e w2 ⟨rfl, hb⟩; have R2 : Hid (Blk w2 w.heap.size #[.int .i64 0, .int .i64 0, .string ⟨#[]⟩, .slice none 0 0] 24) := R1.out.next hb; have B2 : Hid (Below w.heap.size w w2) := B1.out.trans (hb.mono (by omega)); clear hb; have r0 : w2.cell? ⟨w.heap.size, 0, none⟩ = some (.int .i64 0) := R2.out.cell 0 _ rfl; have rz0 := R2.out.frozen 0; have r1 : w2.cell? ⟨w.heap.size, 1, none⟩ = some (.int .i64 0) := R2.out.cell 1 _ rfl; have rz1 := R2.out.frozen 1; have r2 : w2.cell? ⟨w.heap.size, 2, none⟩ = some (.string ⟨#[]⟩) := R2.out.cell 2 _ rfl; have rz2 := R2.out.frozen 2; have r3 : w2.cell? ⟨w.heap.size, 3, none⟩ = some (.slice none 0 0) := R2.out.cell 3 _ rfl; have rz3 := R2.out.frozen 3)))
        have hon := st4_only (b := w.heap.size) (w := w2) (c0 := .int .i64 0) (c1 := .int .i64 (n)) (c2 := .string ⟨#[]⟩) (c3 := .slice none 0 0)
        have hbk := st4_blk R2.out (.int .i64 0) (.int .i64 (n)) (.string ⟨#[]⟩) (.slice none 0 0)
        have q0 := hbk.cell 0 _ rfl
        have q1 := hbk.cell 1 _ rfl
        have q2 := hbk.cell 2 _ rfl
        have q3 := hbk.cell 3 _ rfl
        refine bodyPost_ret (v := .tuple #[.agg #[.int .i64 0, .int .i64 (n), .string ⟨#[]⟩, .slice none 0 0], .bool (Lib.itoa (n) == l)]) (by simp [results, Tryd.results33, go_sem, q0, q1, q2, q3]) rfl ?_
        exact ⟨n, by rw [HN2.out _ HZ.out], belowOnly B2.out hon (Nat.le_refl _), fun _ => ⟨HZ.out.symm, okI_rng (by omega) (by omega)⟩⟩
  · have HF : Hid (numOk l = false) := by show _ = _; rw [HN.out, decide_eq_false h9]; rfl
    clear HN
    go_enter Tryd.func33, Tryd.ntmps33
    go_wp2_with (first
      | (rw [← HW1.out])
      | (go_at_call 30; go_must (refine (PC.out _).mono ?_; rintro e w' ⟨rfl, hw⟩; rw [hw])))
    have hon := st4_only (b := w.heap.size) (w := w1) (c0 := .int .i64 0) (c1 := .int .i64 0) (c2 := .string ⟨#[]⟩) (c3 := .slice none 0 0)
    have hbk := st4_blk R1.out (.int .i64 0) (.int .i64 0) (.string ⟨#[]⟩) (.slice none 0 0)
    have q0 := hbk.cell 0 _ rfl
    have q1 := hbk.cell 1 _ rfl
    have q2 := hbk.cell 2 _ rfl
    have q3 := hbk.cell 3 _ rfl
    refine bodyPost_ret (v := .tuple #[.agg #[.int .i64 0, .int .i64 0, .string ⟨#[]⟩, .slice none 0 0], .bool false]) (by simp [results, Tryd.results33, go_sem, q0, q1, q2, q3]) rfl ?_
    obtain ⟨n, h1, h2⟩ := BAD.out HF.out
    exact ⟨n, h1, belowOnly B1.out hon (Nat.le_refl _), h2⟩
end Go.Proofs.YtafehfpjogbmfaaDoor
