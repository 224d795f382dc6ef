/-
  The program's reader of values: a name or a number, by contract.
-/
import Derived.Test.YtafehfpjogbmfaaDoorRvImplA
import Derived.Test.YtafehfpjogbmfaaDoorIxAny
namespace Go.Proofs.YtafehfpjogbmfaaDoor
open Go.ChangeShapes Go.WideShapes Go.ChangeAt Go.RowKit
set_option linter.unusedVariables false
set_option linter.unusedSimpArgs false
set_option maxRecDepth 100000

theorem cellV_below {w w' : World} {a : Addr} {v : Value} (h : w.cell? a = some v) (hb : Below w.heap.size w w') : w'.cell? a = some v := by
  have hlt : a.block < w.heap.size := by
    unfold World.cell? at h
    cases hh : w.heap[a.block]? with
    | none => rw [hh] at h; cases h
    | some o => exact (Array.getElem?_eq_some_iff.1 hh).1
  exact (hb.cell hlt).trans h
theorem keysAt_below {w w' : World} (h : KeysAt w) (hb : Below w.heap.size w w') : KeysAt w' := ⟨cellV_below h.1 hb, cellV_below h.2.1 hb, cellV_below h.2.2 hb⟩
/-- What the program's tables hold, seen from whatever comes of a world. -/
def TabV (w0 w : World) : Prop := KeysAt w0 ∧ PowAt w0 ∧ Below w0.heap.size w0 w
theorem TabV.keys {w0 w : World} (h : TabV w0 w) : KeysAt w := keysAt_below h.1 h.2.2
theorem TabV.pow {w0 w : World} (h : TabV w0 w) : PowAt w := powAt_below h.2.1 h.2.2
theorem TabV.offed {w0 w w' : World} {b : Nat} (h : TabV w0 w) (ho : Off [b] w w') (hb : w0.heap.size ≤ b) : TabV w0 w' :=
  ⟨h.1, h.2.1, h.2.2.trans (ho.below (by simpa using hb) h.2.2.size)⟩
theorem okI0V : okI 0 := by show (Lit.int .i64 0).wf = true; rfl
theorem okI1V : okI 1 := by show (Lit.int .i64 1).wf = true; rfl
/-- What a reader of the program answers and leaves. -/
def PvGot (w : World) (b : Nat) (o : Int) (res : Option (Va × List UInt8)) (e : Ending) (w' : World) : Prop :=
  ∃ ck cn ct cp cl cq, e = .returned (.tuple #[.agg #[.int .i64 ck, .int .i64 cn, .string ct, .slice cp cl cq], .bool res.isSome]) ∧ Off [b] w w' ∧
    ∀ x r, res = some (x, r) → ∃ fp, OVT w' [.int .i64 ck, .int .i64 cn, .string ct, .slice cp cl cq] x fp ∧ fp.Nodup ∧ (∀ a ∈ fp, w.heap.size ≤ a ∧ a < w'.heap.size) ∧ RB w' b r o
theorem ixWl : ∀ l : List UInt8, (wLen l < l.length ∧ Lib.indexAny l dlB.data.toList = (wLen l : Nat)) ∨ (wLen l = l.length ∧ Lib.indexAny l dlB.data.toList = -1)
  | [] => .inr ⟨rfl, rfl⟩
  | c :: l => by
    have hd : dlB.data.toList.contains c = !ndB c := by unfold ndB; rw [Bool.not_not]; rfl
    unfold Lib.indexAny wLen
    rw [hd]
    cases hn : ndB c with
    | false =>
      left
      rw [List.takeWhile_cons_of_neg (by simp [hn])]
      simp
    | true =>
      rw [List.takeWhile_cons_of_pos hn]
      rcases ixWl l with ⟨h1, h2⟩ | ⟨h1, h2⟩
      · left
        unfold wLen at h1 h2
        rw [h2]
        refine ⟨by simp; omega, ?_⟩
        have h3 : ((((l.takeWhile ndB).length : Nat) : Int) == -1) = false := by simp
        simp [h3]
      · right
        unfold wLen at h1
        rw [h2]
        refine ⟨by simp; omega, ?_⟩
        simp
theorem cut_to {l : List UInt8} {k : Nat} : (byteArr l).extract 0 k = byteArr (l.take k) := by
  unfold byteArr
  apply ByteArray.ext
  simp [ByteArray.data_extract]
theorem cut_from {l : List UInt8} {k : Nat} (h : k ≤ l.length) : (byteArr l).extract k l.length = byteArr (l.drop k) := by
  unfold byteArr
  apply ByteArray.ext
  simp [ByteArray.data_extract]
  exact List.take_of_length_le (by simp)
set_option maxHeartbeats 4000000 in
theorem single_any {w0 : World} {b : Nat} {l : List UInt8} {o : Int} (w : World) (hT : TabV w0 w) (hB : RB w b l o) (hl : l.length ≤ 1048576) (hb0 : w0.heap.size ≤ b) :
    Calls Tryd.prog 22 #[.pointer (some ⟨b, 0, none⟩)] w (PvGot w b o (match sgV (l.take (wLen l)) with | none => none | some x => some (x, l.drop (wLen l)))) := by
  obtain ⟨RES, hRES⟩ : ∃ RES : Option (Va × List UInt8), RES = (match sgV (l.take (wLen l)) with | none => none | some x => some (x, l.drop (wLen l))) := ⟨_, rfl⟩
  rw [← hRES]
  have HRES : Hid (RES = (match sgV (l.take (wLen l)) with | none => none | some x => some (x, l.drop (wLen l)))) := hRES
  clear hRES
  have hll : (byteArr l).size = l.length := by simp [byteArr, ByteArray.size]
  have hblt : b < w.heap.size := hB.lt
  obtain ⟨w1, hw1⟩ : ∃ w1, w1 = w.alloc (.cells #[.int .i64 0, .int .i64 0, .string ⟨#[]⟩, .slice none 0 0] 24) := ⟨_, rfl⟩
  have S1 : w.heap.size + 1 ≤ w1.heap.size := by rw [hw1, alloc_hs]; exact Nat.le_refl _
  have K1 : Hid (Below w.heap.size w w1) := by show Below _ _ _; rw [hw1]; exact (Below.refl _ _).alloc (Nat.le_refl _) _
  have R1 : Hid (Blk w1 w.heap.size #[.int .i64 0, .int .i64 0, .string ⟨#[]⟩, .slice none 0 0] 24) := by show Blk _ _ _ _; rw [hw1]; exact Blk.new
  have RB1 : Hid (RB w1 b l o) := Blk.next hB K1.out
  have HW1 : Hid (w1 = w.alloc (.cells #[.int .i64 0, .int .i64 0, .string ⟨#[]⟩, .slice none 0 0] 24)) := hw1
  have HT : Hid (TabV w0 w) := hT
  have IX : Hid (Calls Tryd.prog 31 #[.string (byteArr l), .string ⟨#[123, 125, 91, 93, 124, 44]⟩] w1 fun e w' => e = .returned (.int .i64 (Lib.indexAny l dlB.data.toList)) ∧ Below w1.heap.size w1 w') := indexAny_any (byteArr l) w1 (by omega)
  obtain ⟨k, hk⟩ : ∃ k, k = wLen l := ⟨_, rfl⟩
  have hkl : k ≤ l.length := by
    rcases ixWl l with h | h <;> omega
  rw [← hk] at HRES
  have c0 : w1.cell? ⟨b, 0, none⟩ = some (.string (byteArr l)) := RB1.out.cell 0 _ rfl
  have z0 := RB1.out.frozen 0
  clear hB hT hw1
  rcases ixWl l with ⟨h1, h2⟩ | ⟨h1, h2⟩
  · rw [h2] at IX
    rw [← hk] at IX h1
    clear h2 hk
    have AO : Hid (∀ w, KeysAt w → Calls Tryd.prog 32 #[.string ((byteArr l).extract 0 k)] w fun e w' => e = .returned (.bool (atomB (byteArr (l.take k)))) ∧ w' = w) := fun w hK => by
      have hz : (byteArr (l.take k)).size ≤ maxLen := by unfold maxLen byteArr; simp [ByteArray.size]; omega
      have := implAtomOk_any (byteArr (l.take k)) w hz hK
      rw [← cut_to] at this ⊢
      exact this
    have CT : Hid ((byteArr l).extract 0 k = byteArr (l.take k)) := cut_to
    have OKT : Hid (okS ((byteArr l).extract 0 k)) := by show okS _; unfold okS maxLen; rw [cut_to]; simp [byteArr, ByteArray.size]; omega
    cases ha : atomB (byteArr (l.take k)) with
    | true =>
      rw [ha] at AO
      have HS : Hid (RES = some (.mk 1 0 (byteArr (l.take k)) [], l.drop k)) := by show _ = _; rw [HRES.out]; unfold sgV; rw [if_pos ha]
      clear ha HRES
      go_enter Tryd.func22, Tryd.ntmps22
      go_wp2_with (first
          | (rw [← HW1.out])
          | (go_at_call 31; go_must (refine (IX.out).mono ?_; rintro e w2 ⟨rfl, hb⟩; have S2 : w1.heap.size ≤ w2.heap.size := hb.size; have K2 : Hid (Below w1.heap.size w1 w2) := hb; have RB2 : Hid (RB w2 b l o) := Blk.next RB1.out hb; have R2 : Hid (Blk w2 w.heap.size #[.int .i64 0, .int .i64 0, .string ⟨#[]⟩, .slice none 0 0] 24) := R1.out.next hb; clear hb; have c0 : w2.cell? ⟨b, 0, none⟩ = some (.string (byteArr l)) := RB2.out.cell 0 _ rfl; have z0 := RB2.out.frozen 0))
          | (go_at_call 32; obtain ⟨w3, hw3⟩ : ∃ w3, w3 = w2.setCell ⟨b, 0, none⟩ (.string ((byteArr l).extract k l.length)) := ⟨_, rfl⟩; rw [← hw3]; have on3 : OnlyB b w2 w3 := (by rw [hw3]; exact OnlyB.set); have RB3 : Hid (RB w3 b (l.drop k) o) := (by show Blk _ _ _ _; rw [hw3, cut_from hkl]; exact RB2.out.same rfl); have R3 : Hid (Blk w3 w.heap.size #[.int .i64 0, .int .i64 0, .string ⟨#[]⟩, .slice none 0 0] 24) := R2.out.only on3 (by omega); have O3 : Hid (Off [b] w w3) := (((Off.of_below (fp := [b]) K1.out).trans ((Off.of_below K2.out).trans (offSelfV on3)))); have T3 : Hid (TabV w0 w3) := HT.out.offed O3.out hb0; have S3 : w3.heap.size = w2.heap.size := on3.size; clear hw3 on3; refine (AO.out w3 T3.out.keys).mono ?_; rintro e w' ⟨rfl, hw⟩; rw [hw]; clear hw w'; have r0 : w3.cell? ⟨w.heap.size, 0, none⟩ = some (.int .i64 0) := R3.out.cell 0 _ rfl; have rz0 := R3.out.frozen 0; have r1 : w3.cell? ⟨w.heap.size, 1, none⟩ = some (.int .i64 0) := R3.out.cell 1 _ rfl; have rz1 := R3.out.frozen 1; have r2 : w3.cell? ⟨w.heap.size, 2, none⟩ = some (.string ⟨#[]⟩) := R3.out.cell 2 _ rfl; have rz2 := R3.out.frozen 2; have r3 : w3.cell? ⟨w.heap.size, 3, none⟩ = some (.slice none 0 0) := R3.out.cell 3 _ rfl; have rz3 := R3.out.frozen 3))
      have hon := st4_only (b := w.heap.size) (w := w3) (c0 := .int .i64 1) (c1 := .int .i64 0) (c2 := .string ((byteArr l).extract 0 k)) (c3 := .slice none 0 0)
      have hbk := st4_blk R3.out (.int .i64 1) (.int .i64 0) (.string ((byteArr l).extract 0 k)) (.slice none 0 0)
      have q0 := hbk.cell 0 _ rfl
      have q1 := hbk.cell 1 _ rfl
      have q2 := hbk.cell 2 _ rfl
      have q3 := hbk.cell 3 _ rfl
      refine bodyPost_ret (v := .tuple #[.agg #[.int .i64 1, .int .i64 0, .string ((byteArr l).extract 0 k), .slice none 0 0], .bool true]) (by simp [results, Tryd.results22, go_sem, q0, q1, q2, q3]) rfl ?_
      rw [HS.out]
      refine ⟨1, 0, (byteArr l).extract 0 k, none, 0, 0, rfl, offOnlyV O3.out hon (Nat.le_refl _), ?_⟩
      intro x r hx
      simp only [Option.some.injEq, Prod.mk.injEq] at hx
      obtain ⟨rfl, rfl⟩ := hx
      refine ⟨[], ?_, List.nodup_nil, fun a ha => by simp at ha, Blk.only RB3.out hon (by omega)⟩
      rw [CT.out]
      exact OVT.leaf okI1V okI0V (by rw [← CT.out]; exact OKT.out)
    | false =>
      rw [ha] at AO
      have NI : Hid (∀ w, PowAt w → Calls Tryd.prog 33 #[.string ((byteArr l).extract 0 k)] w fun e w' => ∃ n, e = .returned (.tuple #[.agg #[.int .i64 0, .int .i64 n, .string ⟨#[]⟩, .slice none 0 0], .bool (numOk (l.take k))]) ∧ Below w.heap.size w w' ∧ (numOk (l.take k) = true → n = numV (l.take k) ∧ okI n)) := fun w hP => by
        rw [cut_to]
        exact numberIn_any w (by simp; omega) hP
      have HS : Hid (RES = if numOk (l.take k) = true then some (.mk 0 (numV (l.take k)) ⟨#[]⟩ [], l.drop k) else none) := by
        show _ = _
        rw [HRES.out]
        unfold sgV numOk
        rw [if_neg (by rw [ha]; exact Bool.false_ne_true)]
        cases (decide ((l.take k).length ≤ 9 + minN (l.take k)) && allDig ((l.take k).drop (minN (l.take k))) && (Lib.itoa (numV (l.take k)) == l.take k)) <;> rfl
      clear ha HRES
      go_enter Tryd.func22, Tryd.ntmps22
      go_wp2_with (first
          | (rw [← HW1.out])
          | (go_at_call 31; go_must (refine (IX.out).mono ?_; rintro e w2 ⟨rfl, hb⟩; have S2 : w1.heap.size ≤ w2.heap.size := hb.size; have K2 : Hid (Below w1.heap.size w1 w2) := hb; have RB2 : Hid (RB w2 b l o) := Blk.next RB1.out hb; have R2 : Hid (Blk w2 w.heap.size #[.int .i64 0, .int .i64 0, .string ⟨#[]⟩, .slice none 0 0] 24) := R1.out.next hb; clear hb; have c0 : w2.cell? ⟨b, 0, none⟩ = some (.string (byteArr l)) := RB2.out.cell 0 _ rfl; have z0 := RB2.out.frozen 0))
          | (go_at_call 32; obtain ⟨w3, hw3⟩ : ∃ w3, w3 = w2.setCell ⟨b, 0, none⟩ (.string ((byteArr l).extract k l.length)) := ⟨_, rfl⟩; rw [← hw3]; have on3 : OnlyB b w2 w3 := (by rw [hw3]; exact OnlyB.set); have RB3 : Hid (RB w3 b (l.drop k) o) := (by show Blk _ _ _ _; rw [hw3, cut_from hkl]; exact RB2.out.same rfl); have R3 : Hid (Blk w3 w.heap.size #[.int .i64 0, .int .i64 0, .string ⟨#[]⟩, .slice none 0 0] 24) := R2.out.only on3 (by omega); have O3 : Hid (Off [b] w w3) := (((Off.of_below (fp := [b]) K1.out).trans ((Off.of_below K2.out).trans (offSelfV on3)))); have T3 : Hid (TabV w0 w3) := HT.out.offed O3.out hb0; have S3 : w3.heap.size = w2.heap.size := on3.size; clear hw3 on3; refine (AO.out w3 T3.out.keys).mono ?_; rintro e w' ⟨rfl, hw⟩; rw [hw]; clear hw w'; have r0 : w3.cell? ⟨w.heap.size, 0, none⟩ = some (.int .i64 0) := R3.out.cell 0 _ rfl; have rz0 := R3.out.frozen 0; have r1 : w3.cell? ⟨w.heap.size, 1, none⟩ = some (.int .i64 0) := R3.out.cell 1 _ rfl; have rz1 := R3.out.frozen 1; have r2 : w3.cell? ⟨w.heap.size, 2, none⟩ = some (.string ⟨#[]⟩) := R3.out.cell 2 _ rfl; have rz2 := R3.out.frozen 2; have r3 : w3.cell? ⟨w.heap.size, 3, none⟩ = some (.slice none 0 0) := R3.out.cell 3 _ rfl; have rz3 := R3.out.frozen 3)
          | (go_at_call 33; refine (NI.out w3 T3.out.pow).mono ?_; rintro e w4 ⟨n, rfl, hb, hn⟩; have HN : Hid (numOk (l.take k) = true → n = numV (l.take k) ∧ okI n) := hn; have RB4 : Hid (RB w4 b (l.drop k) o) := Blk.next RB3.out hb; have R4 : Hid (Blk w4 w.heap.size #[.int .i64 0, .int .i64 0, .string ⟨#[]⟩, .slice none 0 0] 24) := R3.out.next hb; have O4 : Hid (Off [b] w w4) := O3.out.trans (Off.of_below hb); have S4 : w3.heap.size ≤ w4.heap.size := hb.size; clear hb hn r0 rz0 r1 rz1 r2 rz2 r3 rz3; have r0 : w4.cell? ⟨w.heap.size, 0, none⟩ = some (.int .i64 0) := R4.out.cell 0 _ rfl; have rz0 := R4.out.frozen 0; have r1 : w4.cell? ⟨w.heap.size, 1, none⟩ = some (.int .i64 0) := R4.out.cell 1 _ rfl; have rz1 := R4.out.frozen 1; have r2 : w4.cell? ⟨w.heap.size, 2, none⟩ = some (.string ⟨#[]⟩) := R4.out.cell 2 _ rfl; have rz2 := R4.out.frozen 2; have r3 : w4.cell? ⟨w.heap.size, 3, none⟩ = some (.slice none 0 0) := R4.out.cell 3 _ rfl; have rz3 := R4.out.frozen 3))
      have hon := st4_only (b := w.heap.size) (w := w4) (c0 := .int .i64 0) (c1 := .int .i64 n) (c2 := .string ⟨#[]⟩) (c3 := .slice none 0 0)
      have hbk := st4_blk R4.out (.int .i64 0) (.int .i64 n) (.string ⟨#[]⟩) (.slice none 0 0)
      have q0 := hbk.cell 0 _ rfl
      have q1 := hbk.cell 1 _ rfl
      have q2 := hbk.cell 2 _ rfl
      have q3 := hbk.cell 3 _ rfl
      refine bodyPost_ret (v := .tuple #[.agg #[.int .i64 0, .int .i64 n, .string ⟨#[]⟩, .slice none 0 0], .bool (numOk (l.take k))]) (by simp [results, Tryd.results22, go_sem, q0, q1, q2, q3]) rfl ?_
      refine ⟨0, n, ⟨#[]⟩, none, 0, 0, ?_, offOnlyV O4.out hon (Nat.le_refl _), ?_⟩
      · rw [HS.out]
        cases numOk (l.take k) <;> rfl
      intro x r hx
      rw [HS.out] at hx
      cases hok : numOk (l.take k) with
      | false => rw [hok] at hx; simp at hx
      | true =>
        rw [hok] at hx
        obtain ⟨hn1, hn2⟩ := HN.out hok
        simp only [if_true, Option.some.injEq, Prod.mk.injEq] at hx
        obtain ⟨rfl, rfl⟩ := hx
        refine ⟨[], ?_, List.nodup_nil, fun a ha => by simp at ha, Blk.only RB4.out hon (by omega)⟩
        rw [← hn1]
        exact OVT.leaf okI0V hn2 (Nat.zero_le _)

  · rw [h2] at IX
    rw [← hk] at h1
    subst h1
    clear h2 hk
    have AO : Hid (∀ w, KeysAt w → Calls Tryd.prog 32 #[.string ((byteArr l).extract 0 l.length)] w fun e w' => e = .returned (.bool (atomB (byteArr (l.take l.length)))) ∧ w' = w) := fun w hK => by
      have hz : (byteArr (l.take l.length)).size ≤ maxLen := by unfold maxLen byteArr; simp [ByteArray.size]; omega
      have := implAtomOk_any (byteArr (l.take l.length)) w hz hK
      rw [← cut_to] at this ⊢
      exact this
    have CT : Hid ((byteArr l).extract 0 l.length = byteArr (l.take l.length)) := cut_to
    have OKT : Hid (okS ((byteArr l).extract 0 l.length)) := by show okS _; unfold okS maxLen; rw [cut_to]; simp [byteArr, ByteArray.size]; omega
    cases ha : atomB (byteArr (l.take l.length)) with
    | true =>
      rw [ha] at AO
      have HS : Hid (RES = some (.mk 1 0 (byteArr (l.take l.length)) [], l.drop l.length)) := by show _ = _; rw [HRES.out]; unfold sgV; rw [if_pos ha]
      clear ha HRES
      go_enter Tryd.func22, Tryd.ntmps22
      go_wp2_with (first
          | (rw [← HW1.out])
          | (go_at_call 31; go_must (refine (IX.out).mono ?_; rintro e w2 ⟨rfl, hb⟩; have S2 : w1.heap.size ≤ w2.heap.size := hb.size; have K2 : Hid (Below w1.heap.size w1 w2) := hb; have RB2 : Hid (RB w2 b l o) := Blk.next RB1.out hb; have R2 : Hid (Blk w2 w.heap.size #[.int .i64 0, .int .i64 0, .string ⟨#[]⟩, .slice none 0 0] 24) := R1.out.next hb; clear hb; have c0 : w2.cell? ⟨b, 0, none⟩ = some (.string (byteArr l)) := RB2.out.cell 0 _ rfl; have z0 := RB2.out.frozen 0))
          | (go_at_call 32; obtain ⟨w3, hw3⟩ : ∃ w3, w3 = w2.setCell ⟨b, 0, none⟩ (.string ByteArray.empty) := ⟨_, rfl⟩; rw [← hw3]; have on3 : OnlyB b w2 w3 := (by rw [hw3]; exact OnlyB.set); have RB3 : Hid (RB w3 b (l.drop l.length) o) := (by show Blk _ _ _ _; rw [hw3, List.drop_length]; exact RB2.out.same rfl); have R3 : Hid (Blk w3 w.heap.size #[.int .i64 0, .int .i64 0, .string ⟨#[]⟩, .slice none 0 0] 24) := R2.out.only on3 (by omega); have O3 : Hid (Off [b] w w3) := (((Off.of_below (fp := [b]) K1.out).trans ((Off.of_below K2.out).trans (offSelfV on3)))); have T3 : Hid (TabV w0 w3) := HT.out.offed O3.out hb0; have S3 : w3.heap.size = w2.heap.size := on3.size; clear hw3 on3; refine (AO.out w3 T3.out.keys).mono ?_; rintro e w' ⟨rfl, hw⟩; rw [hw]; clear hw w'; have r0 : w3.cell? ⟨w.heap.size, 0, none⟩ = some (.int .i64 0) := R3.out.cell 0 _ rfl; have rz0 := R3.out.frozen 0; have r1 : w3.cell? ⟨w.heap.size, 1, none⟩ = some (.int .i64 0) := R3.out.cell 1 _ rfl; have rz1 := R3.out.frozen 1; have r2 : w3.cell? ⟨w.heap.size, 2, none⟩ = some (.string ⟨#[]⟩) := R3.out.cell 2 _ rfl; have rz2 := R3.out.frozen 2; have r3 : w3.cell? ⟨w.heap.size, 3, none⟩ = some (.slice none 0 0) := R3.out.cell 3 _ rfl; have rz3 := R3.out.frozen 3))
      have hon := st4_only (b := w.heap.size) (w := w3) (c0 := .int .i64 1) (c1 := .int .i64 0) (c2 := .string ((byteArr l).extract 0 l.length)) (c3 := .slice none 0 0)
      have hbk := st4_blk R3.out (.int .i64 1) (.int .i64 0) (.string ((byteArr l).extract 0 l.length)) (.slice none 0 0)
      have q0 := hbk.cell 0 _ rfl
      have q1 := hbk.cell 1 _ rfl
      have q2 := hbk.cell 2 _ rfl
      have q3 := hbk.cell 3 _ rfl
      refine bodyPost_ret (v := .tuple #[.agg #[.int .i64 1, .int .i64 0, .string ((byteArr l).extract 0 l.length), .slice none 0 0], .bool true]) (by simp [results, Tryd.results22, go_sem, q0, q1, q2, q3]) rfl ?_
      rw [HS.out]
      refine ⟨1, 0, (byteArr l).extract 0 l.length, none, 0, 0, rfl, offOnlyV O3.out hon (Nat.le_refl _), ?_⟩
      intro x r hx
      simp only [Option.some.injEq, Prod.mk.injEq] at hx
      obtain ⟨rfl, rfl⟩ := hx
      refine ⟨[], ?_, List.nodup_nil, fun a ha => by simp at ha, Blk.only RB3.out hon (by omega)⟩
      rw [CT.out]
      exact OVT.leaf okI1V okI0V (by rw [← CT.out]; exact OKT.out)
    | false =>
      rw [ha] at AO
      have NI : Hid (∀ w, PowAt w → Calls Tryd.prog 33 #[.string ((byteArr l).extract 0 l.length)] w fun e w' => ∃ n, e = .returned (.tuple #[.agg #[.int .i64 0, .int .i64 n, .string ⟨#[]⟩, .slice none 0 0], .bool (numOk (l.take l.length))]) ∧ Below w.heap.size w w' ∧ (numOk (l.take l.length) = true → n = numV (l.take l.length) ∧ okI n)) := fun w hP => by
        rw [cut_to]
        exact numberIn_any w (by simp; omega) hP
      have HS : Hid (RES = if numOk (l.take l.length) = true then some (.mk 0 (numV (l.take l.length)) ⟨#[]⟩ [], l.drop l.length) else none) := by
        show _ = _
        rw [HRES.out]
        unfold sgV numOk
        rw [if_neg (by rw [ha]; exact Bool.false_ne_true)]
        cases (decide ((l.take l.length).length ≤ 9 + minN (l.take l.length)) && allDig ((l.take l.length).drop (minN (l.take l.length))) && (Lib.itoa (numV (l.take l.length)) == l.take l.length)) <;> rfl
      clear ha HRES
      go_enter Tryd.func22, Tryd.ntmps22
      go_wp2_with (first
          | (rw [← HW1.out])
          | (go_at_call 31; go_must (refine (IX.out).mono ?_; rintro e w2 ⟨rfl, hb⟩; have S2 : w1.heap.size ≤ w2.heap.size := hb.size; have K2 : Hid (Below w1.heap.size w1 w2) := hb; have RB2 : Hid (RB w2 b l o) := Blk.next RB1.out hb; have R2 : Hid (Blk w2 w.heap.size #[.int .i64 0, .int .i64 0, .string ⟨#[]⟩, .slice none 0 0] 24) := R1.out.next hb; clear hb; have c0 : w2.cell? ⟨b, 0, none⟩ = some (.string (byteArr l)) := RB2.out.cell 0 _ rfl; have z0 := RB2.out.frozen 0))
          | (go_at_call 32; obtain ⟨w3, hw3⟩ : ∃ w3, w3 = w2.setCell ⟨b, 0, none⟩ (.string ByteArray.empty) := ⟨_, rfl⟩; rw [← hw3]; have on3 : OnlyB b w2 w3 := (by rw [hw3]; exact OnlyB.set); have RB3 : Hid (RB w3 b (l.drop l.length) o) := (by show Blk _ _ _ _; rw [hw3, List.drop_length]; exact RB2.out.same rfl); have R3 : Hid (Blk w3 w.heap.size #[.int .i64 0, .int .i64 0, .string ⟨#[]⟩, .slice none 0 0] 24) := R2.out.only on3 (by omega); have O3 : Hid (Off [b] w w3) := (((Off.of_below (fp := [b]) K1.out).trans ((Off.of_below K2.out).trans (offSelfV on3)))); have T3 : Hid (TabV w0 w3) := HT.out.offed O3.out hb0; have S3 : w3.heap.size = w2.heap.size := on3.size; clear hw3 on3; refine (AO.out w3 T3.out.keys).mono ?_; rintro e w' ⟨rfl, hw⟩; rw [hw]; clear hw w'; have r0 : w3.cell? ⟨w.heap.size, 0, none⟩ = some (.int .i64 0) := R3.out.cell 0 _ rfl; have rz0 := R3.out.frozen 0; have r1 : w3.cell? ⟨w.heap.size, 1, none⟩ = some (.int .i64 0) := R3.out.cell 1 _ rfl; have rz1 := R3.out.frozen 1; have r2 : w3.cell? ⟨w.heap.size, 2, none⟩ = some (.string ⟨#[]⟩) := R3.out.cell 2 _ rfl; have rz2 := R3.out.frozen 2; have r3 : w3.cell? ⟨w.heap.size, 3, none⟩ = some (.slice none 0 0) := R3.out.cell 3 _ rfl; have rz3 := R3.out.frozen 3)
          | (go_at_call 33; refine (NI.out w3 T3.out.pow).mono ?_; rintro e w4 ⟨n, rfl, hb, hn⟩; have HN : Hid (numOk (l.take l.length) = true → n = numV (l.take l.length) ∧ okI n) := hn; have RB4 : Hid (RB w4 b (l.drop l.length) o) := Blk.next RB3.out hb; have R4 : Hid (Blk w4 w.heap.size #[.int .i64 0, .int .i64 0, .string ⟨#[]⟩, .slice none 0 0] 24) := R3.out.next hb; have O4 : Hid (Off [b] w w4) := O3.out.trans (Off.of_below hb); have S4 : w3.heap.size ≤ w4.heap.size := hb.size; clear hb hn r0 rz0 r1 rz1 r2 rz2 r3 rz3; have r0 : w4.cell? ⟨w.heap.size, 0, none⟩ = some (.int .i64 0) := R4.out.cell 0 _ rfl; have rz0 := R4.out.frozen 0; have r1 : w4.cell? ⟨w.heap.size, 1, none⟩ = some (.int .i64 0) := R4.out.cell 1 _ rfl; have rz1 := R4.out.frozen 1; have r2 : w4.cell? ⟨w.heap.size, 2, none⟩ = some (.string ⟨#[]⟩) := R4.out.cell 2 _ rfl; have rz2 := R4.out.frozen 2; have r3 : w4.cell? ⟨w.heap.size, 3, none⟩ = some (.slice none 0 0) := R4.out.cell 3 _ rfl; have rz3 := R4.out.frozen 3))
      have hon := st4_only (b := w.heap.size) (w := w4) (c0 := .int .i64 0) (c1 := .int .i64 n) (c2 := .string ⟨#[]⟩) (c3 := .slice none 0 0)
      have hbk := st4_blk R4.out (.int .i64 0) (.int .i64 n) (.string ⟨#[]⟩) (.slice none 0 0)
      have q0 := hbk.cell 0 _ rfl
      have q1 := hbk.cell 1 _ rfl
      have q2 := hbk.cell 2 _ rfl
      have q3 := hbk.cell 3 _ rfl
      refine bodyPost_ret (v := .tuple #[.agg #[.int .i64 0, .int .i64 n, .string ⟨#[]⟩, .slice none 0 0], .bool (numOk (l.take l.length))]) (by simp [results, Tryd.results22, go_sem, q0, q1, q2, q3]) rfl ?_
      refine ⟨0, n, ⟨#[]⟩, none, 0, 0, ?_, offOnlyV O4.out hon (Nat.le_refl _), ?_⟩
      · rw [HS.out]
        cases numOk (l.take l.length) <;> rfl
      intro x r hx
      rw [HS.out] at hx
      cases hok : numOk (l.take l.length) with
      | false => rw [hok] at hx; simp at hx
      | true =>
        rw [hok] at hx
        obtain ⟨hn1, hn2⟩ := HN.out hok
        simp only [if_true, Option.some.injEq, Prod.mk.injEq] at hx
        obtain ⟨rfl, rfl⟩ := hx
        refine ⟨[], ?_, List.nodup_nil, fun a ha => by simp at ha, Blk.only RB4.out hon (by omega)⟩
        rw [← hn1]
        exact OVT.leaf okI0V hn2 (Nat.zero_le _)

end Go.Proofs.YtafehfpjogbmfaaDoor
