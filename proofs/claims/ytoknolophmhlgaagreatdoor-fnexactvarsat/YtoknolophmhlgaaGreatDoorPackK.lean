/-
  Texts of the proof, packed: AtSpecB, AtImplB, RowG.
-/
import Derived.Test.YtoknolophmhlgaaGreatDoorPackJ
import Derived.Deep.RegionHeld3
import Derived.Test.YtoknolophmhlgaaGreatDoorPackI
import Derived.Test.YtoknolophmhlgaaGreatDoorPackG
import Derived.Laws.AppendOwnNone
/-
  The function and the clause at a place, by the specification: l07Find, l07Clause, by contract.
-/
namespace Go.Proofs.YtoknolophmhlgaaGreatDoor
open Go.ChangeShapes Go.WideShapes Go.ChangeAt Go.RowKit
set_option linter.unusedVariables false
set_option maxRecDepth 100000

/-- What is answered of a function at a place: the places of the module and of the function. -/
def FindR (ms : List Md) (q : Pl) (a b : Int) (ok : Bool) : Prop :=
  (ok = false ∧ fnOf ms q = none) ∨ (ok = true ∧ ∃ (k j : Nat) (m : Md) (f : Fn'), a = k ∧ b = j ∧ ms[k]? = some m ∧ ms.find? (named q.mod) = some m ∧ m.funs[j]? = some f ∧ m.funs.find? (sameR ⟨q.name, q.arity⟩) = some f ∧ (ms.take k).any (named q.mod) = false ∧ (m.funs.take j).any (sameR ⟨q.name, q.arity⟩) = false)

def FindE (ms : List Md) (q : Pl) (e : Ending) : Prop := ∃ a b ok, e = .returned (.tuple #[.int .i64 a, .int .i64 b, .bool ok]) ∧ FindR ms q a b ok

theorem findI_first {α : Type} {f : α → Bool} {xs : List α} {k : Nat} (h : findI f xs = (k : Nat)) : (xs.take k).any f = false := by
  unfold findI at h
  cases hi : xs.findIdx? f with
  | none => rw [hi] at h; have h0 : (-1 : Int) = (k : Nat) := h; omega
  | some k' =>
    rw [hi] at h
    simp only [Int.natCast_inj] at h
    subst h
    rw [List.findIdx?_eq_some_iff_getElem] at hi
    obtain ⟨hk, _, hj⟩ := hi
    rw [List.any_eq_false]
    intro y hy
    obtain ⟨j, hj'⟩ := List.mem_iff_getElem?.1 hy
    rw [List.getElem?_take] at hj'
    split at hj'
    · rename_i hjk
      obtain ⟨h1, rfl⟩ := List.getElem?_eq_some_iff.1 hj'
      simpa using hj j hjk
    · cases hj'
theorem fnOf_at {ms : List Md} {q : Pl} {m : Md} {f : Fn'} (h : ms.find? (named q.mod) = some m) (hf : m.funs.find? (sameR ⟨q.name, q.arity⟩) = some f) : fnOf ms q = some f := by
  simp [fnOf, h, hf]
theorem fnOf_nom {ms : List Md} {q : Pl} (h : ms.any (named q.mod) = false) : fnOf ms q = none := by
  have : ms.find? (named q.mod) = none := by
    rw [List.find?_eq_none]
    intro x hx
    have := List.any_eq_false.1 h x hx
    simpa using this
  simp [fnOf, this]
theorem fnOf_nof {ms : List Md} {q : Pl} {m : Md} (h : ms.find? (named q.mod) = some m) (hf : m.funs.any (sameR ⟨q.name, q.arity⟩) = false) : fnOf ms q = none := by
  have : m.funs.find? (sameR ⟨q.name, q.arity⟩) = none := by
    rw [List.find?_eq_none]
    intro x hx
    have := List.any_eq_false.1 hf x hx
    simpa using this
  simp [fnOf, h, this]

set_option maxHeartbeats 16000000 in
theorem l07Find_any (d : Nat) (w : World) (v : Value) (ms : List Md) (q : Pl) (h : Rows w All 3 (HMd w All d) v ms) :
    Calls Tryz.prog 29 #[v, .agg #[.string q.mod, .string q.name, .int .i64 q.arity, .int .i64 q.clause]] w fun e w' => FindE ms q e ∧ Below w.heap.size w w' := by
  have HR : Hid (∀ w', Below w.heap.size w w' → Rows w' All 3 (HMd w' All d) v ms) := fun w' hw => h.mono (SameOn.of_below hw) (fun _ h => h) (fun _ _ _ h => h.mono (SameOn.of_below hw) (fun _ h => h))
  obtain ⟨W1, hW1⟩ : ∃ W1, W1 = w.alloc (.cells #[.string q.mod, .string q.name, .int .i64 q.arity, .int .i64 q.clause] 31) := ⟨_, rfl⟩
  have bA : Hid (Blk W1 w.heap.size #[.string q.mod, .string q.name, .int .i64 q.arity, .int .i64 q.clause] 31) := by show Blk _ _ _ _; rw [hW1]; exact Blk.new
  have B1 : Hid (Below w.heap.size w W1) := by show Below _ _ _; rw [hW1]; exact (Below.refl _ _).alloc (Nat.le_refl _) _
  have HW1 : Hid (W1 = w.alloc (.cells #[.string q.mod, .string q.name, .int .i64 q.arity, .int .i64 q.clause] 31)) := hW1
  have hlw := bA.out.lt
  have y0 := bA.out.cell 0 _ rfl
  clear hW1
  rcases findI_cases (named q.mod) ms with ⟨hno, hfi⟩ | ⟨k, x, hyes, hxk, hnx, hfi, hfd⟩
  · have HF : Hid (FindR ms q 0 0 false) := .inl ⟨rfl, fnOf_nom hno⟩
    have CM : Hid (Calls Tryz.prog 48 #[v, .string q.mod] W1 fun e w' => e = .returned (.int .i64 (-1)) ∧ w' = W1) := by
      have := l05Mod_any d W1 v ms q.mod (HR.out _ B1.out)
      rwa [hfi] at this
    clear hno hfi h
    go_enter Tryz.func29, Tryz.ntmps29
    go_wp2_with fail
    rw [← HW1.out]
    refine CM.out.mono ?_
    rintro e w2 ⟨rfl, rfl⟩
    go_wp2_with fail
    exact bodyPost_ret (v := .tuple #[.int .i64 0, .int .i64 (0), .bool false]) (by simp [results, Tryz.results29, go_sem]) rfl ⟨⟨0, 0, false, rfl, HF.out⟩, B1.out⟩
  · have CM : Hid (Calls Tryz.prog 48 #[v, .string q.mod] W1 fun e w' => e = .returned (.int .i64 (k : Nat)) ∧ w' = W1) := by
      have := l05Mod_any d W1 v ms q.mod (HR.out _ B1.out)
      rwa [hfi] at this
    have HK : Hid (ms[k]? = some x ∧ ms.find? (named q.mod) = some x) := ⟨hxk, hfd⟩
    obtain ⟨p, cap, rfl, hcl, hcm, hx⟩ := h
    obtain ⟨g, off, rfl, -, hgl, hat⟩ := hx (by intro h; rw [h] at hxk; simp at hxk)
    obtain ⟨cs, hcsl, hcs, hmd⟩ := hat k x hxk
    have hlt : k < ms.length := (List.getElem?_eq_some_iff.1 hxk).1
    have hnb : ms.length ≤ 9223372036854775807 := by unfold maxLen at hcm; omega
    have HMD : Hid (∀ w', Below w.heap.size w w' → HMd w' All d cs x) := fun w' hw => hmd.mono (SameOn.of_below hw) (fun _ h => h)
    obtain ⟨ev, fv, rfl, hxs, f0, f1⟩ := hmd
    obtain ⟨pe, ce, rfl, -⟩ := f0
    obtain ⟨pf, cf, rfl, -⟩ := f1
    have a0 := hcs 0 (by omega)
    have a1 := hcs 1 (by omega)
    have a2 := hcs 2 (by omega)
    rw [← B1.out.cell (p := ⟨g, _, none⟩) hgl] at a0 a1 a2
    simp at a0 a1 a2
    have hgw : g < W1.heap.size := Nat.lt_of_lt_of_le hgl B1.out.size
    have qa0 : ∀ m : Wd (fun w' => SameOn All W1 w' ∧ Below w.heap.size w w'), m.val.cell? ⟨g, off + k * 3, none⟩ = some (.string x.name) := fun m => (World.cell?_of_block (m.ok.1.2 g trivial hgw)).trans a0
    have qa1 : ∀ m : Wd (fun w' => SameOn All W1 w' ∧ Below w.heap.size w w'), m.val.cell? ⟨g, off + k * 3 + 1, none⟩ = some (.slice pe x.exports.length ce) := fun m => (World.cell?_of_block (m.ok.1.2 g trivial hgw)).trans a1
    have qa2 : ∀ m : Wd (fun w' => SameOn All W1 w' ∧ Below w.heap.size w w'), m.val.cell? ⟨g, off + k * 3 + 2, none⟩ = some (.slice pf x.funs.length cf) := fun m => (World.cell?_of_block (m.ok.1.2 g trivial hgw)).trans a2
    have qx1 : ∀ mw : Wd (fun w' => SameOn All W1 w' ∧ Below w.heap.size w w'), mw.val.cell? ⟨w.heap.size, 1, none⟩ = some (.string q.name) := fun mw => (World.cell?_of_block (mw.ok.1.2 w.heap.size trivial hlw)).trans (bA.out.cell 1 _ rfl)
    have qx2 : ∀ mw : Wd (fun w' => SameOn All W1 w' ∧ Below w.heap.size w w'), mw.val.cell? ⟨w.heap.size, 2, none⟩ = some (.int .i64 q.arity) := fun mw => (World.cell?_of_block (mw.ok.1.2 w.heap.size trivial hlw)).trans (bA.out.cell 2 _ rfl)
    generalize hn : ms.length = n at *
    have hki : (k : Int) < (n : Int) := by omega
    have hk0 : (0 : Int) ≤ (k : Int) := by omega
    have HFF : Hid (∃ fi : Int, findI (sameR ⟨q.name, q.arity⟩) x.funs = fi ∧ ((fi = -1 ∧ FindR ms q k fi false) ∨ (∃ j : Nat, fi = j ∧ FindR ms q k fi true))) := by
      rcases findI_cases (sameR ⟨q.name, q.arity⟩) x.funs with ⟨h1, h2⟩ | ⟨j, f, h1, h2, h3, h4, h5⟩
      · exact ⟨_, rfl, .inl ⟨h2, .inl ⟨rfl, fnOf_nof hfd h1⟩⟩⟩
      · exact ⟨_, rfl, .inr ⟨j, h4, .inr ⟨rfl, k, j, x, f, rfl, h4, hxk, hfd, h2, h5, findI_first hfi, findI_first h4⟩⟩⟩
    obtain ⟨fi, hfe, hfr⟩ := HFF.out
    have HFE : Hid (findI (sameR ⟨q.name, q.arity⟩) x.funs = fi) := hfe
    have HFR : Hid ((fi = -1 ∧ FindR ms q k fi false) ∨ (∃ j : Nat, fi = j ∧ FindR ms q k fi true)) := hfr
    clear hn hfe hfr HFF hyes hxk hnx hfi hfd hcs hat hx hcsl a0 a1 a2
    go_enter Tryz.func29, Tryz.ntmps29
    go_wp2_with fail
    rw [← HW1.out]
    refine CM.out.mono ?_
    rintro e w2 ⟨rfl, rfl⟩
    go_wp2_with fail
    have hCne : Nonempty (Wd (fun w' => SameOn All w2 w' ∧ Below w.heap.size w w')) := ⟨⟨w2.drew, ⟨⟨Nat.le_refl _, fun _ _ _ => rfl⟩, B1.out.drew⟩⟩⟩
    refine wp_region_class (fun w' => SameOn All w2 w' ∧ Below w.heap.size w w') (by kernel_rfl) (by kernel_rfl) ⟨⟨Nat.le_refl _, fun _ _ _ => rfl⟩, B1.out.drew⟩ ?_
    repeat (go_big_quiet_step (first | (rename_i mm; go_at_call 49; refine (l02FindI_any d _ _ x q.name q.arity (HMD.out _ mm.ok.2)).mono ?_; rintro e w1 ⟨rfl, hb1⟩; exact ⟨by rw [HFE.out], ⟨⟨w1, ⟨(SameOn.trans mm.ok.1 (SameOn.of_below hb1)), mm.ok.2.trans (hb1.mono mm.ok.2.size)⟩⟩, rfl⟩⟩)))
    refine wpQuiet_nil ?_
    rintro _ ⟨mq, rfl⟩
    have HB4 : Hid (Below w.heap.size w mq.val) := mq.ok.2
    generalize mq.val = w4 at HB4 ⊢
    rcases HFR.out with ⟨rfl, hr⟩ | ⟨j, rfl, hr⟩
    · have HRR : Hid (FindR ms q k (-1) false) := hr
      clear hr HFR
      go_wp2_with fail
      exact bodyPost_ret (v := .tuple #[.int .i64 (k : Nat), .int .i64 (-1), .bool false]) (by simp [results, Tryz.results29, go_sem]) rfl ⟨⟨k, -1, false, rfl, HRR.out⟩, HB4.out⟩
    · have HRR : Hid (FindR ms q k j true) := hr
      have hj0 : ¬ (j : Int) < 0 := by omega
      have hj1 : (0 : Int) ≤ (j : Int) := by omega
      clear hr HFR
      go_wp2_with fail
      exact bodyPost_ret (v := .tuple #[.int .i64 (k : Nat), .int .i64 (j : Nat), .bool true]) (by simp [results, Tryz.results29, go_sem]) rfl ⟨⟨k, j, true, rfl, HRR.out⟩, HB4.out⟩

/-- What is answered of a clause at a place. -/
def ClR (ms : List Md) (q : Pl) (w : World) (d : Nat) (cs : List Value) (ok : Bool) : Prop :=
  (ok = false ∧ clauseOf ms q = none ∧ cs = [.slice none 0 0, .slice none 0 0]) ∨ (ok = true ∧ ∃ c, clauseOf ms q = some c ∧ HCl w All (HEx w All d) cs c)
def ClE (ms : List Md) (q : Pl) (w : World) (d : Nat) (e : Ending) : Prop := ∃ pv bv ok, e = .returned (.tuple #[.agg #[pv, bv], .bool ok]) ∧ ClR ms q w d [pv, bv] ok

theorem clauseOf_none {ms : List Md} {q : Pl} (h : fnOf ms q = none) : clauseOf ms q = none := by simp [clauseOf, h]
theorem clauseOf_out {ms : List Md} {q : Pl} {f : Fn'} (h : fnOf ms q = some f) (hi : inB q.clause 0 (f.clauses.length - 1) = false) : clauseOf ms q = none := by simp [clauseOf, h, hi]
theorem clauseOf_in {ms : List Md} {q : Pl} {f : Fn'} {j : Nat} (h : fnOf ms q = some f) (hj : q.clause = j) (hi : inB q.clause 0 (f.clauses.length - 1) = true) : clauseOf ms q = f.clauses[j]? := by
  simp [clauseOf, h, hi]
  rw [hj]; simp

set_option maxHeartbeats 16000000 in
theorem l07Clause_any (d : Nat) (w : World) (v : Value) (ms : List Md) (q : Pl) (h : Rows w All 3 (HMd w All d) v ms) :
    Calls Tryz.prog 16 #[v, .agg #[.string q.mod, .string q.name, .int .i64 q.arity, .int .i64 q.clause]] w fun e w' => ClE ms q w' d e ∧ Below w.heap.size w w' := by
  have HR : Hid (∀ w', Below w.heap.size w w' → Rows w' All 3 (HMd w' All d) v ms) := fun w' hw => h.mono (SameOn.of_below hw) (fun _ h => h) (fun _ _ _ h => h.mono (SameOn.of_below hw) (fun _ h => h))
  obtain ⟨W1, hW1⟩ : ∃ W1, W1 = (w.alloc (.cells #[.string q.mod, .string q.name, .int .i64 q.arity, .int .i64 q.clause] 31)).alloc (.cells #[.slice none 0 0, .slice none 0 0] 45) := ⟨_, rfl⟩
  have bA : Hid (Blk W1 w.heap.size #[.string q.mod, .string q.name, .int .i64 q.arity, .int .i64 q.clause] 31) := by show Blk _ _ _ _; rw [hW1]; exact Blk.new.alloc
  have bR : Hid (Blk W1 (w.heap.size + 1) #[.slice none 0 0, .slice none 0 0] 45) := by
    show Blk _ _ _ _; rw [hW1]
    have := Blk.new (w := w.alloc (.cells #[.string q.mod, .string q.name, .int .i64 q.arity, .int .i64 q.clause] 31)) (cs := #[.slice none 0 0, .slice none 0 0]) (t := 45)
    rwa [alloc_hs] at this
  have B1 : Hid (Below w.heap.size w W1) := by show Below _ _ _; rw [hW1]; exact ((Below.refl _ _).alloc (Nat.le_refl _) _).alloc (by simp) _
  have HW1 : Hid (W1 = (w.alloc (.cells #[.string q.mod, .string q.name, .int .i64 q.arity, .int .i64 q.clause] 31)).alloc (.cells #[.slice none 0 0, .slice none 0 0] 45)) := hW1
  have CF : Hid (Calls Tryz.prog 29 #[v, .agg #[.string q.mod, .string q.name, .int .i64 q.arity, .int .i64 q.clause]] W1 fun e w' => FindE ms q e ∧ Below W1.heap.size W1 w') := l07Find_any d W1 v ms q (HR.out _ B1.out)
  have y0 := bA.out.cell 0 _ rfl
  have y1 := bA.out.cell 1 _ rfl
  have y2 := bA.out.cell 2 _ rfl
  have y3 := bA.out.cell 3 _ rfl
  clear hW1
  obtain ⟨p, cap, rfl, hcl, hcm, hx⟩ := h
  have HX : Hid (ms ≠ [] → ∃ g off, p = some ⟨g, off, none⟩ ∧ All g ∧ g < w.heap.size ∧ ∀ i x, ms[i]? = some x → ∃ cs, cs.length = 3 ∧ (∀ j, j < 3 → w.cell? ⟨g, off + i * 3 + j, none⟩ = cs[j]?) ∧ HMd w All d cs x) := hx
  have HLM : Hid (ms.length ≤ 9223372036854775807) := by show _ ≤ _; unfold maxLen at hcm; omega
  clear hx
  go_enter Tryz.func16, Tryz.ntmps16
  go_wp2_with fail
  rw [← HW1.out]
  refine CF.out.mono ?_
  rintro e w2 ⟨⟨a, b, ok, rfl, hr⟩, hb⟩
  have HFR : Hid (FindR ms q a b ok) := hr
  have B2 : Hid (Below w.heap.size w w2) := B1.out.trans (hb.mono B1.out.size)
  have bA2 : Hid (Blk w2 w.heap.size #[.string q.mod, .string q.name, .int .i64 q.arity, .int .i64 q.clause] 31) := bA.out.next hb
  have bR2 : Hid (Blk w2 (w.heap.size + 1) #[.slice none 0 0, .slice none 0 0] 45) := bR.out.next hb
  have hlw := bA2.out.lt
  clear hr hb y0 y1 y2 y3 bA bR CF HW1 B1
  rcases HFR.out with ⟨rfl, hno⟩ | ⟨rfl, k, j, m, f, rfl, rfl, hxk, hfm, hfk, hff, -, -⟩
  · have HC : Hid (clauseOf ms q = none) := clauseOf_none hno
    clear hno HFR
    go_wp2_with fail
    have hCne : Nonempty (Wd (fun w' => SameOn All w2 w' ∧ Below w.heap.size w w')) := ⟨⟨w2.drew, ⟨⟨Nat.le_refl _, fun _ _ _ => rfl⟩, B2.out.drew⟩⟩⟩
    refine wp_region_class (fun w' => SameOn All w2 w' ∧ Below w.heap.size w w') (by kernel_rfl) (by kernel_rfl) ⟨⟨Nat.le_refl _, fun _ _ _ => rfl⟩, B2.out.drew⟩ ?_
    repeat (go_big_quiet_step (fail))
    refine wpQuiet_nil ?_
    rintro _ ⟨mq, rfl⟩
    have HB4 : Hid (Below w.heap.size w mq.val) := mq.ok.2
    have HS4 : Hid (SameOn All w2 mq.val) := mq.ok.1
    generalize mq.val = w4 at HB4 HS4 ⊢
    have bR4 : Hid (Blk w4 (w.heap.size + 1) #[.slice none 0 0, .slice none 0 0] 45) := bR2.out.same_on HS4.out
    have z0 := bR4.out.cell 0 _ rfl
    have z1 := bR4.out.cell 1 _ rfl
    have f0 := bR4.out.frozen 0
    have f1 := bR4.out.frozen 1
    go_wp2_with fail
    have hz : Below w.heap.size w ((w4.setCell ⟨w.heap.size + 1, 0, none⟩ (.slice none 0 0)).setCell ⟨w.heap.size + 1, 1, none⟩ (.slice none 0 0)) := (HB4.out.setCell (by show _ ≤ _ + 1; omega) _).setCell (by show _ ≤ _ + 1; omega) _
    have bz : Blk ((w4.setCell ⟨w.heap.size + 1, 0, none⟩ (.slice none 0 0)).setCell ⟨w.heap.size + 1, 1, none⟩ (.slice none 0 0)) (w.heap.size + 1) #[.slice none 0 0, .slice none 0 0] 45 := (bR4.out.same rfl).same rfl
    clear z0 z1
    have z0 := bz.cell 0 _ rfl
    have z1 := bz.cell 1 _ rfl
    exact bodyPost_ret (v := .tuple #[.agg #[.slice none 0 0, .slice none 0 0], .bool false]) (by simp [results, Tryz.results16, go_sem, z0, z1]) rfl ⟨⟨_, _, false, rfl, .inl ⟨rfl, HC.out, rfl⟩⟩, hz⟩
  · have HFN : Hid (fnOf ms q = some f) := fnOf_at hfm hff
    obtain ⟨g, off, rfl, -, hgl, hat⟩ := HX.out (by intro h; rw [h] at hxk; simp at hxk)
    obtain ⟨cs, hcsl, hcs, ev, fv, rfl, hxs, f0, f1⟩ := hat k m hxk
    obtain ⟨pe, ce, rfl, -⟩ := f0
    obtain ⟨pf, cf, rfl, hclf, hcmf, hxf⟩ := f1
    obtain ⟨gf, of, rfl, -, hgf, hatf⟩ := hxf (by intro h; rw [h] at hfk; simp at hfk)
    obtain ⟨fcs, hfl, hfcs, cv, rfl, -, -, hcv⟩ := hatf j f hfk
    obtain ⟨pc, cc, rfl, hclc, hcmc, hxc⟩ := hcv
    have a2 := hcs 2 (by omega)
    have e2 := hfcs 2 (by omega)
    rw [← B2.out.cell (p := ⟨g, _, none⟩) hgl] at a2
    rw [← B2.out.cell (p := ⟨gf, _, none⟩) hgf] at e2
    simp at a2 e2
    have hgw : g < w2.heap.size := Nat.lt_of_lt_of_le hgl B2.out.size
    have hgfw : gf < w2.heap.size := Nat.lt_of_lt_of_le hgf B2.out.size
    have qa2 : ∀ m' : Wd (fun w' => SameOn All w2 w' ∧ Below w.heap.size w w'), m'.val.cell? ⟨g, off + k * 3 + 2, none⟩ = some (.slice (some ⟨gf, of, none⟩) m.funs.length cf) := fun m' => (World.cell?_of_block (m'.ok.1.2 g trivial hgw)).trans a2
    have qe2 : ∀ m' : Wd (fun w' => SameOn All w2 w' ∧ Below w.heap.size w w'), m'.val.cell? ⟨gf, of + j * 3 + 2, none⟩ = some (.slice pc f.clauses.length cc) := fun m' => (World.cell?_of_block (m'.ok.1.2 gf trivial hgfw)).trans e2
    have qx3 : ∀ m' : Wd (fun w' => SameOn All w2 w' ∧ Below w.heap.size w w'), m'.val.cell? ⟨w.heap.size, 3, none⟩ = some (.int .i64 q.clause) := fun m' => (World.cell?_of_block (m'.ok.1.2 w.heap.size trivial hlw)).trans (bA2.out.cell 3 _ rfl)
    have hki : (k : Int) < (ms.length : Int) := by have := (List.getElem?_eq_some_iff.1 hxk).1; omega
    have hk0 : (0 : Int) ≤ (k : Int) := by omega
    have hji : (j : Int) < (m.funs.length : Int) := by have := (List.getElem?_eq_some_iff.1 hfk).1; omega
    have hj0 : (0 : Int) ≤ (j : Int) := by omega
    have hlm := HLM.out
    have hlf : m.funs.length ≤ 9223372036854775807 := by unfold maxLen at hcmf; omega
    have hlc : f.clauses.length ≤ 9223372036854775807 := by unfold maxLen at hcmc; omega
    generalize hn : ms.length = n at *
    generalize hnf : m.funs.length = nf at *
    generalize hnc : f.clauses.length = nc at *
    have HNC : Hid (f.clauses.length = nc) := hnc
    clear hn hnf hnc hcs hat hcsl hatf hfcs hfl HFR hxf
    cases hin : inB q.clause 0 ((nc : Int) - 1) with
    | false =>
      have CI : Hid (∀ w', Calls Tryz.prog 30 #[.int .i64 q.clause, .int .i64 0, .int .i64 ((nc : Int) - 1)] w' fun e w'' => e = .returned (.bool false) ∧ w'' = w') := fun w' => by
        have := l01In_any q.clause 0 ((nc : Int) - 1) w'
        rwa [hin] at this
      have HC : Hid (clauseOf ms q = none) := clauseOf_out HFN.out (by rw [HNC.out]; exact hin)
      clear hin
      go_wp2_with fail
      have hCne : Nonempty (Wd (fun w' => SameOn All w2 w' ∧ Below w.heap.size w w')) := ⟨⟨w2.drew, ⟨⟨Nat.le_refl _, fun _ _ _ => rfl⟩, B2.out.drew⟩⟩⟩
      refine wp_region_class (fun w' => SameOn All w2 w' ∧ Below w.heap.size w w') (by kernel_rfl) (by kernel_rfl) ⟨⟨Nat.le_refl _, fun _ _ _ => rfl⟩, B2.out.drew⟩ ?_
      repeat (go_big_quiet_step (first | (rename_i mm; go_at_call 30; refine (CI.out _).mono ?_; rintro e w1 ⟨rfl, rfl⟩; exact ⟨rfl, ⟨mm, rfl⟩⟩)))
      refine wpQuiet_nil ?_
      rintro _ ⟨mq, rfl⟩
      have HB4 : Hid (Below w.heap.size w mq.val) := mq.ok.2
      have HS4 : Hid (SameOn All w2 mq.val) := mq.ok.1
      generalize mq.val = w4 at HB4 HS4 ⊢
      have bR4 : Hid (Blk w4 (w.heap.size + 1) #[.slice none 0 0, .slice none 0 0] 45) := bR2.out.same_on HS4.out
      have z0 := bR4.out.cell 0 _ rfl
      have z1 := bR4.out.cell 1 _ rfl
      have f0 := bR4.out.frozen 0
      have f1 := bR4.out.frozen 1
      go_wp2_with fail
      have hz : Below w.heap.size w ((w4.setCell ⟨w.heap.size + 1, 0, none⟩ (.slice none 0 0)).setCell ⟨w.heap.size + 1, 1, none⟩ (.slice none 0 0)) := (HB4.out.setCell (by show _ ≤ _ + 1; omega) _).setCell (by show _ ≤ _ + 1; omega) _
      have bz : Blk ((w4.setCell ⟨w.heap.size + 1, 0, none⟩ (.slice none 0 0)).setCell ⟨w.heap.size + 1, 1, none⟩ (.slice none 0 0)) (w.heap.size + 1) #[.slice none 0 0, .slice none 0 0] 45 := (bR4.out.same rfl).same rfl
      clear z0 z1
      have z0 := bz.cell 0 _ rfl
      have z1 := bz.cell 1 _ rfl
      exact bodyPost_ret (v := .tuple #[.agg #[.slice none 0 0, .slice none 0 0], .bool false]) (by simp [results, Tryz.results16, go_sem, z0, z1]) rfl ⟨⟨_, _, false, rfl, .inl ⟨rfl, HC.out, rfl⟩⟩, hz⟩
    | true =>
      have hin2 := hin
      simp only [inB, decide_eq_true_eq] at hin2
      obtain ⟨i, hi⟩ : ∃ i : Nat, q.clause = i := ⟨q.clause.toNat, by omega⟩
      obtain ⟨c, hck⟩ : ∃ c, f.clauses[i]? = some c := ⟨f.clauses[i]'(by rw [HNC.out]; omega), List.getElem?_eq_getElem _⟩
      have HC : Hid (clauseOf ms q = some c) := by
        show _ = _
        rw [clauseOf_in HFN.out hi (by rw [HNC.out]; exact hin)]
        exact hck
      obtain ⟨gc, oc, rfl, -, hgc, hatc⟩ := hxc (by intro h; rw [h] at hck; simp at hck)
      obtain ⟨ccs, hccl, hccs, hcl0⟩ := hatc i c hck
      have HCL : Hid (∀ w', Below w.heap.size w w' → HCl w' All (HEx w' All d) ccs c) := fun w' hw => hcl0.mono (SameOn.of_below hw) (fun _ h => h) (fun _ _ h => h.mono (SameOn.of_below hw) (fun _ h => h))
      obtain ⟨pv, bv, rfl, hpv, hbv⟩ := hcl0
      obtain ⟨ppv, cpv, rfl, -⟩ := hpv
      obtain ⟨pbv, cbv, rfl, -⟩ := hbv
      have c0 := hccs 0 (by omega)
      have c1 := hccs 1 (by omega)
      have hgcw : gc < w2.heap.size := Nat.lt_of_lt_of_le hgc B2.out.size
      rw [← B2.out.cell (p := ⟨gc, _, none⟩) hgc] at c0 c1
      simp at c0 c1
      have hii : (i : Int) < (nc : Int) := by omega
      have hi0 : (0 : Int) ≤ (i : Int) := by omega
      have CI : Hid (∀ w', Calls Tryz.prog 30 #[.int .i64 i, .int .i64 0, .int .i64 ((nc : Int) - 1)] w' fun e w'' => e = .returned (.bool true) ∧ w'' = w') := fun w' => by
        have := l01In_any (i : Int) 0 ((nc : Int) - 1) w'
        rw [hi] at hin
        rwa [hin] at this
      rw [hi] at qx3
      clear hin hin2 hatc hccs hccl hxc hck
      go_wp2_with fail
      have hCne : Nonempty (Wd (fun w' => SameOn All w2 w' ∧ Below w.heap.size w w')) := ⟨⟨w2.drew, ⟨⟨Nat.le_refl _, fun _ _ _ => rfl⟩, B2.out.drew⟩⟩⟩
      refine wp_region_class (fun w' => SameOn All w2 w' ∧ Below w.heap.size w w') (by kernel_rfl) (by kernel_rfl) ⟨⟨Nat.le_refl _, fun _ _ _ => rfl⟩, B2.out.drew⟩ ?_
      repeat (go_big_quiet_step (first | (rename_i mm; go_at_call 30; refine (CI.out _).mono ?_; rintro e w1 ⟨rfl, rfl⟩; exact ⟨rfl, ⟨mm, rfl⟩⟩)))
      refine wpQuiet_nil ?_
      rintro _ ⟨mq, rfl⟩
      have HB4 : Hid (Below w.heap.size w mq.val) := mq.ok.2
      have HS4 : Hid (SameOn All w2 mq.val) := mq.ok.1
      generalize mq.val = w4 at HB4 HS4 ⊢
      have bR4 : Hid (Blk w4 (w.heap.size + 1) #[.slice none 0 0, .slice none 0 0] 45) := bR2.out.same_on HS4.out
      have z0 := bR4.out.cell 0 _ rfl
      have z1 := bR4.out.cell 1 _ rfl
      have f0 := bR4.out.frozen 0
      have f1 := bR4.out.frozen 1
      have k2 := (World.cell?_of_block (HS4.out.2 g trivial hgw)).trans a2
      have k3 := (World.cell?_of_block (HS4.out.2 gf trivial hgfw)).trans e2
      have k4 := (World.cell?_of_block (HS4.out.2 gc trivial hgcw)).trans c0
      have k5 := (World.cell?_of_block (HS4.out.2 gc trivial hgcw)).trans c1
      have k6 := (World.cell?_of_block (HS4.out.2 w.heap.size trivial hlw)).trans (bA2.out.cell 3 _ rfl)
      clear qa2 qe2 qx3 a2 e2 c0 c1
      have ne1 : w.heap.size + 1 ≠ g := by omega
      have ne2 : w.heap.size + 1 ≠ gf := by omega
      have ne3 : w.heap.size + 1 ≠ gc := by omega
      have ne4 : w.heap.size + 1 ≠ w.heap.size := by omega
      rw [hi] at k6
      go_wp2_with fail
      go_region_held3 (fun w' => w'.cell? ⟨g, off + k * 3 + 2, none⟩ = some (.slice (some ⟨gf, of, none⟩) nf cf) ∧ w'.cell? ⟨gf, of + j * 3 + 2, none⟩ = some (.slice (some ⟨gc, oc, none⟩) nc cc) ∧ w'.cell? ⟨gc, oc + i * 2, none⟩ = some (.slice ppv c.1.length cpv) ∧ w'.cell? ⟨gc, oc + i * 2 + 1, none⟩ = some (.slice pbv c.2.length cbv) ∧ w'.cell? ⟨w.heap.size, 3, none⟩ = some (.int .i64 i))
        (go_keep) (fail)
      go_split_ands
      go_wp2_with fail
      have hz : Below w.heap.size w ((w4.setCell ⟨w.heap.size + 1, 0, none⟩ (.slice ppv c.1.length cpv)).setCell ⟨w.heap.size + 1, 1, none⟩ (.slice pbv c.2.length cbv)).drew := ((HB4.out.setCell (by show _ ≤ _ + 1; omega) _).setCell (by show _ ≤ _ + 1; omega) _).drew
      have bz : Blk ((w4.setCell ⟨w.heap.size + 1, 0, none⟩ (.slice ppv c.1.length cpv)).setCell ⟨w.heap.size + 1, 1, none⟩ (.slice pbv c.2.length cbv)).drew (w.heap.size + 1) #[.slice ppv c.1.length cpv, .slice pbv c.2.length cbv] 45 := (bR4.out.same rfl).same rfl
      have y0 := bz.cell 0 _ rfl
      have y1 := bz.cell 1 _ rfl
      exact bodyPost_ret (v := .tuple #[.agg #[.slice ppv c.1.length cpv, .slice pbv c.2.length cbv], .bool true]) (by simp [results, Tryz.results16, go_sem, y0, y1]) rfl ⟨⟨_, _, true, rfl, .inr ⟨rfl, c, HC.out, HCL.out _ hz⟩⟩, hz⟩
end Go.Proofs.YtoknolophmhlgaaGreatDoor
/-
  The program's clauseAt, by contract: a pointer into the program that is handed in. Condition: no two modules of one name.
-/
namespace Go.Proofs.YtoknolophmhlgaaGreatDoor
open Go.ChangeShapes Go.WideShapes Go.ChangeAt Go.RowKit
set_option linter.unusedVariables false
set_option maxRecDepth 100000

theorem fnOf_no {ms : List Md} {q : Pl} (h : ms.any (hasAt q) = false) : fnOf ms q = none := by
  unfold fnOf
  cases hf : ms.find? (named q.mod) with
  | none => rfl
  | some m =>
    have hm := List.mem_of_find?_eq_some hf
    have hn := List.find?_some hf
    have h1 := List.any_eq_false.1 h m hm
    simp only [hasAt, hn, Bool.true_and, Bool.not_eq_true] at h1
    show m.funs.find? _ = none
    rw [List.find?_eq_none]
    intro x hx
    have := List.any_eq_false.1 h1 x hx
    simpa using this
/-- No two modules of one name. -/
def OneName (ms : List Md) : Prop := ∀ (s : ByteArray) (k : Nat) (m : Md), ms[k]? = some m → named s m = true → ms.find? (named s) = some m
theorem FunP.fn {d : Nat} {ms : List Md} {q : Pl} {v : Value} {w : World} {gf o k j : Nat} {m : Md} {f : Fn'} (h : FunP d ms q v w gf o k j m f) (hu : OneName ms) : fnOf ms q = some f :=
  fnOf_at (hu _ k m h.at_k h.nm) h.first

theorem less_chain : ∀ {a b c : List UInt8}, Op.bytesLess a b = true → Op.bytesLess b c = true → Op.bytesLess a c = true
  | [], [], _, h, _ => by simp [Op.bytesLess] at h
  | _ :: _, [], _, h, _ => by simp [Op.bytesLess] at h
  | _, _ :: _, [], _, h => by simp [Op.bytesLess] at h
  | [], _ :: _, _ :: _, _, _ => rfl
  | x :: a, y :: b, z :: c, h, k => by
    simp only [Op.bytesLess, Bool.or_eq_true, decide_eq_true_eq, Bool.and_eq_true, beq_iff_eq] at h k ⊢
    rw [UInt8.lt_iff_toNat_lt] at h k ⊢
    rcases h with h | ⟨rfl, h⟩ <;> rcases k with k | ⟨rfl, k⟩
    · left; omega
    · left; exact h
    · left; exact k
    · exact Or.inr ⟨rfl, less_chain h k⟩
theorem less_self : ∀ (a : List UInt8), Op.bytesLess a a = false
  | [] => by simp [Op.bytesLess]
  | x :: a => by simp [Op.bytesLess, less_self a]
theorem pgOk_less {d : Nat} {ms : List Md} (h : pgOk d ms = true) {j : Nat} {b : Md} : ∀ {i : Nat} {a : Md}, i < j → ms[i]? = some a → ms[j]? = some b → Op.bytesLess a.name.toList b.name.toList = true := by
  intro i a hij hi hj
  have hall : ∀ k, k < ms.length → mdsAt d ms k = true := by
    simp only [pgOk, Bool.and_eq_true, List.all_eq_true] at h
    exact fun k hk => h.2 k (List.mem_range.2 hk)
  induction j generalizing b with
  | zero => omega
  | succ j ih =>
    have hl := (List.getElem?_eq_some_iff.1 hj).1
    obtain ⟨c, hc⟩ : ∃ c, ms[j]? = some c := ⟨ms[j]'(by omega), List.getElem?_eq_getElem _⟩
    have h1 := hall (j + 1) hl
    rw [mdsAt_succ hc hj, Bool.and_eq_true] at h1
    by_cases hij' : i = j
    · subst hij'
      obtain rfl := Option.some.inj (hc.symm.trans hi)
      exact h1.2
    · exact less_chain (ih (by omega) hc) h1.2
theorem pgOk_one {d : Nat} {ms : List Md} (h : pgOk d ms = true) : OneName ms := by
  intro s k m hk hn
  obtain ⟨hl, he⟩ := List.getElem?_eq_some_iff.1 hk
  rw [List.find?_eq_some_iff_getElem]
  refine ⟨hn, k, hl, he, fun j hj => ?_⟩
  have hj' : ms[j]? = some ms[j] := List.getElem?_eq_getElem _
  have h1 := pgOk_less h hj hj' hk
  cases hq : named s ms[j] with
  | false => rfl
  | true =>
    have e1 : ms[j].name.toList = s.toList := by simpa [named] using hq
    have e2 : m.name.toList = s.toList := by simpa [named] using hn
    rw [e1, e2, less_self] at h1
    cases h1

/-- A pointer to a clause of the program v. -/
def ClP (d : Nat) (ms : List Md) (q : Pl) (v : Value) (w : World) (gc o : Nat) (c : Cl) : Prop :=
  ∃ gf og k j m f, FunP d ms q v w gf og k j m f ∧ ∃ (i oc cc : Nat), q.clause = i ∧ f.clauses[i]? = some c ∧ gc < w.heap.size ∧ w.cell? ⟨gf, og + 2, none⟩ = some (.slice (some ⟨gc, oc, none⟩) f.clauses.length cc) ∧ o = oc + i * 2 ∧
    ∃ cs, cs.length = 2 ∧ (∀ i, i < 2 → w.cell? ⟨gc, o + i, none⟩ = cs[i]?) ∧ HCl w All (HEx w All d) cs c
def ClQ (d : Nat) (ms : List Md) (q : Pl) (v : Value) (w : World) (e : Ending) : Prop :=
  (e = .returned (.pointer none) ∧ clauseOf ms q = none) ∨ ∃ gc o c, e = .returned (.pointer (some ⟨gc, o, none⟩)) ∧ clauseOf ms q = some c ∧ ClP d ms q v w gc o c

theorem FunP.same {d : Nat} {ms : List Md} {q : Pl} {v : Value} {w w' : World} {gf o k j : Nat} {m : Md} {f : Fn'} (h : FunP d ms q v w gf o k j m f) (hb : SameOn All w w') : FunP d ms q v w' gf o k j m f := by
  obtain ⟨g, off, cap, of, cf, h1, h2, h3⟩ := h.lies
  obtain ⟨cs, c1, c2, c3⟩ := h.is
  have hgl : g < w.heap.size := by
    unfold World.cell? at h2
    split at h2
    · rename_i heq; exact (Array.getElem?_eq_some_iff.1 heq).1
    · cases h2
  refine ⟨h.at_k, h.nm, h.at_j, h.first, h.before, Nat.lt_of_lt_of_le h.lt hb.1, ⟨g, off, cap, of, cf, h1, (World.cell?_of_block (hb.2 g trivial hgl)).trans h2, h3⟩, ⟨cs, c1, fun i hi => (World.cell?_of_block (hb.2 gf trivial h.lt)).trans (c2 i hi), c3.mono hb (fun _ h => h)⟩⟩

set_option maxHeartbeats 16000000 in
theorem clauseAt_any (d : Nat) (w : World) (v : Value) (ms : List Md) (q : Pl) (h : Rows w All 3 (HMd w All d) v ms) (hu : OneName ms) :
    Calls Tryz.prog 21 #[v, .agg #[.string q.mod, .string q.name, .int .i64 q.arity, .int .i64 q.clause]] w fun e w' => ClQ d ms q v w' e ∧ Below w.heap.size w w' := by
  have HU : Hid (OneName ms) := hu
  have HR : Hid (∀ w', Below w.heap.size w w' → Rows w' All 3 (HMd w' All d) v ms) := fun w' hw => h.mono (SameOn.of_below hw) (fun _ h => h) (fun _ _ _ h => h.mono (SameOn.of_below hw) (fun _ h => h))
  obtain ⟨W1, hW1⟩ : ∃ W1, W1 = w.alloc (.cells #[.string q.mod, .string q.name, .int .i64 q.arity, .int .i64 q.clause] 31) := ⟨_, rfl⟩
  have bA : Hid (Blk W1 w.heap.size #[.string q.mod, .string q.name, .int .i64 q.arity, .int .i64 q.clause] 31) := by show Blk _ _ _ _; rw [hW1]; exact Blk.new
  have B1 : Hid (Below w.heap.size w W1) := by show Below _ _ _; rw [hW1]; exact (Below.refl _ _).alloc (Nat.le_refl _) _
  have HW1 : Hid (W1 = w.alloc (.cells #[.string q.mod, .string q.name, .int .i64 q.arity, .int .i64 q.clause] 31)) := hW1
  have CF : Hid (Calls Tryz.prog 38 #[v, .agg #[.string q.mod, .string q.name, .int .i64 q.arity, .int .i64 q.clause]] W1 fun e w' => FunE d ms q v w' e ∧ Below W1.heap.size W1 w') := funAt_any d W1 v ms q (HR.out _ B1.out)
  have y0 := bA.out.cell 0 _ rfl
  have y1 := bA.out.cell 1 _ rfl
  have y2 := bA.out.cell 2 _ rfl
  have y3 := bA.out.cell 3 _ rfl
  obtain ⟨p, cap, rfl, -⟩ := h
  clear hW1 hu
  go_enter Tryz.func21, Tryz.ntmps21
  go_wp2_with fail
  rw [← HW1.out]
  refine CF.out.mono ?_
  rintro e w2 ⟨hr, hb⟩
  have B2 : Hid (Below w.heap.size w w2) := B1.out.trans (hb.mono B1.out.size)
  have bA2 : Hid (Blk w2 w.heap.size #[.string q.mod, .string q.name, .int .i64 q.arity, .int .i64 q.clause] 31) := bA.out.next hb
  have hlw := bA2.out.lt
  clear hb y0 y1 y2 y3 bA CF HW1 B1
  rcases hr with ⟨rfl, hno⟩ | ⟨gf, og, k, j, m, f, rfl, hP⟩
  · have HC : Hid (clauseOf ms q = none) := clauseOf_none (fnOf_no hno)
    clear hno
    go_wp2_with fail
    have hCne : Nonempty (Wd (fun w' => SameOn All w2 w' ∧ Below w.heap.size w w')) := ⟨⟨w2.drew, ⟨⟨Nat.le_refl _, fun _ _ _ => rfl⟩, B2.out.drew⟩⟩⟩
    refine wp_region_class (fun w' => SameOn All w2 w' ∧ Below w.heap.size w w') (by kernel_rfl) (by kernel_rfl) ⟨⟨Nat.le_refl _, fun _ _ _ => rfl⟩, B2.out.drew⟩ ?_
    repeat (go_big_quiet_step (fail))
    refine wpQuiet_nil ?_
    rintro _ ⟨mq, rfl⟩
    have HB4 : Hid (Below w.heap.size w mq.val) := mq.ok.2
    have HS4 : Hid (SameOn All w2 mq.val) := mq.ok.1
    generalize mq.val = w4 at HB4 HS4 ⊢
    go_wp2_with fail
    go_ret
    exact ⟨.inl ⟨rfl, HC.out⟩, HB4.out⟩
  · have HFN : Hid (fnOf ms q = some f) := hP.fn HU.out
    have HP : Hid (FunP d ms q (.slice p ms.length cap) w2 gf og k j m f) := hP
    obtain ⟨fcs, hfl, hfcs, cv, rfl, -, -, hcv⟩ := hP.is
    obtain ⟨pc, cc, rfl, hclc, hcmc, hxc⟩ := hcv
    have hgfw := hP.lt
    have e2 := hfcs 2 (by omega)
    simp at e2
    have qe2 : ∀ m' : Wd (fun w' => SameOn All w2 w' ∧ Below w.heap.size w w'), m'.val.cell? ⟨gf, og + 2, none⟩ = some (.slice pc f.clauses.length cc) := fun m' => (World.cell?_of_block (m'.ok.1.2 gf trivial hgfw)).trans e2
    have qx3 : ∀ m' : Wd (fun w' => SameOn All w2 w' ∧ Below w.heap.size w w'), m'.val.cell? ⟨w.heap.size, 3, none⟩ = some (.int .i64 q.clause) := fun m' => (World.cell?_of_block (m'.ok.1.2 w.heap.size trivial hlw)).trans (bA2.out.cell 3 _ rfl)
    have hlc : f.clauses.length ≤ 9223372036854775807 := by unfold maxLen at hcmc; omega
    generalize hnc : f.clauses.length = nc at *
    have HNC : Hid (f.clauses.length = nc) := hnc
    clear hnc hfcs hfl hP
    cases hin : inB q.clause 0 ((nc : Int) - 1) with
    | false =>
      have CI : Hid (∀ w', Calls Tryz.prog 39 #[.int .i64 q.clause, .int .i64 0, .int .i64 ((nc : Int) - 1)] w' fun e w'' => e = .returned (.bool false) ∧ w'' = w') := fun w' => by
        have := withinM_any q.clause 0 ((nc : Int) - 1) w'
        rwa [hin] at this
      have HC : Hid (clauseOf ms q = none) := clauseOf_out HFN.out (by rw [HNC.out]; exact hin)
      clear hin
      go_wp2_with fail
      have hCne : Nonempty (Wd (fun w' => SameOn All w2 w' ∧ Below w.heap.size w w')) := ⟨⟨w2.drew, ⟨⟨Nat.le_refl _, fun _ _ _ => rfl⟩, B2.out.drew⟩⟩⟩
      refine wp_region_class (fun w' => SameOn All w2 w' ∧ Below w.heap.size w w') (by kernel_rfl) (by kernel_rfl) ⟨⟨Nat.le_refl _, fun _ _ _ => rfl⟩, B2.out.drew⟩ ?_
      repeat (go_big_quiet_step ((rename_i mm; go_at_call 39; refine (CI.out _).mono ?_; rintro e w1 ⟨rfl, rfl⟩; exact ⟨rfl, ⟨mm, rfl⟩⟩)))
      refine wpQuiet_nil ?_
      rintro _ ⟨mq, rfl⟩
      have HB4 : Hid (Below w.heap.size w mq.val) := mq.ok.2
      have HS4 : Hid (SameOn All w2 mq.val) := mq.ok.1
      generalize mq.val = w4 at HB4 HS4 ⊢
      go_wp2_with fail
      go_ret
      exact ⟨.inl ⟨rfl, HC.out⟩, HB4.out⟩
    | true =>
      have hin2 := hin
      simp only [inB, decide_eq_true_eq] at hin2
      obtain ⟨i, hi⟩ : ∃ i : Nat, q.clause = i := ⟨q.clause.toNat, by omega⟩
      have CI : Hid (∀ w', Calls Tryz.prog 39 #[.int .i64 i, .int .i64 0, .int .i64 ((nc : Int) - 1)] w' fun e w'' => e = .returned (.bool true) ∧ w'' = w') := fun w' => by
        have := withinM_any (i : Int) 0 ((nc : Int) - 1) w'
        rw [hi] at hin
        rwa [hin] at this
      obtain ⟨c, hck⟩ : ∃ c, f.clauses[i]? = some c := ⟨f.clauses[i]'(by rw [HNC.out]; omega), List.getElem?_eq_getElem _⟩
      have HC : Hid (clauseOf ms q = some c) := by
        show _ = _
        rw [clauseOf_in HFN.out hi (by rw [HNC.out]; exact hin)]
        exact hck
      obtain ⟨gc, oc, rfl, -, hgc, hatc⟩ := hxc (by intro h; rw [h] at hck; simp at hck)
      obtain ⟨ccs, hccl, hccs, hcl0⟩ := hatc i c hck
      have HCL : Hid (∃ cs, cs.length = 2 ∧ (∀ i', i' < 2 → w2.cell? ⟨gc, oc + i * 2 + i', none⟩ = cs[i']?) ∧ HCl w2 All (HEx w2 All d) cs c) := ⟨ccs, hccl, hccs, hcl0⟩
      have HE2 : Hid (w2.cell? ⟨gf, og + 2, none⟩ = some (.slice (some ⟨gc, oc, none⟩) f.clauses.length cc)) := by show _ = _; rw [HNC.out]; exact e2
      have HCK : Hid (f.clauses[i]? = some c) := hck
      have HGC : Hid (gc < w2.heap.size) := hgc
      have HQI : Hid (q.clause = i) := hi
      have hii : (i : Int) < (nc : Int) := by omega
      have hi0 : (0 : Int) ≤ (i : Int) := by omega
      rw [hi] at qx3
      clear hin hin2 hatc hccs hccl hxc hck hcl0 e2
      go_wp2_with fail
      have hCne : Nonempty (Wd (fun w' => SameOn All w2 w' ∧ Below w.heap.size w w')) := ⟨⟨w2.drew, ⟨⟨Nat.le_refl _, fun _ _ _ => rfl⟩, B2.out.drew⟩⟩⟩
      refine wp_region_class (fun w' => SameOn All w2 w' ∧ Below w.heap.size w w') (by kernel_rfl) (by kernel_rfl) ⟨⟨Nat.le_refl _, fun _ _ _ => rfl⟩, B2.out.drew⟩ ?_
      repeat (go_big_quiet_step ((rename_i mm; go_at_call 39; refine (CI.out _).mono ?_; rintro e w1 ⟨rfl, rfl⟩; exact ⟨rfl, ⟨mm, rfl⟩⟩)))
      refine wpQuiet_nil ?_
      rintro _ ⟨mq, rfl⟩
      have HB4 : Hid (Below w.heap.size w mq.val) := mq.ok.2
      have HS4 : Hid (SameOn All w2 mq.val) := mq.ok.1
      generalize mq.val = w4 at HB4 HS4 ⊢
      have S4 := HS4.out
      go_wp2_with fail
      have hCne2 : Nonempty (Wd (fun w' => SameOn All w2 w' ∧ Below w.heap.size w w')) := ⟨⟨w4.drew, ⟨HS4.out, HB4.out.drew⟩⟩⟩
      refine wp_region_class (fun w' => SameOn All w2 w' ∧ Below w.heap.size w w') (by kernel_rfl) (by kernel_rfl) ⟨HS4.out, HB4.out.drew⟩ ?_
      repeat (go_big_quiet_step (fail))
      refine wpQuiet_nil ?_
      rintro _ ⟨mq, rfl⟩
      have HB5 : Hid (Below w.heap.size w mq.val) := mq.ok.2
      have HS5 : Hid (SameOn All w2 mq.val) := mq.ok.1
      generalize mq.val = w5 at HB5 HS5 ⊢
      go_wp2_with fail
      go_ret
      have hb5 := HS5.out
      obtain ⟨cs, k1, k2, k3⟩ := HCL.out
      refine ⟨.inr ⟨gc, oc + i * 2, c, rfl, HC.out, gf, og, k, j, m, f, HP.out.same HS5.out, i, oc, cc, HQI.out, HCK.out, Nat.lt_of_lt_of_le HGC.out HS5.out.1, (World.cell?_of_block (HS5.out.2 gf trivial hgfw)).trans HE2.out, rfl, cs, k1, fun i' hi' => (World.cell?_of_block (HS5.out.2 gc trivial HGC.out)).trans (k2 i' hi'), k3.mono HS5.out (fun _ h => h) (fun _ _ h => h.mono HS5.out (fun _ h => h))⟩, HB5.out⟩
end Go.Proofs.YtoknolophmhlgaaGreatDoor
/-
  Rows that are grown by append, of elements of any number of cells: what their cells are.
-/
namespace Go.Proofs.YtoknolophmhlgaaGreatDoor
open Go.ChangeShapes Go.WideShapes Go.ChangeAt Go.RowKit
set_option linter.unusedVariables false

/-- Cells that are R's elements, c cells each. -/
def CellsR {α : Type} (c : Nat) (R : List Value → α → Prop) (cells : List Value) (l : List α) : Prop :=
  cells.length = l.length * c ∧ ∀ i y, l[i]? = some y → ∃ cs, cs.length = c ∧ (∀ j, j < c → cells[i * c + j]? = cs[j]?) ∧ R cs y
section
variable {α : Type} {c : Nat} {R R' : List Value → α → Prop} {cells more : List Value} {l m : List α}
theorem CellsR.nil : CellsR c R [] ([] : List α) := ⟨by simp, fun i y h => by simp at h⟩
theorem CellsR.append (h : CellsR c R cells l) (k : CellsR c R more m) : CellsR c R (cells ++ more) (l ++ m) := by
  refine ⟨by rw [List.length_append, List.length_append, h.1, k.1, Nat.add_mul], fun i y hi => ?_⟩
  by_cases hl : i < l.length
  · rw [List.getElem?_append_left hl] at hi
    obtain ⟨cs, h1, h2, h3⟩ := h.2 i y hi
    refine ⟨cs, h1, fun j hj => ?_, h3⟩
    rw [List.getElem?_append_left, h2 j hj]
    rw [h.1]
    have : (i + 1) * c ≤ l.length * c := Nat.mul_le_mul_right _ hl
    rw [Nat.add_mul] at this
    omega
  · rw [List.getElem?_append_right (by omega)] at hi
    obtain ⟨cs, h1, h2, h3⟩ := k.2 _ y hi
    refine ⟨cs, h1, fun j hj => ?_, h3⟩
    have e : i * c + j - cells.length = (i - l.length) * c + j := by
      rw [h.1, Nat.sub_mul]
      have : l.length * c ≤ i * c := Nat.mul_le_mul_right _ (by omega)
      omega
    rw [List.getElem?_append_right (by rw [h.1]; have : l.length * c ≤ i * c := Nat.mul_le_mul_right _ (by omega); omega), e]
    exact h2 j hj
theorem CellsR.mono (h : CellsR c R cells l) (hR : ∀ cs y, y ∈ l → R cs y → R' cs y) : CellsR c R' cells l :=
  ⟨h.1, fun i y hi => by obtain ⟨cs, h1, h2, h3⟩ := h.2 i y hi; exact ⟨cs, h1, h2, hR cs y (List.mem_of_getElem? hi) h3⟩⟩
theorem CellsR.one {cs : List Value} {y : α} (hc : cs.length = c) (h : R cs y) : CellsR c R cs [y] :=
  ⟨by simp [hc], fun i z hi => by
    cases i with
    | zero => simp at hi; subst hi; exact ⟨cs, hc, fun j _ => by simp, h⟩
    | succ i => simp at hi⟩
theorem CellsR.oneCell (hc : 0 < c) (h : CellsR c R cells l) (hR : ∀ cs y, R cs y → ∀ u ∈ cs, u.oneCell' = true) : ∀ u ∈ cells, u.oneCell' = true := by
  intro u hu
  obtain ⟨j, hj⟩ := List.mem_iff_getElem?.1 hu
  have hlt := (List.getElem?_eq_some_iff.1 hj).1
  rw [h.1] at hlt
  have hd : j / c < l.length := Nat.div_lt_of_lt_mul (by rw [Nat.mul_comm]; exact hlt)
  obtain ⟨cs, h1, h2, h3⟩ := h.2 (j / c) (l[j / c]) (List.getElem?_eq_getElem hd)
  have h4 := h2 (j % c) (Nat.mod_lt _ hc)
  rw [show j / c * c + j % c = j by rw [Nat.mul_comm]; exact Nat.div_add_mod j c, hj] at h4
  exact hR cs _ h3 u (List.mem_of_getElem? h4.symm)
theorem rowsCellsR (hc : 0 < c) {w : World} {S : Nat → Prop} {ad : Addr} {n cap : Nat} (h : Rows w S c R (.slice (some ad) n cap) l) : n = l.length ∧ ∃ cells, CellsR c R cells l ∧ ∀ j u, cells[j]? = some u → w.cell? (ad.add j) = some u := by
  obtain ⟨p, cap', hv, h1, h2, hx⟩ := h
  simp only [Value.slice.injEq] at hv
  obtain ⟨rfl, rfl, rfl⟩ := hv
  refine ⟨rfl, ?_⟩
  cases l with
  | nil => exact ⟨[], CellsR.nil, fun j u h => by simp at h⟩
  | cons y0 l =>
    obtain ⟨g, off, hp, -, -, hat⟩ := hx (by simp)
    obtain rfl := Option.some.inj hp
    have hadd : ∀ j, (⟨g, off, none⟩ : Addr).add j = ⟨g, off + j, none⟩ := fun j => by by_cases h : j = 0 <;> simp [Addr.add, h]
    have key : ∀ j, j < (y0 :: l).length * c → ∃ u, w.cell? ⟨g, off + j, none⟩ = some u := fun j hj => by
      have hd : j / c < (y0 :: l).length := Nat.div_lt_of_lt_mul (by rw [Nat.mul_comm]; exact hj)
      obtain ⟨cs, k1, k2, k3⟩ := hat (j / c) _ (List.getElem?_eq_getElem hd)
      have h4 := k2 (j % c) (Nat.mod_lt _ hc)
      rw [show off + j / c * c + j % c = off + j by rw [Nat.add_assoc, Nat.mul_comm, Nat.div_add_mod]] at h4
      exact ⟨cs[j % c]'(by rw [k1]; exact Nat.mod_lt _ hc), h4.trans (List.getElem?_eq_getElem _)⟩
    refine ⟨(List.range ((y0 :: l).length * c)).map fun j => (w.cell? ⟨g, off + j, none⟩).getD undef, ⟨by simp, fun i y hi => ?_⟩, fun j u hj => ?_⟩
    · obtain ⟨cs, k1, k2, k3⟩ := hat i y hi
      refine ⟨cs, k1, fun j hj => ?_, k3⟩
      have hil := (List.getElem?_eq_some_iff.1 hi).1
      have hlt : i * c + j < (y0 :: l).length * c := by
        have : (i + 1) * c ≤ (y0 :: l).length * c := Nat.mul_le_mul_right _ hil
        rw [Nat.add_mul] at this
        omega
      rw [List.getElem?_map, List.getElem?_range hlt]
      obtain ⟨u, hu⟩ := key _ hlt
      have h5 := k2 j hj
      rw [Nat.add_assoc, hu] at h5
      simp only [Option.map_some, hu, Option.getD_some]
      exact h5
    · have hlt : j < (y0 :: l).length * c := by simpa using (List.getElem?_eq_some_iff.1 hj).1
      rw [List.getElem?_map, List.getElem?_range hlt] at hj
      obtain ⟨v, hv⟩ := key j hlt
      simp only [Option.map_some, hv, Option.getD_some, Option.some.injEq] at hj
      rw [hadd, hv, hj]
theorem CellsR.rows {w : World} {B : Nat} {e : TypeId} {v : Value} {n : Nat} (h : w.ownsRow B e c v n cells) (k : CellsR c R cells l) (hn : n = l.length) : Rows w All c R v l := by
  subst hn
  have hl := k.1
  rcases h.2 with ⟨rfl, hz⟩ | ⟨g, cap, cur, rfl, hB, hg, h1, h2, h3, h4⟩
  · obtain rfl := List.length_eq_zero_iff.1 hz
    exact Rows.nil (Nat.zero_le _)
  · refine ⟨_, cap, rfl, h1, h2, fun hne => ⟨g, 0, rfl, trivial, (Array.getElem?_eq_some_iff.1 hg).1, fun i x hi => ?_⟩⟩
    obtain ⟨cs, k1, k2, k3⟩ := k.2 i x hi
    refine ⟨cs, k1, fun j hj => ?_, k3⟩
    have hil := (List.getElem?_eq_some_iff.1 hi).1
    have hlt : i * c + j < l.length * c := by
      have : (i + 1) * c ≤ l.length * c := Nat.mul_le_mul_right _ hil
      rw [Nat.add_mul] at this
      omega
    rw [← k2 j hj, Nat.zero_add]
    exact h.cellAt _ hlt
end

section
variable {P : Program} {w : World}
theorem run_append_nil (base : Nat) (t ty e : TypeId) (i : TypeInfo) (size : Nat) (ht : P.underlying t = some (.slice e)) (hi : P.info? e = some i)
    (v : Value) (n : Nat) (xs : List Value) (c : Nat) (hown : w.ownsRow base e size v n xs) :
    (Builtin.append_ #[t, t] ty #[v, .slice none 0 c]).run P w = .ok v w := by
  rcases hown.2 with ⟨rfl, rfl⟩ | ⟨g, cap, cur, rfl, _, _, hnc, _⟩
  · simp [Builtin.append_, run_underlying ht, sizeOf, typeInfo, hi, Builtin.lenOf, Builtin.firstCells]
  · simp [Builtin.append_, run_underlying ht, sizeOf, typeInfo, hi, Builtin.lenOf, Builtin.firstCells, hnc, storeCells]
/-- A row that has no memory, behind one that is owned. -/
theorem wpList_append_nil {ops : Array Oper} {rest : List Oper} {o : Oper} {a : Act} {Q : Exit → Act → World → Prop} (hgd : o.guard = none) (s x : Operand) (t : TypeId)
    (ho : o.op = .call { callee := .builtin .append, args := #[s, x], argTypes := #[t, t] })
    (base : Nat) (e : TypeId) (i : TypeInfo) (size : Nat) (ht : P.underlying t = some (.slice e)) (hi : P.info? e = some i)
    (v : Value) (n : Nat) (xs : List Value) (c : Nat) (hs : a.eval s = v) (hown : w.ownsRow base e size v n xs) (hx : a.eval x = .slice none 0 c)
    (h : wpList P ops Q rest (a.put o.dst v) w) : wpList P ops Q (o :: rest) a w := by
  refine wpList_plain hgd fun K hK => ?_
  have hrun := run_append_nil (P := P) (w := w) base t o.type e i size ht hi v n xs c hown
  unfold Oper.wp
  simp [execOp, ho, resolve, invoke, builtin, hs, hx, hrun, Result.andThen]
  exact hK _ _ h
/-- append(s, xs...): whatever row of elements stands behind, that has memory or none. -/
theorem wpList_append_rows {α : Type} {R : List Value → α → Prop} {S : Nat → Prop} {ops : Array Oper} {rest : List Oper} {o : Oper} {a : Act} {Q : Exit → Act → World → Prop} (hgd : o.guard = none) (s x : Operand) (t : TypeId)
    (ho : o.op = .call { callee := .builtin .append, args := #[s, x], argTypes := #[t, t] })
    (base : Nat) (e : TypeId) (i : TypeInfo) (z : Value) (size bytes : Nat) (ht : P.underlying t = some (.slice e)) (hi : P.info? e = some i) (hz : i.zero = some z)
    (hsize : i.size = size) (hby : i.bytes = bytes) (hzs : z.cells.size = size) (hsz : 0 < size)
    (v : Value) (n : Nat) (xs : List Value) (hs : a.eval s = v) (hown : w.ownsRow base e size v n xs)
    (u : Value) (m : List α) (hx : a.eval x = u) (hr : Rows w S size R u m) (hone : ∀ cs y, R cs y → ∀ q ∈ cs, q.oneCell' = true)
    (h63 : n + m.length ≤ maxLen) (hbytes : (n + m.length) * bytes ≤ 140737488355328) (hbase : base ≤ w.heap.size)
    (h : ∀ v' w' news, CellsR size R news m → w'.ownsRow base e size v' (n + m.length) (xs ++ news) → w.grownBy w' v.ownBlock → wpList P ops Q rest (a.put o.dst v') w') : wpList P ops Q (o :: rest) a w := by
  obtain ⟨p, cap, hv, h1, h2, hat⟩ := id hr
  cases p with
  | none =>
    have hm : m = [] := Classical.byContradiction fun hne => by
      obtain ⟨g, off, hp, _⟩ := hat hne
      cases hp
    subst hm
    simp only [List.length_nil] at *
    refine wpList_append_nil hgd s x t ho base e i size ht hi v n xs cap hs hown (hx.trans hv) ?_
    exact h v w [] CellsR.nil (by simpa using hown) ⟨rfl, rfl, rfl, Nat.le_refl _, fun _ _ _ => rfl⟩
  | some ad =>
    rw [hv] at hr
    obtain ⟨-, news, hc, hnews⟩ := rowsCellsR hsz hr
    refine wpList_append_own _ hgd s x t ho base e i z size bytes ht hi hz hsize hby hzs hsz v n xs hs hown ad m.length cap news (hx.trans hv) hc.1 hnews (hc.oneCell hsz hone) h63 hbytes hbase ?_
    intro v' w' k1 k2 _
    exact h v' w' news hc k1 k2
/-- The same as an arm of a region that draws its order. -/
theorem step_append_rows {α : Type} {R : List Value → α → Prop} {S : Nat → Prop} {ops : Array Oper} {o : Oper} {a : Act} {K : Act → World → Prop} {Q : Exit → Act → World → Prop} {E : Prop} (hgd : o.guard = none) (s x : Operand) (t : TypeId)
    (ho : o.op = .call { callee := .builtin .append, args := #[s, x], argTypes := #[t, t] })
    (base : Nat) (e : TypeId) (i : TypeInfo) (z : Value) (size bytes : Nat) (ht : P.underlying t = some (.slice e)) (hi : P.info? e = some i) (hz : i.zero = some z)
    (hsize : i.size = size) (hby : i.bytes = bytes) (hzs : z.cells.size = size) (hsz : 0 < size)
    (v : Value) (n : Nat) (xs : List Value) (hs : a.eval s = v) (hown : w.ownsRow base e size v n xs)
    (u : Value) (m : List α) (hx : a.eval x = u) (hr : Rows w S size R u m) (hone : ∀ cs y, R cs y → ∀ q ∈ cs, q.oneCell' = true)
    (h63 : n + m.length ≤ maxLen) (hbytes : (n + m.length) * bytes ≤ 140737488355328) (hbase : base ≤ w.heap.size)
    (h : ∀ v' w' news, CellsR size R news m → w'.ownsRow base e size v' (n + m.length) (xs ++ news) → w.grownBy w' v.ownBlock → K (a.put o.dst v') w') :
    if Region.wanted o (yielded ops a.tmps) = true then Oper.wp P o a w K Q else E := by
  have hw : Region.wanted o (yielded ops a.tmps) = true := by simp [Region.wanted, hgd]
  rw [if_pos hw]
  obtain ⟨p, cap, hv, h1, h2, hat⟩ := id hr
  cases p with
  | none =>
    have hm : m = [] := Classical.byContradiction fun hne => by
      obtain ⟨g, off, hp, _⟩ := hat hne
      cases hp
    subst hm
    simp only [List.length_nil] at *
    have hrun := run_append_nil (P := P) (w := w) base t o.type e i size ht hi v n xs cap hown
    unfold Oper.wp
    simp [execOp, ho, resolve, invoke, builtin, hs, hx.trans hv, hrun, Result.andThen]
    exact h v w [] CellsR.nil (by simpa using hown) ⟨rfl, rfl, rfl, Nat.le_refl _, fun _ _ _ => rfl⟩
  | some ad =>
    rw [hv] at hr
    obtain ⟨-, news, hc, hnews⟩ := rowsCellsR hsz hr
    refine wp_append_own w s x t ho base e i z size bytes ht hi hz hsize hby hzs hsz v n xs hs hown ad m.length cap news (hx.trans hv) hc.1 hnews (hc.oneCell hsz hone) h63 hbytes hbase ?_
    intro v' w' k1 k2 _
    exact h v' w' news hc k1 k2
end
theorem cellsR_str {news : List Value} {l : List ByteArray} (h : CellsR 1 HStr news l) : news = strs l := by
  refine List.ext_getElem? fun i => ?_
  by_cases hi : i < l.length
  · obtain ⟨cs, h1, h2, rfl, -⟩ := h.2 i (l[i]) (List.getElem?_eq_getElem hi)
    have h4 := h2 0 (by omega)
    rw [show i * 1 + 0 = i by omega] at h4
    rw [h4]; simp [strs, hi]
  · rw [List.getElem?_eq_none (by rw [h.1]; omega), List.getElem?_eq_none (by rw [strs_length]; omega)]
theorem str_oneCell (cs : List Value) (s : ByteArray) (h : HStr cs s) : ∀ u ∈ cs, u.oneCell' = true := by
  obtain ⟨rfl, -⟩ := h
  intro u hu
  simp at hu; subst hu; rfl
end Go.Proofs.YtoknolophmhlgaaGreatDoor
