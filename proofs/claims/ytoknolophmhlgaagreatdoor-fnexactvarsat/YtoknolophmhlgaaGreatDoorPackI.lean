/-
  Texts of the proof, packed: AtImplA, NameSpecD.
-/
import Derived.Test.YtoknolophmhlgaaGreatDoorPackH
import Derived.Test.YtoknolophmhlgaaGreatDoorPackE
/-
  The program's funAt and clauseAt, by contract: pointers into the program that is handed in.
-/
namespace Go.Proofs.YtoknolophmhlgaaGreatDoor
open Go.ChangeShapes Go.WideShapes Go.ChangeAt Go.RowKit
set_option linter.unusedVariables false
set_option maxRecDepth 100000

theorem refAt_any (q : Pl) (w : World) : Calls Tryz.prog 61 #[.agg #[.string q.mod, .string q.name, .int .i64 q.arity, .int .i64 q.clause]] w fun e w' => e = .returned (.agg #[.string q.name, .int .i64 q.arity]) ∧ Below w.heap.size w w' := by
  obtain ⟨m, s, n, c⟩ := q
  have BL : Hid (∀ (cs cs' : Array Value) (t t' : TypeId), Below w.heap.size w ((w.alloc (.cells cs t)).alloc (.cells cs' t'))) := fun cs cs' t t' => ((Below.refl _ _).alloc (Nat.le_refl _) _).alloc (by simp) _
  have RB : Hid (∀ (cs : Array Value) (t : TypeId), Blk ((w.alloc (.cells cs t)).alloc (.cells #[.string s, .int .i64 n] 88)) (w.heap.size + 1) #[.string s, .int .i64 n] 88) := fun cs t => by
    have := Blk.new (w := w.alloc (.cells cs t)) (cs := #[.string s, .int .i64 n]) (t := 88)
    rwa [alloc_hs] at this
  go_enter Tryz.func61, Tryz.ntmps61
  go_wp2_with fail
  have q0 := (RB.out #[.string m, .string s, .int .i64 n, .int .i64 c] 31).cell 0 _ rfl
  have q1 := (RB.out #[.string m, .string s, .int .i64 n, .int .i64 c] 31).cell 1 _ rfl
  exact bodyPost_ret (v := .agg #[.string s, .int .i64 n]) (by simp [results, Tryz.results61, go_sem, q0, q1]) rfl ⟨rfl, BL.out _ _ _ _⟩

/-- A module that is named so and has such a function. -/
def hasAt (q : Pl) (m : Md) : Bool := named q.mod m && m.funs.any (sameR ⟨q.name, q.arity⟩)
/-- A pointer to a function of the program v. -/
structure FunP (d : Nat) (ms : List Md) (q : Pl) (v : Value) (w : World) (gf o : Nat) (k j : Nat) (m : Md) (f : Fn') : Prop where
  at_k : ms[k]? = some m
  nm : named q.mod m = true
  at_j : m.funs[j]? = some f
  first : m.funs.find? (sameR ⟨q.name, q.arity⟩) = some f
  before : (m.funs.take j).any (sameR ⟨q.name, q.arity⟩) = false
  lt : gf < w.heap.size
  lies : ∃ g off cap of cf, v = .slice (some ⟨g, off, none⟩) ms.length cap ∧ w.cell? ⟨g, off + k * 3 + 2, none⟩ = some (.slice (some ⟨gf, of, none⟩) m.funs.length cf) ∧ o = of + j * 3
  is : ∃ cs, cs.length = 3 ∧ (∀ i, i < 3 → w.cell? ⟨gf, o + i, none⟩ = cs[i]?) ∧ HFn w All d cs f
def FunE (d : Nat) (ms : List Md) (q : Pl) (v : Value) (w : World) (e : Ending) : Prop :=
  (e = .returned (.pointer none) ∧ ms.any (hasAt q) = false) ∨ ∃ gf o k j m f, e = .returned (.pointer (some ⟨gf, o, none⟩)) ∧ FunP d ms q v w gf o k j m f

theorem FunP.next {d : Nat} {ms : List Md} {q : Pl} {v : Value} {w w' : World} {gf o k j : Nat} {m : Md} {f : Fn'} (h : FunP d ms q v w gf o k j m f) (hb : Below w.heap.size w w') : FunP d ms q v w' gf o k j m f := by
  obtain ⟨g, off, cap, of, cf, h1, h2, h3⟩ := h.lies
  obtain ⟨cs, c1, c2, c3⟩ := h.is
  refine ⟨h.at_k, h.nm, h.at_j, h.first, h.before, Nat.lt_of_lt_of_le h.lt hb.size, ⟨g, off, cap, of, cf, h1, cell_next hb h2, h3⟩, ⟨cs, c1, fun i hi => (hb.cell (p := ⟨gf, o + i, none⟩) h.lt).trans (c2 i hi), c3.mono (SameOn.of_below hb) (fun _ h => h)⟩⟩

theorem find_first {α : Type} {f : α → Bool} {xs : List α} {k : Nat} {x : α} (h : (xs.take k).any f = false) (hx : xs[k]? = some x) (hf : f x = true) : xs.find? f = some x := by
  obtain ⟨hk, he⟩ := List.getElem?_eq_some_iff.1 hx
  rw [List.find?_eq_some_iff_getElem]
  refine ⟨hf, k, hk, he, fun j hj => ?_⟩
  have := List.any_eq_false.1 h (xs[j]) (List.mem_of_getElem? (i := j) (by rw [List.getElem?_take, if_pos hj]; exact List.getElem?_eq_getElem _))
  simpa using this

set_option maxHeartbeats 16000000 in
theorem funAt_any (d : Nat) (w : World) (v : Value) (ms : List Md) (q : Pl) (h : Rows w All 3 (HMd w All d) v ms) :
    Calls Tryz.prog 38 #[v, .agg #[.string q.mod, .string q.name, .int .i64 q.arity, .int .i64 q.clause]] w fun e w' => FunE d ms q v w' e ∧ Below w.heap.size w w' := by
  obtain ⟨qm, qn, qa, qc⟩ := q
  simp only
  obtain ⟨p, cap, rfl, hcl, hcm, hx⟩ := h
  have hnb : ms.length ≤ 9223372036854775807 := by unfold maxLen at hcm; omega
  generalize hn : ms.length = n at *
  have HN : Hid (ms.length = n) := hn
  have HX : Hid (ms ≠ [] → ∃ g off, p = some ⟨g, off, none⟩ ∧ All g ∧ g < w.heap.size ∧ ∀ i x, ms[i]? = some x → ∃ cs, cs.length = 3 ∧ (∀ j, j < 3 → w.cell? ⟨g, off + i * 3 + j, none⟩ = cs[j]?) ∧ HMd w All d cs x) := hx
  obtain ⟨W1, hW1⟩ : ∃ W1, W1 = w.alloc (.cells #[.string qm, .string qn, .int .i64 qa, .int .i64 qc] 31) := ⟨_, rfl⟩
  have bA : Hid (Blk W1 w.heap.size #[.string qm, .string qn, .int .i64 qa, .int .i64 qc] 31) := by show Blk _ _ _ _; rw [hW1]; exact Blk.new
  have B1 : Hid (Below w.heap.size w W1) := by show Below _ _ _; rw [hW1]; exact (Below.refl _ _).alloc (Nat.le_refl _) _
  have HW1 : Hid (W1 = w.alloc (.cells #[.string qm, .string qn, .int .i64 qa, .int .i64 qc] 31)) := hW1
  clear hx hn hW1
  go_enter Tryz.func38, Tryz.ntmps38
  go_wp2_with fail
  rw [← HW1.out]
  go_loopw [11] (fun iv wr => ∃ k : Nat, k ≤ n ∧ iv = .int .i64 k ∧ Hid ((ms.take k).any (hasAt ⟨qm, qn, qa, qc⟩) = false) ∧ Hid (SameOn All W1 wr) ∧ Below w.heap.size w wr) (fun iv _ => n - (intOf iv).toNat)
  case atStart => exact ⟨0, Nat.zero_le _, rfl, by show _ = _; simp, ⟨Nat.le_refl _, fun _ _ _ => rfl⟩, B1.out⟩
  case round =>
    obtain ⟨k, hk, rfl, hall, hso, hb⟩ := hrel
    have HB : Hid (Below w.heap.size w wr) := hb
    by_cases hlt : k < n
    · obtain ⟨x, hxk⟩ : ∃ x, ms[k]? = some x := ⟨ms[k]'(by rw [HN.out]; exact hlt), List.getElem?_eq_getElem _⟩
      obtain ⟨g, off, rfl, -, hgl, hat⟩ := HX.out (by intro h; rw [h] at hxk; simp at hxk)
      obtain ⟨cs, hcsl, hcs, ev, fv, rfl, -, f0, f1⟩ := hat k x hxk
      obtain ⟨pe, ce, rfl, -⟩ := f0
      obtain ⟨pf, cf, rfl, hclf, hcmf, hxf⟩ := f1
      have a0 := hcs 0 (by omega)
      have a1 := hcs 1 (by omega)
      have a2 := hcs 2 (by omega)
      rw [← hb.cell (p := ⟨g, _, none⟩) hgl] at a0 a1 a2
      simp at a0 a1 a2
      have HXF : Hid (x.funs ≠ [] → ∃ g off, pf = some ⟨g, off, none⟩ ∧ All g ∧ g < w.heap.size ∧ ∀ i y, x.funs[i]? = some y → ∃ cs, cs.length = 3 ∧ (∀ j, j < 3 → w.cell? ⟨g, off + i * 3 + j, none⟩ = cs[j]?) ∧ HFn w All d cs y) := hxf
      have HA2 : Hid (w.cell? ⟨g, off + k * 3 + 2, none⟩ = some (.slice pf x.funs.length cf)) := by have := hcs 2 (by omega); simp at this; exact this
      have hki : (k : Int) < (n : Int) := by omega
      have hk0 : (0 : Int) ≤ (k : Int) := by omega
      have hnf : x.funs.length ≤ 9223372036854775807 := by unfold maxLen at hcmf; omega
      obtain ⟨W5, hW5⟩ : ∃ W5, W5 = wr.alloc (.cells #[.string x.name, .slice pe x.exports.length ce, .slice pf x.funs.length cf] 53) := ⟨_, rfl⟩
      have bM : Hid (Blk W5 wr.heap.size #[.string x.name, .slice pe x.exports.length ce, .slice pf x.funs.length cf] 53) := by show Blk _ _ _ _; rw [hW5]; exact Blk.new
      have K5 : Below wr.heap.size wr W5 := by rw [hW5]; exact (Below.refl _ _).alloc (Nat.le_refl _) _
      have B5 : Hid (Below w.heap.size w W5) := hb.trans (K5.mono hb.size)
      have S5 : Hid (SameOn All W1 W5) := hso.out.trans (SameOn.of_below K5)
      have HW5 : Hid (W5 = wr.alloc (.cells #[.string x.name, .slice pe x.exports.length ce, .slice pf x.funs.length cf] 53)) := hW5
      have z2 := bM.out.cell 2 _ rfl
      generalize hnfl : x.funs.length = nf at *
      have HNF : Hid (x.funs.length = nf) := hnfl
      generalize x.exports.length = ne at *
      have HXK : Hid (ms[k]? = some x) := hxk
      clear hb hcs hat hcsl hW5 K5 hnfl hxf hxk
      go_wp2_with fail
      rw [← HW5.out]
      generalize hmb : wr.heap.size = mb at bM z2 ⊢
      clear hmb
      go_loopw [18] (fun iv wr' => ∃ j : Nat, j ≤ nf ∧ iv = .int .i64 j ∧ Hid (named qm x = true → (x.funs.take j).any (sameR ⟨qn, qa⟩) = false) ∧ Hid (SameOn All W5 wr') ∧ Below w.heap.size w wr') (fun iv _ => nf - (intOf iv).toNat)
      case atStart => exact ⟨0, Nat.zero_le _, rfl, (fun _ => by simp), ⟨Nat.le_refl _, fun _ _ _ => rfl⟩, B5.out⟩
      case round =>
        obtain ⟨j, hj, rfl, halj, hsj, hbj⟩ := hrel
        by_cases hjt : j < nf
        · obtain ⟨y, hyj⟩ : ∃ y, x.funs[j]? = some y := ⟨x.funs[j]'(by rw [HNF.out]; exact hjt), List.getElem?_eq_getElem _⟩
          obtain ⟨gf, of, rfl, -, hgf, hatf⟩ := HXF.out (by intro h; rw [h] at hyj; simp at hyj)
          obtain ⟨fcs, hfl, hfcs, r1⟩ := hatf j y hyj
          have HFC : Hid (fcs.length = 3 ∧ (∀ i, i < 3 → w.cell? ⟨gf, of + j * 3 + i, none⟩ = fcs[i]?) ∧ HFn w All d fcs y) := ⟨hfl, hfcs, r1⟩
          obtain ⟨p1, n1, q1, rfl⟩ := fnShape r1
          have c0 := hfcs 0 (by omega)
          have c1 := hfcs 1 (by omega)
          have c2 := hfcs 2 (by omega)
          rw [← hbj.cell (p := ⟨gf, _, none⟩) hgf] at c0 c1 c2
          simp at c0 c1 c2
          have hji : (j : Int) < (nf : Int) := by omega
          have hj0 : (0 : Int) ≤ (j : Int) := by omega
          obtain ⟨W7, hW7⟩ : ∃ W7, W7 = wr.alloc (.cells #[.string y.name, .int .i64 y.arity, .slice p1 n1 q1] 68) := ⟨_, rfl⟩
          have bF : Hid (Blk W7 wr.heap.size #[.string y.name, .int .i64 y.arity, .slice p1 n1 q1] 68) := by show Blk _ _ _ _; rw [hW7]; exact Blk.new
          have K7 : Below wr.heap.size wr W7 := by rw [hW7]; exact (Below.refl _ _).alloc (Nat.le_refl _) _
          have B7 : Hid (Below w.heap.size w W7) := hbj.trans (K7.mono hbj.size)
          have S7 : Hid (SameOn All W5 W7) := hsj.out.trans (SameOn.of_below K7)
          have HW7 : Hid (W7 = wr.alloc (.cells #[.string y.name, .int .i64 y.arity, .slice p1 n1 q1] 68)) := hW7
          have bA7 := bA.out.same_on (S5.out.trans S7.out)
          have bM7 := bM.out.same_on S7.out
          have y0 := bA7.cell 0 _ rfl
          have y1 := bA7.cell 1 _ rfl
          have y2 := bA7.cell 2 _ rfl
          have y3 := bA7.cell 3 _ rfl
          have m0 := bM7.cell 0 _ rfl
          have z0 := bF.out.cell 0 _ rfl
          have z1 := bF.out.cell 1 _ rfl
          have z2 := bF.out.cell 2 _ rfl
          have l1 := bA7.lt
          have l2 := bM7.lt
          have l3 := bF.out.lt
          have qy0 : ∀ m : Wd (fun w' => SameOn All W7 w' ∧ Below w.heap.size w w'), m.val.cell? ⟨w.heap.size, 0, none⟩ = some (.string qm) := fun m => (World.cell?_of_block (m.ok.1.2 _ trivial l1)).trans y0
          have qy1 : ∀ m : Wd (fun w' => SameOn All W7 w' ∧ Below w.heap.size w w'), m.val.cell? ⟨w.heap.size, 1, none⟩ = some (.string qn) := fun m => (World.cell?_of_block (m.ok.1.2 _ trivial l1)).trans y1
          have qy2 : ∀ m : Wd (fun w' => SameOn All W7 w' ∧ Below w.heap.size w w'), m.val.cell? ⟨w.heap.size, 2, none⟩ = some (.int .i64 qa) := fun m => (World.cell?_of_block (m.ok.1.2 _ trivial l1)).trans y2
          have qy3 : ∀ m : Wd (fun w' => SameOn All W7 w' ∧ Below w.heap.size w w'), m.val.cell? ⟨w.heap.size, 3, none⟩ = some (.int .i64 qc) := fun m => (World.cell?_of_block (m.ok.1.2 _ trivial l1)).trans y3
          have qm0 : ∀ m : Wd (fun w' => SameOn All W7 w' ∧ Below w.heap.size w w'), m.val.cell? ⟨mb, 0, none⟩ = some (.string x.name) := fun m => (World.cell?_of_block (m.ok.1.2 _ trivial l2)).trans m0
          have qz0 : ∀ m : Wd (fun w' => SameOn All W7 w' ∧ Below w.heap.size w w'), m.val.cell? ⟨wr.heap.size, 0, none⟩ = some (.string y.name) := fun m => (World.cell?_of_block (m.ok.1.2 _ trivial l3)).trans z0
          have qz1 : ∀ m : Wd (fun w' => SameOn All W7 w' ∧ Below w.heap.size w w'), m.val.cell? ⟨wr.heap.size, 1, none⟩ = some (.int .i64 y.arity) := fun m => (World.cell?_of_block (m.ok.1.2 _ trivial l3)).trans z1
          have qz2 : ∀ m : Wd (fun w' => SameOn All W7 w' ∧ Below w.heap.size w w'), m.val.cell? ⟨wr.heap.size, 2, none⟩ = some (.slice p1 n1 q1) := fun m => (World.cell?_of_block (m.ok.1.2 _ trivial l3)).trans z2
          clear hfcs hfl r1 hatf hW7 K7 y0 y1 y2 y3 m0 z0 z1 z2 l1 l2 l3 bA7 bM7
          cases hnm : (x.name.toList == qm.toList) with
          | false =>
            have HJ : Hid (named qm x = true → (x.funs.take (j + 1)).any (sameR ⟨qn, qa⟩) = false) := fun h => by rw [named, hnm] at h; cases h
            clear hbj
            go_wp2_with fail
            rw [← HW7.out]
            have hCne : Nonempty (Wd (fun w' => SameOn All W7 w' ∧ Below w.heap.size w w')) := ⟨⟨W7.drew, ⟨⟨Nat.le_refl _, fun _ _ _ => rfl⟩, B7.out.drew⟩⟩⟩
            refine wp_region_class (fun w' => SameOn All W7 w' ∧ Below w.heap.size w w') (by kernel_rfl) (by kernel_rfl) ⟨⟨Nat.le_refl _, fun _ _ _ => rfl⟩, B7.out.drew⟩ ?_
            repeat (go_big_quiet_step (fail))
            refine wpQuiet_nil ?_
            rintro _ ⟨mq, rfl⟩
            have HB8 : Hid (Below w.heap.size w mq.val) := mq.ok.2
            have HS8 : Hid (SameOn All W5 mq.val) := S7.out.trans mq.ok.1
            generalize mq.val = w8 at HB8 HS8 ⊢
            clear qy0 qy1 qy2 qy3 qm0 qz0 qz1 qz2
            go_wp2_with fail
            exact ⟨⟨j + 1, by omega, by go_num, HJ.out, HS8.out, HB8.out⟩, by simp [intOf]; omega⟩
          | true =>
            have HNM : Hid (named qm x = true) := hnm
            have e1 := refG
            have e2 := refE
            clear hbj
            go_wp2_with fail
            rw [← HW7.out]
            have hCne : Nonempty (Wd (fun w' => SameOn All W7 w' ∧ Below w.heap.size w w')) := ⟨⟨W7.drew, ⟨⟨Nat.le_refl _, fun _ _ _ => rfl⟩, B7.out.drew⟩⟩⟩
            refine wp_region_class (fun w' => SameOn All W7 w' ∧ Below w.heap.size w w') (by kernel_rfl) (by kernel_rfl) ⟨⟨Nat.le_refl _, fun _ _ _ => rfl⟩, B7.out.drew⟩ ?_
            repeat (go_big_quiet_step (first | (rename_i mm; go_at_call 60; refine (refOf_any _ _ _ _ _ _).mono ?_; rintro e w1 ⟨rfl, hb1⟩; exact ⟨rfl, ⟨⟨w1, ⟨(SameOn.trans mm.ok.1 (SameOn.of_below hb1)), mm.ok.2.trans (hb1.mono mm.ok.2.size)⟩⟩, rfl⟩⟩) | (rename_i mm; go_at_call 61; refine (refAt_any ⟨qm, qn, qa, qc⟩ _).mono ?_; rintro e w1 ⟨rfl, hb1⟩; exact ⟨rfl, ⟨⟨w1, ⟨(SameOn.trans mm.ok.1 (SameOn.of_below hb1)), mm.ok.2.trans (hb1.mono mm.ok.2.size)⟩⟩, rfl⟩⟩)))
            refine wpQuiet_nil ?_
            rintro _ ⟨mq, rfl⟩
            have HB8 : Hid (Below w.heap.size w mq.val) := mq.ok.2
            have HS8 : Hid (SameOn All W5 mq.val) := S7.out.trans mq.ok.1
            generalize mq.val = w8 at HB8 HS8 ⊢
            clear qy0 qy1 qy2 qy3 qm0 qz0 qz1 qz2 e1 e2
            generalize hcv : (y.name.toList == qn.toList && y.arity == qa) = cv
            have HC2 : Hid (cv = false → (x.funs.take (j + 1)).any (sameR ⟨qn, qa⟩) = false) := fun h => anyT_succ _ x.funs j _ hyj (halj.out HNM.out) (show (y.name.toList == qn.toList && y.arity == qa) = false from hcv.trans h)
            have HC3 : Hid (cv = true → x.funs.find? (sameR ⟨qn, qa⟩) = some y) := fun h => find_first (halj.out HNM.out) hyj (show (y.name.toList == qn.toList && y.arity == qa) = true from hcv.trans h)
            clear hcv
            cases cv with
            | false =>
              have HT' : Hid ((x.funs.take (j + 1)).any (sameR ⟨qn, qa⟩) = false) := HC2.out rfl
              clear HC2 HC3
              go_wp2_with fail
              exact ⟨⟨j + 1, by omega, by go_num, fun _ => HT'.out, HS8.out, HB8.out⟩, by simp [intOf]; omega⟩
            | true =>
              have HF : Hid (x.funs.find? (sameR ⟨qn, qa⟩) = some y) := HC3.out rfl
              have m2 := (bM.out.same_on HS8.out).cell 2 _ rfl
              have HYJ : Hid (x.funs[j]? = some y) := hyj
              clear HC2 HC3 hyj
              go_wp2_with fail
              go_ret
              refine ⟨.inr ⟨gf, of + j * 3, k, j, x, y, rfl, HXK.out, HNM.out, HYJ.out, HF.out, halj.out HNM.out, Nat.lt_of_lt_of_le hgf HB8.out.size, ⟨g, off, cap, of, cf, by rw [HN.out], by rw [HNF.out]; exact (HB8.out.cell (p := ⟨g, _, none⟩) hgl).trans HA2.out, rfl⟩, ⟨_, HFC.out.1, fun i hi => (HB8.out.cell (p := ⟨gf, _, none⟩) hgf).trans (HFC.out.2.1 i hi), HFC.out.2.2.mono (SameOn.of_below HB8.out) (fun _ h => h)⟩⟩, HB8.out⟩
        · have HT' : Hid ((ms.take (k + 1)).any (hasAt ⟨qm, qn, qa, qc⟩) = false) := anyT_succ _ ms k _ HXK.out hall.out (by
            have := halj.out
            rw [List.take_of_length_le (by rw [HNF.out]; omega)] at this
            show (named qm x && x.funs.any (sameR ⟨qn, qa⟩)) = false
            cases hn : named qm x with
            | false => rfl
            | true => rw [this hn]; rfl)
          have HS9 : Hid (SameOn All W1 wr) := S5.out.trans hsj.out
          have HB9 : Hid (Below w.heap.size w wr) := hbj
          clear hbj
          go_wp2_with fail
          exact ⟨⟨k + 1, by omega, by go_num, HT'.out, HS9.out, HB9.out⟩, by simp [intOf]; omega⟩
    · have HD : Hid (ms.any (hasAt ⟨qm, qn, qa, qc⟩) = false) := by
        have := hall.out
        rwa [List.take_of_length_le (by rw [HN.out]; omega)] at this
      clear hb
      go_wp2_with fail
      go_ret
      exact ⟨.inl ⟨rfl, HD.out⟩, HB.out⟩
end Go.Proofs.YtoknolophmhlgaaGreatDoor
/-
  The specification's l04All: all variables of an expression, each once.
-/
namespace Go.Proofs.YtoknolophmhlgaaGreatDoor
open Go.ChangeShapes Go.WideShapes Go.ChangeAt Go.RowKit
set_option linter.unusedVariables false
set_option maxRecDepth 100000

theorem Got.once {d : Nat} {x : Ex} {l m : List ByteArray} (h : Got d x l) (hs : ∀ s ∈ m, keyS s ∈ varL d x ∧ okS s) : Got d x (onceS l m) :=
  ⟨onceS_nd _ _ h.nd, fun s hs' => by rcases onceS_mem _ _ s hs' with h1 | h1; exact h.sub s h1; exact (hs s h1).1, fun s hs' => by rcases onceS_mem _ _ s hs' with h1 | h1; exact h.ok s h1; exact (hs s h1).2⟩
/-- One cell of an expression's row, and what lies there. -/
def ExAt (w : World) (d : Nat) (p : Option Addr) (ks : List Ex) : Prop := ks ≠ [] → ∃ g off, p = some ⟨g, off, none⟩ ∧ All g ∧ g < w.heap.size ∧ ∀ i x, ks[i]? = some x → ∃ cs, cs.length = 6 ∧ (∀ j, j < 6 → w.cell? ⟨g, off + i * 6 + j, none⟩ = cs[j]?) ∧ HEx w All d cs x
theorem foldC_snoc (f : Ex → List ByteArray) (l : List ByteArray) (cs : List Cl) (k : Nat) (c : Cl) (h : cs[k]? = some c) : (cs.take (k + 1)).foldl (allC f) l = foldV f (foldV f ((cs.take k).foldl (allC f) l) c.1) c.2 := by
  rw [List.take_add_one, h]; simp [allC]

set_option maxHeartbeats 16000000 in
theorem all_of {d : Nat} (hE : NmC 33 d (allV d)) : NmC 33 (d + 1) (allV (d + 1)) := by
  intro w cs x h hwt
  have hok := h.txts
  have HEX : Hid (HEx w All (d + 1) cs x) := h
  obtain ⟨kv, cv, rfl, -, -, hts, hms, f0, f1⟩ := h
  obtain ⟨kx, nx, tx, mx, ks, cl⟩ := x
  simp only [Ex.kind, Ex.n, Ex.text, Ex.mod, Ex.kids, Ex.clauses] at *
  have hw : wtEx (d + 1) (.mk kx nx tx mx ks cl) = tx.size + mx.size + wtS (wtEx d) ks + wtS (wtCl (wtEx d)) cl := rfl
  have wks : wtS (wtEx d) ks ≤ 1048576 := by omega
  have wcl : wtS (wtCl (wtEx d)) cl ≤ 1048576 := by omega
  obtain ⟨p, cap, rfl, hcl, hcm, hx⟩ := f0
  obtain ⟨pc, capc, rfl, hcl', hcm', hxc⟩ := f1
  have hnb : ks.length ≤ 9223372036854775807 := by unfold maxLen at hcm; omega
  have hnc : cl.length ≤ 9223372036854775807 := by unfold maxLen at hcm'; omega
  have HX : Hid (ExAt w d p ks) := hx
  have HXC : Hid (cl ≠ [] → ∃ g off, pc = some ⟨g, off, none⟩ ∧ All g ∧ g < w.heap.size ∧ ∀ i x, cl[i]? = some x → ∃ cs, cs.length = 2 ∧ (∀ j, j < 2 → w.cell? ⟨g, off + i * 2 + j, none⟩ = cs[j]?) ∧ HCl w All (HEx w All d) cs x) := hxc
  have HW : Hid (wtEx (d + 1) (.mk kx nx tx mx ks cl) ≤ 1048576) := hwt
  have HOK : Hid (exS (d + 1) (.mk kx nx tx mx ks cl)) := hok
  -- how the kids and the clauses' expressions are bounded
  have BK : Hid (∀ (j : Nat) y, ks[j]? = some y → wtEx d y ≤ 1048576 ∧ (∀ s ∈ allV d y, keyS s ∈ varL (d + 1) (.mk kx nx tx mx ks cl) ∧ okS s) ∧ exS d y) := fun j y hj => by
    have h1 := sum_take_succ (wtEx d) ks j y hj
    have h2 := sum_take_le (wtEx d) ks (j + 1)
    have hm := List.mem_of_getElem? hj
    exact ⟨by unfold wtS at wks; omega, fun s hs => ⟨varL_kid hm (allV_sub d y s hs), allV_ok d y (hok.2.1 y hm) s hs⟩, hok.2.1 y hm⟩
  have BC : Hid (∀ (i : Nat) c, cl[i]? = some c → ∀ y, (y ∈ c.1 ∨ y ∈ c.2) → wtEx d y ≤ 1048576 ∧ (∀ s ∈ allV d y, keyS s ∈ varL (d + 1) (.mk kx nx tx mx ks cl) ∧ okS s) ∧ exS d y) := fun i c hi y hy => by
    have h1 := sum_take_succ (wtCl (wtEx d)) cl i c hi
    have h2 := sum_take_le (wtCl (wtEx d)) cl (i + 1)
    have hm := List.mem_of_getElem? hi
    have hc : wtCl (wtEx d) c = wtS (wtEx d) c.1 + wtS (wtEx d) c.2 := rfl
    have hy' : wtEx d y ≤ wtCl (wtEx d) c := by
      rcases hy with hy | hy
      · obtain ⟨q, hq⟩ := List.mem_iff_getElem?.1 hy
        have g1 := sum_take_succ (wtEx d) c.1 q y hq
        have g2 := sum_take_le (wtEx d) c.1 (q + 1)
        unfold wtS at hc; omega
      · obtain ⟨q, hq⟩ := List.mem_iff_getElem?.1 hy
        have g1 := sum_take_succ (wtEx d) c.2 q y hq
        have g2 := sum_take_le (wtEx d) c.2 (q + 1)
        unfold wtS at hc; omega
    have he : exS d y := by
      rcases hy with hy | hy
      · exact (hok.2.2 c hm).1 y hy
      · exact (hok.2.2 c hm).2 y hy
    exact ⟨by unfold wtS at wcl; omega, fun s hs => ⟨varL_cl hm hy (allV_sub d y s hs), allV_ok d y he s hs⟩, he⟩
  have G0 : Hid (Got (d + 1) (.mk kx nx tx mx ks cl) (patV (d + 1) (.mk kx nx tx mx ks cl))) := ⟨patV_nd _ _, patV_sub _ _, patV_ok _ _ hok⟩
  have hall : allV (d + 1) (.mk kx nx tx mx ks cl) = cl.foldl (allC (allV d)) (foldV (allV d) (patV (d + 1) (.mk kx nx tx mx ks cl)) ks) := rfl
  rw [hall]
  generalize hP0 : patV (d + 1) (.mk kx nx tx mx ks cl) = P0 at *
  have HP0 : Hid (patV (d + 1) (.mk kx nx tx mx ks cl) = P0) := hP0
  clear hx hxc hwt hok hall hP0 hw
  generalize hn : ks.length = n at *
  have HN : Hid (ks.length = n) := hn
  generalize hm : cl.length = nc at *
  have HNC : Hid (cl.length = nc) := hm
  clear hn hm
  have bA : Hid (Blk (w.alloc (.cells #[.int .i64 kx, .int .i64 nx, .string tx, .string mx, .slice p n cap, .slice pc nc capc] 73)) w.heap.size #[.int .i64 kx, .int .i64 nx, .string tx, .string mx, .slice p n cap, .slice pc nc capc] 73) := Blk.new
  have BA : Hid (Below w.heap.size w (w.alloc (.cells #[.int .i64 kx, .int .i64 nx, .string tx, .string mx, .slice p n cap, .slice pc nc capc] 73))) := (Below.refl _ _).alloc (Nat.le_refl _) _
  have EA : Hid (HEx (w.alloc (.cells #[.int .i64 kx, .int .i64 nx, .string tx, .string mx, .slice p n cap, .slice pc nc capc] 73)) All (d + 1) [.int .i64 kx, .int .i64 nx, .string tx, .string mx, .slice p n cap, .slice pc nc capc] (.mk kx nx tx mx ks cl)) := HEX.out.mono (SameOn.of_below BA.out) (fun _ h => h)
  go_enter Tryz.func33, Tryz.ntmps33
  go_wp2_with fail
  have q0 := patVars_all (d + 1) _ _ _ EA.out HW.out
  rw [HP0.out] at q0
  refine q0.mono ?_
  rintro e w1 ⟨u1, rfl, ho1, hb1⟩
  have O1 : Hid (OwnS w1 w.heap.size u1 P0) := ho1.base BA.out.size
  have B1 : Hid (Below w.heap.size w w1) := BA.out.trans (hb1.mono BA.out.size)
  have b1 : Hid (Blk w1 w.heap.size #[.int .i64 kx, .int .i64 nx, .string tx, .string mx, .slice p n cap, .slice pc nc capc] 73) := bA.out.next hb1
  clear q0 ho1 hb1 EA bA BA HEX
  go_wp2_with fail
  go_loopw [3, 4] (fun ov iv wr => ∃ k : Nat, k ≤ n ∧ iv = .int .i64 k ∧ Hid (OwnS wr w.heap.size ov (foldV (allV d) P0 (ks.take k))) ∧ Hid (Got (d + 1) (.mk kx nx tx mx ks cl) (foldV (allV d) P0 (ks.take k))) ∧ Hid (Blk wr w.heap.size #[.int .i64 kx, .int .i64 nx, .string tx, .string mx, .slice p n cap, .slice pc nc capc] 73) ∧ Hid (Below w.heap.size w wr)) (fun _ iv _ => n - (intOf iv).toNat)
  case atStart => exact ⟨0, Nat.zero_le _, rfl, O1.out, G0.out, b1.out, B1.out⟩
  case round =>
    obtain ⟨k, hk, rfl, ho, hg, hbk, HB⟩ := hrel
    clear O1 b1 B1
    have xa4 := hbk.out.cell 4 _ rfl
    have xa5 := hbk.out.cell 5 _ rfl
    by_cases hlt : k < n
    · obtain ⟨x, hxk⟩ : ∃ x, ks[k]? = some x := ⟨ks[k]'(by rw [HN.out]; exact hlt), List.getElem?_eq_getElem _⟩
      obtain ⟨g, off, rfl, -, hgl, hat⟩ := HX.out (by intro h; rw [h] at hxk; simp at hxk)
      obtain ⟨cs, hcsl, hcs, r1⟩ := hat k x hxk
      have E1 : ∀ w', Below w.heap.size w w' → HEx w' All d cs x := fun w' hw => r1.mono (SameOn.of_below hw) (fun _ h => h)
      obtain ⟨c0, c1, c2, c3, c4, c5, rfl⟩ := len6 hcsl
      have a0 := hcs 0 (by omega)
      have a1 := hcs 1 (by omega)
      have a2 := hcs 2 (by omega)
      have a3 := hcs 3 (by omega)
      have a4 := hcs 4 (by omega)
      have a5 := hcs 5 (by omega)
      rw [← HB.out.cell (p := ⟨g, _, none⟩) hgl] at a0 a1 a2 a3 a4 a5
      simp at a0 a1 a2 a3 a4 a5
      have hki : (k : Int) < (n : Int) := by omega
      have hk0 : (0 : Int) ≤ (k : Int) := by omega
      obtain ⟨wx, sx, ex⟩ := BK.out k x hxk
      have GX : Hid (Got (d + 1) (.mk kx nx tx mx ks cl) (onceS (foldV (allV d) P0 (ks.take k)) (allV d x))) := hg.out.once sx
      have HJ : Hid (foldV (allV d) P0 (ks.take (k + 1)) = onceS (foldV (allV d) P0 (ks.take k)) (allV d x)) := foldV_snoc _ _ ks k x hxk
      have lq := hg.out.len HW.out
      have lx := (allV_got ex).len wx
      have OX : Hid (∀ s ∈ allV d x, okS s) := fun s hs => (sx s hs).2
      have OJ : Hid (∀ s ∈ foldV (allV d) P0 (ks.take k), okS s) := hg.out.ok
      generalize hJ0 : foldV (allV d) P0 (ks.take k) = J at *
      clear hcs hat hcsl r1 hJ0 hg sx
      go_wp2_with fail
      refine (hE _ _ x (E1 _ HB.out) wx).mono ?_
      rintro e w4 ⟨u4, rfl, ho4, hb4⟩
      have HB4 : Hid (Below w.heap.size w w4) := HB.out.trans (hb4.mono HB.out.size)
      have SV : Hid (StrV w4 u3 J) := (ho.out.next hb4).strV OJ.out
      have SR : Hid (StrR w4 u4 (allV d x)) := ho4.strR OX.out
      have bk4 : Hid (Blk w4 w.heap.size #[.int .i64 kx, .int .i64 nx, .string tx, .string mx, .slice (some ⟨g, off, none⟩) n cap, .slice pc nc capc] 73) := hbk.out.next hb4
      clear hb4 ho4 xa4 xa5 a0 a1 a2 a3 a4 a5
      go_wp2_with fail
      refine (once_any _ _ _ J (allV d x) SV.out SR.out (by omega)).mono ?_
      rintro e w5 ⟨u5, rfl, ho5, hb5⟩
      have HB5 : Hid (Below w.heap.size w w5) := HB4.out.trans (hb5.mono HB4.out.size)
      have HO5 : Hid (OwnS w5 w.heap.size u5 (onceS J (allV d x))) := ho5.base HB4.out.size
      have bk5 : Hid (Blk w5 w.heap.size #[.int .i64 kx, .int .i64 nx, .string tx, .string mx, .slice (some ⟨g, off, none⟩) n cap, .slice pc nc capc] 73) := bk4.out.next hb5
      clear hb5 ho5
      go_wp2_with fail
      exact ⟨⟨k + 1, by omega, by go_num, by show OwnS _ _ _ _; rw [HJ.out]; exact HO5.out, by show Got _ _ _; rw [HJ.out]; exact GX.out, bk5.out, HB5.out⟩, by simp [intOf]; omega⟩
    · have HS : Hid (OwnS wr w.heap.size u3 (foldV (allV d) P0 ks)) := by
        have := ho.out
        rwa [List.take_of_length_le (by rw [HN.out]; omega)] at this
      have GS : Hid (Got (d + 1) (.mk kx nx tx mx ks cl) (foldV (allV d) P0 ks)) := by
        have := hg.out
        rwa [List.take_of_length_le (by rw [HN.out]; omega)] at this
      generalize hP1 : foldV (allV d) P0 ks = P1 at HS GS
      have HP1 : Hid (foldV (allV d) P0 ks = P1) := hP1
      clear hP1
      clear ho hg
      go_wp2_with fail
      go_loopw [3, 5] (fun ov iv wr => ∃ i : Nat, i ≤ nc ∧ iv = .int .i64 i ∧ Hid (OwnS wr w.heap.size ov ((cl.take i).foldl (allC (allV d)) P1)) ∧ Hid (Got (d + 1) (.mk kx nx tx mx ks cl) ((cl.take i).foldl (allC (allV d)) P1)) ∧ Hid (Blk wr w.heap.size #[.int .i64 kx, .int .i64 nx, .string tx, .string mx, .slice p n cap, .slice pc nc capc] 73) ∧ Hid (Below w.heap.size w wr)) (fun _ iv _ => nc - (intOf iv).toNat)
      case atStart => exact ⟨0, Nat.zero_le _, rfl, HS.out, GS.out, hbk.out, HB.out⟩
      case round =>
        clear HS GS hbk HB xa4 xa5
        obtain ⟨i, hi, rfl, hoI, hgI, hbI, HBI⟩ := hrel
        have xa5 := hbI.out.cell 5 _ rfl
        by_cases hlt : i < nc
        · obtain ⟨c, hci⟩ : ∃ c, cl[i]? = some c := ⟨cl[i]'(by rw [HNC.out]; exact hlt), List.getElem?_eq_getElem _⟩
          obtain ⟨gc, oc, rfl, -, hgcl, hat⟩ := HXC.out (by intro h; rw [h] at hci; simp at hci)
          obtain ⟨cs, hcsl, hcs, pv, bv, rfl, rp, rb⟩ := hat i c hci
          obtain ⟨pp, capp, rfl, hp1, hp2, hxp⟩ := rp
          obtain ⟨pb, capb, rfl, hb1, hb2, hxb⟩ := rb
          have y0 := hcs 0 (by omega)
          have y1 := hcs 1 (by omega)
          simp at y0 y1
          have hnp : c.1.length ≤ 9223372036854775807 := by unfold maxLen at hp2; omega
          have hnb' : c.2.length ≤ 9223372036854775807 := by unfold maxLen at hb2; omega
          generalize hnp0 : c.1.length = np at *
          generalize hnb0 : c.2.length = nb at *
          have HN0 : Hid (c.1.length = np) := hnp0
          have HN1 : Hid (c.2.length = nb) := hnb0
          have HXP0 : Hid (ExAt w d pp c.1) := hxp
          have HXP1 : Hid (ExAt w d pb c.2) := hxb
          have HP0c : Hid (w.cell? ⟨gc, oc + i * 2, none⟩ = some (.slice pp np capp)) := y0
          have HP1c : Hid (w.cell? ⟨gc, oc + i * 2 + 1, none⟩ = some (.slice pb nb capb)) := y1
          have HJC : Hid ((cl.take (i + 1)).foldl (allC (allV d)) P1 = foldV (allV d) (foldV (allV d) ((cl.take i).foldl (allC (allV d)) P1) c.1) c.2) := foldC_snoc _ _ cl i c hci
          have hii : (i : Int) < (nc : Int) := by omega
          have hi0 : (0 : Int) ≤ (i : Int) := by omega
          generalize (cl.take i).foldl (allC (allV d)) P1 = J at *
          clear hat hcs hcsl hxp hxb y0 y1 hnp0 hnb0
          go_wp2_with fail
          go_loopw [3, 6] (fun ov iv wr => ∃ k : Nat, k ≤ np ∧ iv = .int .i64 k ∧ Hid (OwnS wr w.heap.size ov (foldV (allV d) J (c.1.take k))) ∧ Hid (Got (d + 1) (.mk kx nx tx mx ks cl) (foldV (allV d) J (c.1.take k))) ∧ Hid (Blk wr w.heap.size #[.int .i64 kx, .int .i64 nx, .string tx, .string mx, .slice p n cap, .slice (some ⟨gc, oc, none⟩) nc capc] 73) ∧ Hid (Below w.heap.size w wr)) (fun _ iv _ => np - (intOf iv).toNat)
          case atStart => exact ⟨0, Nat.zero_le _, rfl, hoI.out, hgI.out, hbI.out, HBI.out⟩
          case round =>
            obtain ⟨k, hk, rfl, ho, hg, hbk, HB⟩ := hrel
            have xa5 := hbk.out.cell 5 _ rfl
            have xp0 := (HB.out.cell (p := ⟨gc, oc + i * 2, none⟩) hgcl).trans HP0c.out
            have xp1 := (HB.out.cell (p := ⟨gc, oc + i * 2 + 1, none⟩) hgcl).trans HP1c.out
            by_cases hlk : k < np
            · obtain ⟨x, hxk⟩ : ∃ x, c.1[k]? = some x := ⟨c.1[k]'(by rw [HN0.out]; exact hlk), List.getElem?_eq_getElem _⟩
              obtain ⟨g, off, rfl, -, hgl, hat⟩ := HXP0.out (by intro h; rw [h] at hxk; simp at hxk)
              obtain ⟨cs, hcsl, hcs, r1⟩ := hat k x hxk
              have E1 : ∀ w', Below w.heap.size w w' → HEx w' All d cs x := fun w' hw => r1.mono (SameOn.of_below hw) (fun _ h => h)
              obtain ⟨c0, c1, c2, c3, c4, c5, rfl⟩ := len6 hcsl
              have a0 := hcs 0 (by omega)
              have a1 := hcs 1 (by omega)
              have a2 := hcs 2 (by omega)
              have a3 := hcs 3 (by omega)
              have a4 := hcs 4 (by omega)
              have a5 := hcs 5 (by omega)
              rw [← HB.out.cell (p := ⟨g, _, none⟩) hgl] at a0 a1 a2 a3 a4 a5
              simp at a0 a1 a2 a3 a4 a5
              have hki : (k : Int) < (np : Int) := by omega
              have hk0 : (0 : Int) ≤ (k : Int) := by omega
              obtain ⟨wx, sx, ex⟩ := BC.out i c hci x (.inl (List.mem_of_getElem? hxk))
              have GX : Hid (Got (d + 1) (.mk kx nx tx mx ks cl) (onceS (foldV (allV d) J (c.1.take k)) (allV d x))) := hg.out.once sx
              have HJ : Hid (foldV (allV d) J (c.1.take (k + 1)) = onceS (foldV (allV d) J (c.1.take k)) (allV d x)) := foldV_snoc _ _ c.1 k x hxk
              have lq := hg.out.len HW.out
              have lx := (allV_got ex).len wx
              have OX : Hid (∀ s ∈ allV d x, okS s) := fun s hs => (sx s hs).2
              have OJ : Hid (∀ s ∈ foldV (allV d) J (c.1.take k), okS s) := hg.out.ok
              generalize hJ0 : foldV (allV d) J (c.1.take k) = J at *
              clear hcs hat hcsl r1 hJ0 hg sx
              go_wp2_with fail
              refine (hE _ _ x (E1 _ HB.out) wx).mono ?_
              rintro e w4 ⟨u4, rfl, ho4, hb4⟩
              have HB4 : Hid (Below w.heap.size w w4) := HB.out.trans (hb4.mono HB.out.size)
              have SV : Hid (StrV w4 u3 J) := (ho.out.next hb4).strV OJ.out
              have SR : Hid (StrR w4 u4 (allV d x)) := ho4.strR OX.out
              have bk4 : Hid (Blk w4 w.heap.size #[.int .i64 kx, .int .i64 nx, .string tx, .string mx, .slice p n cap, .slice (some ⟨gc, oc, none⟩) nc capc] 73) := hbk.out.next hb4
              clear hb4 ho4 xa5 xp0 xp1 a0 a1 a2 a3 a4 a5
              go_wp2_with fail
              refine (once_any _ _ _ J (allV d x) SV.out SR.out (by omega)).mono ?_
              rintro e w5 ⟨u5, rfl, ho5, hb5⟩
              have HB5 : Hid (Below w.heap.size w w5) := HB4.out.trans (hb5.mono HB4.out.size)
              have HO5 : Hid (OwnS w5 w.heap.size u5 (onceS J (allV d x))) := ho5.base HB4.out.size
              have bk5 : Hid (Blk w5 w.heap.size #[.int .i64 kx, .int .i64 nx, .string tx, .string mx, .slice p n cap, .slice (some ⟨gc, oc, none⟩) nc capc] 73) := bk4.out.next hb5
              clear hb5 ho5
              go_wp2_with fail
              exact ⟨⟨k + 1, by omega, by go_num, by show OwnS _ _ _ _; rw [HJ.out]; exact HO5.out, by show Got _ _ _; rw [HJ.out]; exact GX.out, bk5.out, HB5.out⟩, by simp [intOf]; omega⟩
            · have HS0 : Hid (OwnS wr w.heap.size u3 (foldV (allV d) J c.1)) := by
                have := ho.out
                rwa [List.take_of_length_le (by rw [HN0.out]; omega)] at this
              have GS0 : Hid (Got (d + 1) (.mk kx nx tx mx ks cl) (foldV (allV d) J c.1)) := by
                have := hg.out
                rwa [List.take_of_length_le (by rw [HN0.out]; omega)] at this
              clear ho hg
              have HBq : Hid (Below w.heap.size w wr) := HB.out
              have hbq : Hid (Blk wr w.heap.size #[.int .i64 kx, .int .i64 nx, .string tx, .string mx, .slice p n cap, .slice (some ⟨gc, oc, none⟩) nc capc] 73) := hbk.out
              clear HB hbk
              go_wp2_with fail
              go_loopw [3, 7] (fun ov iv wr => ∃ k : Nat, k ≤ nb ∧ iv = .int .i64 k ∧ Hid (OwnS wr w.heap.size ov (foldV (allV d) (foldV (allV d) J c.1) (c.2.take k))) ∧ Hid (Got (d + 1) (.mk kx nx tx mx ks cl) (foldV (allV d) (foldV (allV d) J c.1) (c.2.take k))) ∧ Hid (Blk wr w.heap.size #[.int .i64 kx, .int .i64 nx, .string tx, .string mx, .slice p n cap, .slice (some ⟨gc, oc, none⟩) nc capc] 73) ∧ Hid (Below w.heap.size w wr)) (fun _ iv _ => nb - (intOf iv).toNat)
              case atStart => exact ⟨0, Nat.zero_le _, rfl, HS0.out, GS0.out, hbq.out, HBq.out⟩
              case round =>
                obtain ⟨k, hk, rfl, ho, hg, hbk, HB⟩ := hrel
                have xa5 := hbk.out.cell 5 _ rfl
                have xp0 := (HB.out.cell (p := ⟨gc, oc + i * 2, none⟩) hgcl).trans HP0c.out
                have xp1 := (HB.out.cell (p := ⟨gc, oc + i * 2 + 1, none⟩) hgcl).trans HP1c.out
                by_cases hlk : k < nb
                · obtain ⟨x, hxk⟩ : ∃ x, c.2[k]? = some x := ⟨c.2[k]'(by rw [HN1.out]; exact hlk), List.getElem?_eq_getElem _⟩
                  obtain ⟨g, off, rfl, -, hgl, hat⟩ := HXP1.out (by intro h; rw [h] at hxk; simp at hxk)
                  obtain ⟨cs, hcsl, hcs, r1⟩ := hat k x hxk
                  have E1 : ∀ w', Below w.heap.size w w' → HEx w' All d cs x := fun w' hw => r1.mono (SameOn.of_below hw) (fun _ h => h)
                  obtain ⟨c0, c1, c2, c3, c4, c5, rfl⟩ := len6 hcsl
                  have a0 := hcs 0 (by omega)
                  have a1 := hcs 1 (by omega)
                  have a2 := hcs 2 (by omega)
                  have a3 := hcs 3 (by omega)
                  have a4 := hcs 4 (by omega)
                  have a5 := hcs 5 (by omega)
                  rw [← HB.out.cell (p := ⟨g, _, none⟩) hgl] at a0 a1 a2 a3 a4 a5
                  simp at a0 a1 a2 a3 a4 a5
                  have hki : (k : Int) < (nb : Int) := by omega
                  have hk0 : (0 : Int) ≤ (k : Int) := by omega
                  obtain ⟨wx, sx, ex⟩ := BC.out i c hci x (.inr (List.mem_of_getElem? hxk))
                  have GX : Hid (Got (d + 1) (.mk kx nx tx mx ks cl) (onceS (foldV (allV d) (foldV (allV d) J c.1) (c.2.take k)) (allV d x))) := hg.out.once sx
                  have HJ : Hid (foldV (allV d) (foldV (allV d) J c.1) (c.2.take (k + 1)) = onceS (foldV (allV d) (foldV (allV d) J c.1) (c.2.take k)) (allV d x)) := foldV_snoc _ _ c.2 k x hxk
                  have lq := hg.out.len HW.out
                  have lx := (allV_got ex).len wx
                  have OX : Hid (∀ s ∈ allV d x, okS s) := fun s hs => (sx s hs).2
                  have OJ : Hid (∀ s ∈ foldV (allV d) (foldV (allV d) J c.1) (c.2.take k), okS s) := hg.out.ok
                  generalize hJ0 : foldV (allV d) (foldV (allV d) J c.1) (c.2.take k) = J at *
                  clear hcs hat hcsl r1 hJ0 hg sx
                  go_wp2_with fail
                  refine (hE _ _ x (E1 _ HB.out) wx).mono ?_
                  rintro e w4 ⟨u4, rfl, ho4, hb4⟩
                  have HB4 : Hid (Below w.heap.size w w4) := HB.out.trans (hb4.mono HB.out.size)
                  have SV : Hid (StrV w4 u3 J) := (ho.out.next hb4).strV OJ.out
                  have SR : Hid (StrR w4 u4 (allV d x)) := ho4.strR OX.out
                  have bk4 : Hid (Blk w4 w.heap.size #[.int .i64 kx, .int .i64 nx, .string tx, .string mx, .slice p n cap, .slice (some ⟨gc, oc, none⟩) nc capc] 73) := hbk.out.next hb4
                  clear hb4 ho4 xa5 xp0 xp1 a0 a1 a2 a3 a4 a5
                  go_wp2_with fail
                  refine (once_any _ _ _ J (allV d x) SV.out SR.out (by omega)).mono ?_
                  rintro e w5 ⟨u5, rfl, ho5, hb5⟩
                  have HB5 : Hid (Below w.heap.size w w5) := HB4.out.trans (hb5.mono HB4.out.size)
                  have HO5 : Hid (OwnS w5 w.heap.size u5 (onceS J (allV d x))) := ho5.base HB4.out.size
                  have bk5 : Hid (Blk w5 w.heap.size #[.int .i64 kx, .int .i64 nx, .string tx, .string mx, .slice p n cap, .slice (some ⟨gc, oc, none⟩) nc capc] 73) := bk4.out.next hb5
                  clear hb5 ho5
                  go_wp2_with fail
                  exact ⟨⟨k + 1, by omega, by go_num, by show OwnS _ _ _ _; rw [HJ.out]; exact HO5.out, by show Got _ _ _; rw [HJ.out]; exact GX.out, bk5.out, HB5.out⟩, by simp [intOf]; omega⟩
                · have HS1 : Hid (OwnS wr w.heap.size u3 (foldV (allV d) (foldV (allV d) J c.1) c.2)) := by
                    have := ho.out
                    rwa [List.take_of_length_le (by rw [HN1.out]; omega)] at this
                  have GS1 : Hid (Got (d + 1) (.mk kx nx tx mx ks cl) (foldV (allV d) (foldV (allV d) J c.1) c.2)) := by
                    have := hg.out
                    rwa [List.take_of_length_le (by rw [HN1.out]; omega)] at this
                  clear ho hg
                  go_wp2_with fail
                  exact ⟨⟨i + 1, by omega, by go_num, by show OwnS _ _ _ _; rw [HJC.out]; exact HS1.out, by show Got _ _ _; rw [HJC.out]; exact GS1.out, hbk.out, HB.out⟩, by simp [intOf]; omega⟩
        · have HS2 : Hid (OwnS wr w.heap.size u3 (cl.foldl (allC (allV d)) P1)) := by
            have := hoI.out
            rwa [List.take_of_length_le (by rw [HNC.out]; omega)] at this
          clear hoI hgI
          go_wp2_with fail
          go_ret
          exact ⟨u3, rfl, by show OwnS _ _ _ _; rw [HP1.out]; exact HS2.out, HBI.out⟩

theorem all_all : ∀ d, NmC 33 d (allV d)
  | 0 => fun w cs x h _ => h.elim
  | d + 1 => all_of (all_all d)
end Go.Proofs.YtoknolophmhlgaaGreatDoor
