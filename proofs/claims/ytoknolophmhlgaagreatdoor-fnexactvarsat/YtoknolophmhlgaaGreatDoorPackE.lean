/-
  Texts of the proof, packed: ModOkImplB, ModOkFuns.
-/
import Derived.Test.YtoknolophmhlgaaGreatDoorPackD
/-
  The program's ModuleOk, by contract: expressions and clauses.
-/
namespace Go.Proofs.YtoknolophmhlgaaGreatDoor
open Go.ChangeShapes Go.WideShapes Go.ChangeAt Go.RowKit
set_option linter.unusedVariables false

theorem exShape {w : World} {S : Nat → Prop} {d : Nat} {cs : List Value} {x : Ex} (h : HEx w S d cs x) : ∃ sk sn st se p1 n1 q1 p2 n2 q2, cs = [.int .i64 sk, .int .i64 sn, .string st, .string se, .slice p1 n1 q1, .slice p2 n2 q2] := by
  cases d with
  | zero => exact h.elim
  | succ d =>
    obtain ⟨kv, cv, rfl, _, _, _, _, ⟨p1, c1, rfl, _⟩, ⟨p2, c2, rfl, _⟩⟩ := h
    exact ⟨_, _, _, _, _, _, _, _, _, _, rfl⟩
theorem clShape {w : World} {S : Nat → Prop} {R : List Value → Ex → Prop} {cs : List Value} {x : Cl} (h : HCl w S R cs x) : ∃ p1 n1 q1 p2 n2 q2, cs = [.slice p1 n1 q1, .slice p2 n2 q2] := by
  obtain ⟨pv, bv, rfl, ⟨p1, c1, rfl, _⟩, ⟨p2, c2, rfl, _⟩⟩ := h
  exact ⟨_, _, _, _, _, _, rfl⟩

def XpC (d : Nat) : Prop :=
  ∀ (w : World) (cs : List Value) (x : Ex) (pat : Bool) (deep : Int), Tabs w → HEx w All d cs x → 0 ≤ deep → deep ≤ 41 → Calls Tryz.prog 119 #[.agg cs.toArray, .int .i64 deep, .bool pat] w fun e w' => e = .returned (.bool (exOk d x pat (40 - deep))) ∧ Below w.heap.size w w'
def XsC (d : Nat) : Prop :=
  ∀ (w : World) (v : Value) (es : List Ex) (pat : Bool) (deep : Int), Tabs w → Rows w All 6 (HEx w All d) v es → 0 ≤ deep → deep ≤ 41 → Calls Tryz.prog 111 #[v, .int .i64 deep, .bool pat] w fun e w' => e = .returned (.bool (es.all (fun y => exOk d y pat (40 - deep)))) ∧ Below w.heap.size w w'
def KcC (d : Nat) : Prop :=
  ∀ (w : World) (cs : List Value) (c : Cl) (pats deep : Int), Tabs w → HCl w All (HEx w All d) cs c → 0 ≤ deep → deep ≤ 41 → Calls Tryz.prog 96 #[.agg cs.toArray, .int .i64 pats, .int .i64 deep] w fun e w' => e = .returned (.bool (clB (fun y q => exOk d y q (40 - deep)) c pats)) ∧ Below w.heap.size w w'
def KsC (d : Nat) : Prop :=
  ∀ (w : World) (v : Value) (cl : List Cl) (deep : Int), Tabs w → Rows w All 2 (HCl w All (HEx w All d)) v cl → 0 ≤ deep → deep ≤ 41 → Calls Tryz.prog 133 #[v, .int .i64 deep] w fun e w' => e = .returned (.bool (cl.all (fun c => clB (fun y q => exOk d y q (40 - deep)) c 1))) ∧ Below w.heap.size w w'

set_option maxHeartbeats 8000000 in
set_option maxRecDepth 100000 in
theorem expsI_of {d : Nat} (hE : XpC d) : XsC d := by
  intro w v es pat deep hT h hd0 hd1
  have HT : Hid (Tabs w) := hT
  obtain ⟨p, cap, rfl, hcl, hcm, hx⟩ := h
  have hnb : es.length ≤ 9223372036854775807 := by unfold maxLen at hcm; omega
  generalize hn : es.length = n at *
  have HN : Hid (es.length = n) := hn
  have HX : Hid (es ≠ [] → ∃ g off, p = some ⟨g, off, none⟩ ∧ All g ∧ g < w.heap.size ∧ ∀ i x, es[i]? = some x → ∃ cs, cs.length = 6 ∧ (∀ j, j < 6 → w.cell? ⟨g, off + i * 6 + j, none⟩ = cs[j]?) ∧ HEx w All d cs x) := hx
  clear hx hn hT
  go_enter Tryz.func111, Tryz.ntmps111
  go_wp2_with fail
  go_loopw [11] (fun iv wr => ∃ k : Nat, k ≤ n ∧ iv = .int .i64 k ∧ Hid ((es.take k).all (fun y => exOk d y pat (40 - deep)) = true) ∧ Below w.heap.size w wr) (fun iv _ => n - (intOf iv).toNat)
  case atStart => exact ⟨0, Nat.zero_le _, rfl, by show _ = _; simp, Below.refl _ _⟩
  case round =>
    obtain ⟨k, hk, rfl, hall, hb⟩ := hrel
    have HB : Hid (Below w.heap.size w wr) := hb
    by_cases hlt : k < n
    · obtain ⟨x, hxk⟩ : ∃ x, es[k]? = some x := ⟨es[k]'(by rw [HN.out]; exact hlt), List.getElem?_eq_getElem _⟩
      obtain ⟨g, off, rfl, -, hgl, hat⟩ := HX.out (by intro h; rw [h] at hxk; simp at hxk)
      obtain ⟨cs, hcsl, hcs, r1⟩ := hat k x hxk
      obtain ⟨sk, sn, st, se, p1, n1, q1, p2, n2, q2, rfl⟩ := exShape r1
      have E1 : ∀ w', Below w.heap.size w w' → HEx w' All d [.int .i64 sk, .int .i64 sn, .string st, .string se, .slice p1 n1 q1, .slice p2 n2 q2] x := fun w' hw => r1.mono (SameOn.of_below hw) (fun _ h => h)
      have a0 := hcs 0 (by omega)
      have a1 := hcs 1 (by omega)
      have a2 := hcs 2 (by omega)
      have a3 := hcs 3 (by omega)
      have a4 := hcs 4 (by omega)
      have a5 := hcs 5 (by omega)
      rw [← hb.cell (p := ⟨g, _, none⟩) hgl] at a0 a1 a2 a3 a4 a5
      simp at a0 a1 a2 a3 a4 a5
      have hki : (k : Int) < (n : Int) := by omega
      have hk0 : (0 : Int) ≤ (k : Int) := by omega
      have HBA : Hid (Below w.heap.size w (wr.alloc (.cells #[.int .i64 sk, .int .i64 sn, .string st, .string se, .slice p1 n1 q1, .slice p2 n2 q2] 73))) := HB.out.alloc HB.out.size _
      clear hb hcs hat hcsl r1
      generalize hcv : exOk d x pat (40 - deep) = cv
      have HCV : Hid (exOk d x pat (40 - deep) = cv) := hcv
      have HC2 : Hid (cv = true → (es.take (k + 1)).all (fun y => exOk d y pat (40 - deep)) = true) := fun h => allT_succ _ es k x hxk hall.out (hcv.trans h)
      have HC3 : Hid (cv = false → es.all (fun y => exOk d y pat (40 - deep)) = false) := fun h => allT_at _ es k x hxk (hcv.trans h)
      clear hcv
      go_wp2_with fail
      refine (hE _ _ x pat deep (HT.out.below HBA.out) (E1 _ HBA.out) (by omega) (by omega)).mono ?_
      rintro e w4 ⟨rfl, hb4⟩
      rw [HCV.out]
      have HB4 : Hid (Below w.heap.size w w4) := HBA.out.trans (hb4.mono HBA.out.size)
      clear hb4 HCV
      cases cv with
      | true =>
        have HT' : Hid _ := HC2.out rfl
        clear HC2 HC3
        go_wp2_with fail
        exact ⟨⟨k + 1, by omega, by go_num, HT'.out, HB4.out⟩, by simp [intOf]; omega⟩
      | false =>
        have HF : Hid (es.all (fun y => exOk d y pat (40 - deep)) = false) := HC3.out rfl
        clear HC2 HC3
        go_wp2_with fail
        go_ret
        exact ⟨by first | (rw [HF.out]; rfl) | (rw [HF.out]; simp), HB4.out⟩
    · have HD : Hid (es.all (fun y => exOk d y pat (40 - deep)) = true) := by
        have := hall.out
        rwa [List.take_of_length_le (by rw [HN.out]; omega)] at this
      clear hb
      go_wp2_with fail
      go_ret
      exact ⟨by first | (rw [HD.out]; rfl) | (rw [HD.out]; simp), HB.out⟩

set_option maxHeartbeats 8000000 in
set_option maxRecDepth 100000 in
theorem casesI_of {d : Nat} (hE : KcC d) : KsC d := by
  intro w v cl deep hT h hd0 hd1
  have HT : Hid (Tabs w) := hT
  obtain ⟨p, cap, rfl, hcl, hcm, hx⟩ := h
  have hnb : cl.length ≤ 9223372036854775807 := by unfold maxLen at hcm; omega
  generalize hn : cl.length = n at *
  have HN : Hid (cl.length = n) := hn
  have HX : Hid (cl ≠ [] → ∃ g off, p = some ⟨g, off, none⟩ ∧ All g ∧ g < w.heap.size ∧ ∀ i x, cl[i]? = some x → ∃ cs, cs.length = 2 ∧ (∀ j, j < 2 → w.cell? ⟨g, off + i * 2 + j, none⟩ = cs[j]?) ∧ HCl w All (HEx w All d) cs x) := hx
  clear hx hn hT
  go_enter Tryz.func133, Tryz.ntmps133
  go_wp2_with fail
  go_loopw [9] (fun iv wr => ∃ k : Nat, k ≤ n ∧ iv = .int .i64 k ∧ Hid ((cl.take k).all (fun c => clB (fun y q => exOk d y q (40 - deep)) c 1) = true) ∧ Below w.heap.size w wr) (fun iv _ => n - (intOf iv).toNat)
  case atStart => exact ⟨0, Nat.zero_le _, rfl, by show _ = _; simp, Below.refl _ _⟩
  case round =>
    obtain ⟨k, hk, rfl, hall, hb⟩ := hrel
    have HB : Hid (Below w.heap.size w wr) := hb
    by_cases hlt : k < n
    · obtain ⟨x, hxk⟩ : ∃ x, cl[k]? = some x := ⟨cl[k]'(by rw [HN.out]; exact hlt), List.getElem?_eq_getElem _⟩
      obtain ⟨g, off, rfl, -, hgl, hat⟩ := HX.out (by intro h; rw [h] at hxk; simp at hxk)
      obtain ⟨cs, hcsl, hcs, r1⟩ := hat k x hxk
      obtain ⟨p1, n1, q1, p2, n2, q2, rfl⟩ := clShape r1
      have E1 : ∀ w', Below w.heap.size w w' → HCl w' All (HEx w' All d) [.slice p1 n1 q1, .slice p2 n2 q2] x := fun w' hw => r1.mono (SameOn.of_below hw) (fun _ h => h) (fun _ _ h => h.mono (SameOn.of_below hw) (fun _ h => h))
      have a0 := hcs 0 (by omega)
      have a1 := hcs 1 (by omega)
      rw [← hb.cell (p := ⟨g, _, none⟩) hgl] at a0 a1
      simp at a0 a1
      have hki : (k : Int) < (n : Int) := by omega
      have hk0 : (0 : Int) ≤ (k : Int) := by omega
      have HBA : Hid (Below w.heap.size w (wr.alloc (.cells #[.slice p1 n1 q1, .slice p2 n2 q2] 45))) := HB.out.alloc HB.out.size _
      clear hb hcs hat hcsl r1
      generalize hcv : clB (fun y q => exOk d y q (40 - deep)) x 1 = cv
      have HCV : Hid (clB (fun y q => exOk d y q (40 - deep)) x 1 = cv) := hcv
      have HC2 : Hid (cv = true → (cl.take (k + 1)).all (fun c => clB (fun y q => exOk d y q (40 - deep)) c 1) = true) := fun h => allT_succ _ cl k x hxk hall.out (hcv.trans h)
      have HC3 : Hid (cv = false → cl.all (fun c => clB (fun y q => exOk d y q (40 - deep)) c 1) = false) := fun h => allT_at _ cl k x hxk (hcv.trans h)
      clear hcv
      go_wp2_with fail
      refine (hE _ _ x 1 deep (HT.out.below HBA.out) (E1 _ HBA.out) (by omega) (by omega)).mono ?_
      rintro e w4 ⟨rfl, hb4⟩
      rw [HCV.out]
      have HB4 : Hid (Below w.heap.size w w4) := HBA.out.trans (hb4.mono HBA.out.size)
      clear hb4 HCV
      cases cv with
      | true =>
        have HT' : Hid _ := HC2.out rfl
        clear HC2 HC3
        go_wp2_with fail
        exact ⟨⟨k + 1, by omega, by go_num, HT'.out, HB4.out⟩, by simp [intOf]; omega⟩
      | false =>
        have HF : Hid (cl.all (fun c => clB (fun y q => exOk d y q (40 - deep)) c 1) = false) := HC3.out rfl
        clear HC2 HC3
        go_wp2_with fail
        go_ret
        exact ⟨by first | (rw [HF.out]; rfl) | (rw [HF.out]; simp), HB4.out⟩
    · have HD : Hid (cl.all (fun c => clB (fun y q => exOk d y q (40 - deep)) c 1) = true) := by
        have := hall.out
        rwa [List.take_of_length_le (by rw [HN.out]; omega)] at this
      clear hb
      go_wp2_with fail
      go_ret
      exact ⟨by first | (rw [HD.out]; rfl) | (rw [HD.out]; simp), HB.out⟩

set_option maxHeartbeats 8000000 in
set_option maxRecDepth 100000 in
theorem clauseI_of {d : Nat} (hE : XsC d) : KcC d := by
  intro w cs c pats deep hT h hd0 hd1
  have HT : Hid (Tabs w) := hT
  obtain ⟨pv, bv, rfl, f0, f1⟩ := h
  obtain ⟨ps, bs⟩ := c
  simp only at f0 f1
  have BL : Hid (Below w.heap.size w (w.alloc (.cells #[pv, bv] 45))) := (Below.refl _ _).alloc (Nat.le_refl _) _
  have F0 : ∀ w', Below w.heap.size w w' → Rows w' All 6 (HEx w' All d) pv ps := fun w' hw => f0.mono (SameOn.of_below hw) (fun _ h => h) (fun _ _ _ h => h.mono (SameOn.of_below hw) (fun _ h => h))
  have F1 : ∀ w', Below w.heap.size w w' → Rows w' All 6 (HEx w' All d) bv bs := fun w' hw => f1.mono (SameOn.of_below hw) (fun _ h => h) (fun _ _ _ h => h.mono (SameOn.of_below hw) (fun _ h => h))
  obtain ⟨p, cap, rfl, hcl, hcm, -⟩ := f0
  obtain ⟨q, cap', rfl, hcl', hcm', -⟩ := f1
  have hnb : ps.length ≤ 9223372036854775807 := by unfold maxLen at hcm; omega
  have hmb : bs.length ≤ 9223372036854775807 := by unfold maxLen at hcm'; omega
  have hv : clB (fun y q => exOk d y q (40 - deep)) (ps, bs) pats = (decide ((ps.length : Int) = pats) && (inB bs.length 1 20 && (ps.all (fun y => exOk d y true (40 - deep)) && bs.all (fun y => exOk d y false (40 - deep))))) := rfl
  rw [hv]
  clear hv hT
  generalize ps.length = n at *
  generalize bs.length = m at *
  by_cases c1 : (n : Int) = pats
  · subst c1
    rw [decide_eq_true rfl]
    cases hin : inB m 1 20 with
    | false =>
      go_enter Tryz.func96, Tryz.ntmps96
      go_wp2_with (first | (go_at_call 39; go_must (refine (withinM_any _ _ _ _).mono ?_; rintro e w9 ⟨rfl, rfl⟩; rw [hin])))
      go_ret
      exact ⟨by simp, BL.out⟩
    | true =>
      cases h1 : ps.all (fun y => exOk d y true (40 - deep)) with
      | false =>
        go_enter Tryz.func96, Tryz.ntmps96
        go_wp2_with (first | (go_at_call 39; go_must (refine (withinM_any _ _ _ _).mono ?_; rintro e w9 ⟨rfl, rfl⟩; rw [hin])))
        refine (hE _ _ ps true deep (HT.out.below BL.out) (F0 _ BL.out) (by omega) (by omega)).mono ?_
        rintro e w2 ⟨rfl, hb2⟩
        rw [h1]
        have B2 : Hid (Below w.heap.size w w2) := BL.out.trans (hb2.mono BL.out.size)
        clear hb2
        go_wp2_with fail
        go_ret
        exact ⟨by simp, B2.out⟩
      | true =>
        go_enter Tryz.func96, Tryz.ntmps96
        go_wp2_with (first | (go_at_call 39; go_must (refine (withinM_any _ _ _ _).mono ?_; rintro e w9 ⟨rfl, rfl⟩; rw [hin])))
        refine (hE _ _ ps true deep (HT.out.below BL.out) (F0 _ BL.out) (by omega) (by omega)).mono ?_
        rintro e w2 ⟨rfl, hb2⟩
        rw [h1]
        have B2 : Hid (Below w.heap.size w w2) := BL.out.trans (hb2.mono BL.out.size)
        have hbk := (Blk.new (w := w) (cs := #[.slice p n cap, .slice q m cap']) (t := 45)).next hb2
        have a0 := hbk.cell 0 _ rfl
        have a1 := hbk.cell 1 _ rfl
        clear hb2 hbk
        go_wp2_with fail
        refine (hE _ _ bs false deep (HT.out.below B2.out) (F1 _ B2.out) (by omega) (by omega)).mono ?_
        rintro e w3 ⟨rfl, hb3⟩
        have B3 : Hid (Below w.heap.size w w3) := B2.out.trans (hb3.mono B2.out.size)
        clear hb3
        go_wp2_with fail
        go_ret
        exact ⟨by simp, B3.out⟩
  · have c2 : ((n : Int) == pats) = false := by simpa using c1
    rw [decide_eq_false c1]
    go_enter Tryz.func96, Tryz.ntmps96
    go_wp2
    go_ret
    exact ⟨by simp, BL.out⟩

theorem plainB_parts {k n : Int} {t m : ByteArray} {nk nc : Nat} (h : plainB k n t m nk nc = true) : kidLo k ≤ nk ∧ (nk : Int) ≤ kidHi k ∧ clsLo k ≤ nc ∧ (nc : Int) ≤ clsHi k := by
  unfold plainB at h
  simp only [Bool.and_eq_true, inB, decide_eq_true_eq] at h
  omega

set_option maxHeartbeats 16000000 in
set_option maxRecDepth 100000 in
theorem expI_of {d : Nat} (h0 : XpC d) (h1 : XsC d) (h2 : KsC d) : XpC (d + 1) := by
  intro w cs x pat deep hT h hd0 hd1
  have HT : Hid (Tabs w) := hT
  obtain ⟨kv, cv, rfl, -, -, hts, hms, f0, f1⟩ := h
  obtain ⟨kx, nx, tx, mx, ks, cl⟩ := x
  simp only [Ex.kind, Ex.n, Ex.text, Ex.mod, Ex.kids, Ex.clauses] at *
  have F0 : ∀ w', Below w.heap.size w w' → Rows w' All 6 (HEx w' All d) kv ks := fun w' hw => f0.mono (SameOn.of_below hw) (fun _ h => h) (fun _ _ _ h => h.mono (SameOn.of_below hw) (fun _ h => h))
  have F1 : ∀ w', Below w.heap.size w w' → Rows w' All 2 (HCl w' All (HEx w' All d)) cv cl := fun w' hw => f1.mono (SameOn.of_below hw) (fun _ h => h) (fun _ _ _ h => h.mono (SameOn.of_below hw) (fun _ h => h) (fun _ _ h => h.mono (SameOn.of_below hw) (fun _ h => h)))
  obtain ⟨p, cap, rfl, hcl, hcm, hx⟩ := f0
  obtain ⟨q, cap', rfl, hcl', hcm', -⟩ := f1
  have hnb : ks.length ≤ 9223372036854775807 := by unfold maxLen at hcm; omega
  have hmb : cl.length ≤ 9223372036854775807 := by unfold maxLen at hcm'; omega
  have hv := exOk_eq d kx nx tx mx ks cl pat (40 - deep)
  have e1 : 40 - deep - 1 = 40 - (deep + 1) := by omega
  rw [e1] at hv
  rw [hv]
  clear hv e1 hT
  have BL : Hid (∀ (cs : Array Value) (t : TypeId), Below w.heap.size w (w.alloc (.cells cs t))) := fun cs t => (Below.refl _ _).alloc (Nat.le_refl _) _
  generalize hn : ks.length = n at *
  generalize hm : cl.length = m at *
  have HN : Hid (ks.length = n) := hn
  have HM : Hid (cl.length = m) := hm
  have HX : Hid (ks ≠ [] → ∃ g off, p = some ⟨g, off, none⟩ ∧ All g ∧ g < w.heap.size ∧ ∀ i x, ks[i]? = some x → ∃ cs, cs.length = 6 ∧ (∀ j, j < 6 → w.cell? ⟨g, off + i * 6 + j, none⟩ = cs[j]?) ∧ HEx w All d cs x) := hx
  clear hx hn hm
  by_cases c1 : 40 < deep
  · rw [decide_eq_false (by omega)]
    go_enter Tryz.func119, Tryz.ntmps119
    go_wp2_with fail
    go_ret
    exact ⟨by simp, BL.out _ _⟩
  rw [decide_eq_true (by omega : 0 ≤ 40 - deep)]
  cases hpl : plainB kx nx tx mx n m with
  | false =>
    go_enter Tryz.func119, Tryz.ntmps119
    go_wp2_with fail
    refine (partsOk_any _ _ _ _ _ _ _ _ _ _ _ hts hms hnb hmb (HT.out.below (BL.out _ _))).mono ?_
    rintro e W1 ⟨rfl, hb⟩
    rw [hpl]
    have B1 : Hid (Below w.heap.size w W1) := ((Below.refl _ _).alloc (Nat.le_refl _) _).trans (hb.mono (by simp))
    have bA : Hid (Blk W1 w.heap.size #[.int .i64 kx, .int .i64 nx, .string tx, .string mx, .slice p n cap, .slice q m cap'] 73) := (Blk.new (w := w)).next hb
    have xa0 := bA.out.cell 0 _ rfl
    have xa1 := bA.out.cell 1 _ rfl
    have xa2 := bA.out.cell 2 _ rfl
    have xa3 := bA.out.cell 3 _ rfl
    have xa4 := bA.out.cell 4 _ rfl
    have xa5 := bA.out.cell 5 _ rfl
    clear hb
    go_wp2_with fail
    go_ret
    exact ⟨by simp, B1.out⟩
  | true =>
    obtain ⟨r0, r1⟩ := plainB_range hpl
    obtain ⟨g0, g1, g2, g3⟩ := plainB_parts hpl
    simp only [Bool.true_and]
    have nocl : kx ≠ 10 → cl = [] := fun h => by
      have : clsHi kx = 0 := by simp [clsHi, h]
      have h3 := HM.out
      exact List.length_eq_zero_iff.1 (by omega)
    by_cases k3 : kx = 3
    · subst k3
      have hk : ks = [] := by
        have : kidHi 3 = 0 := by decide
        have h3 := HN.out
        exact List.length_eq_zero_iff.1 (by omega)
      have HV : Hid ((patB 3 pat && (kidsB (fun y q => exOk d y q (40 - (deep + 1))) ks (pat || decide ((3 : Int) = 9)) pat && cl.all (fun c => clB (fun y q => exOk d y q (40 - (deep + 1))) c 1))) = pat) := by
        show _ = _
        rw [hk, nocl (by omega)]; cases pat <;> simp [kidsB, patB]
      clear nocl hk g0 g1 g2 g3
      rw [HV.out]
      go_enter Tryz.func119, Tryz.ntmps119
      go_wp2_with fail
      refine (partsOk_any _ _ _ _ _ _ _ _ _ _ _ hts hms hnb hmb (HT.out.below (BL.out _ _))).mono ?_
      rintro e W1 ⟨rfl, hb⟩
      rw [hpl]
      have B1 : Hid (Below w.heap.size w W1) := ((Below.refl _ _).alloc (Nat.le_refl _) _).trans (hb.mono (by simp))
      have bA : Hid (Blk W1 w.heap.size #[.int .i64 3, .int .i64 nx, .string tx, .string mx, .slice p n cap, .slice q m cap'] 73) := (Blk.new (w := w)).next hb
      have xa0 := bA.out.cell 0 _ rfl
      have xa1 := bA.out.cell 1 _ rfl
      have xa2 := bA.out.cell 2 _ rfl
      have xa3 := bA.out.cell 3 _ rfl
      have xa4 := bA.out.cell 4 _ rfl
      have xa5 := bA.out.cell 5 _ rfl
      clear hb
      go_wp2_with fail
      go_ret
      exact ⟨by rfl, B1.out⟩
    by_cases k46 : kx = 4 ∨ kx = 6
    · have HV : Hid ((patB kx pat && (kidsB (fun y q => exOk d y q (40 - (deep + 1))) ks (pat || decide (kx = 9)) pat && cl.all (fun c => clB (fun y q => exOk d y q (40 - (deep + 1))) c 1))) = ks.all (fun y => exOk d y pat (40 - (deep + 1)))) := by
        show _ = _
        have e9 : decide (kx = 9) = false := by simp; omega
        have ep : patB kx pat = true := by cases pat <;> simp [patB] <;> omega
        rw [nocl (by omega), e9, Bool.or_false, kidsB_same, ep]; simp
      clear nocl g0 g1 g2 g3
      rw [HV.out]
      rcases k46 with k4 | k4
      · subst k4
        go_enter Tryz.func119, Tryz.ntmps119
        go_wp2_with fail
        refine (partsOk_any _ _ _ _ _ _ _ _ _ _ _ hts hms hnb hmb (HT.out.below (BL.out _ _))).mono ?_
        rintro e W1 ⟨rfl, hb⟩
        rw [hpl]
        have B1 : Hid (Below w.heap.size w W1) := ((Below.refl _ _).alloc (Nat.le_refl _) _).trans (hb.mono (by simp))
        have bA : Hid (Blk W1 w.heap.size #[.int .i64 4, .int .i64 nx, .string tx, .string mx, .slice p n cap, .slice q m cap'] 73) := (Blk.new (w := w)).next hb
        have xa0 := bA.out.cell 0 _ rfl
        have xa1 := bA.out.cell 1 _ rfl
        have xa2 := bA.out.cell 2 _ rfl
        have xa3 := bA.out.cell 3 _ rfl
        have xa4 := bA.out.cell 4 _ rfl
        have xa5 := bA.out.cell 5 _ rfl
        clear hb
        go_wp2_with fail
        refine (h1 _ _ ks pat (deep + 1) (HT.out.below B1.out) (F0 _ B1.out) (by omega) (by omega)).mono ?_
        rintro e w3 ⟨rfl, hb3⟩
        have B3 : Hid (Below w.heap.size w w3) := B1.out.trans (hb3.mono B1.out.size)
        clear hb3
        go_wp2_with fail
        go_ret
        exact ⟨by rfl, B3.out⟩
      · subst k4
        go_enter Tryz.func119, Tryz.ntmps119
        go_wp2_with fail
        refine (partsOk_any _ _ _ _ _ _ _ _ _ _ _ hts hms hnb hmb (HT.out.below (BL.out _ _))).mono ?_
        rintro e W1 ⟨rfl, hb⟩
        rw [hpl]
        have B1 : Hid (Below w.heap.size w W1) := ((Below.refl _ _).alloc (Nat.le_refl _) _).trans (hb.mono (by simp))
        have bA : Hid (Blk W1 w.heap.size #[.int .i64 6, .int .i64 nx, .string tx, .string mx, .slice p n cap, .slice q m cap'] 73) := (Blk.new (w := w)).next hb
        have xa0 := bA.out.cell 0 _ rfl
        have xa1 := bA.out.cell 1 _ rfl
        have xa2 := bA.out.cell 2 _ rfl
        have xa3 := bA.out.cell 3 _ rfl
        have xa4 := bA.out.cell 4 _ rfl
        have xa5 := bA.out.cell 5 _ rfl
        clear hb
        go_wp2_with fail
        refine (h1 _ _ ks pat (deep + 1) (HT.out.below B1.out) (F0 _ B1.out) (by omega) (by omega)).mono ?_
        rintro e w3 ⟨rfl, hb3⟩
        have B3 : Hid (Below w.heap.size w w3) := B1.out.trans (hb3.mono B1.out.size)
        clear hb3
        go_wp2_with fail
        go_ret
        exact ⟨by rfl, B3.out⟩
    by_cases kl : kx = 0 ∨ kx = 1 ∨ kx = 2 ∨ kx = 5
    · have hk : ks = [] := by
        have : kidHi kx = 0 := by rcases kl with rfl | rfl | rfl | rfl <;> decide
        have h3 := HN.out
        exact List.length_eq_zero_iff.1 (by omega)
      have HV : Hid ((patB kx pat && (kidsB (fun y q => exOk d y q (40 - (deep + 1))) ks (pat || decide (kx = 9)) pat && cl.all (fun c => clB (fun y q => exOk d y q (40 - (deep + 1))) c 1))) = true) := by
        show _ = _
        have ep : patB kx pat = true := by cases pat <;> simp [patB] <;> omega
        rw [hk, nocl (by omega), ep]; simp [kidsB]
      clear nocl hk g0 g1 g2 g3
      rw [HV.out]
      rcases kl with k4 | k4 | k4 | k4
      · subst k4
        go_enter Tryz.func119, Tryz.ntmps119
        go_wp2_with fail
        refine (partsOk_any _ _ _ _ _ _ _ _ _ _ _ hts hms hnb hmb (HT.out.below (BL.out _ _))).mono ?_
        rintro e W1 ⟨rfl, hb⟩
        rw [hpl]
        have B1 : Hid (Below w.heap.size w W1) := ((Below.refl _ _).alloc (Nat.le_refl _) _).trans (hb.mono (by simp))
        have bA : Hid (Blk W1 w.heap.size #[.int .i64 0, .int .i64 nx, .string tx, .string mx, .slice p n cap, .slice q m cap'] 73) := (Blk.new (w := w)).next hb
        have xa0 := bA.out.cell 0 _ rfl
        have xa1 := bA.out.cell 1 _ rfl
        have xa2 := bA.out.cell 2 _ rfl
        have xa3 := bA.out.cell 3 _ rfl
        have xa4 := bA.out.cell 4 _ rfl
        have xa5 := bA.out.cell 5 _ rfl
        clear hb
        go_wp2_with fail
        go_ret
        exact ⟨by rfl, B1.out⟩
      · subst k4
        go_enter Tryz.func119, Tryz.ntmps119
        go_wp2_with fail
        refine (partsOk_any _ _ _ _ _ _ _ _ _ _ _ hts hms hnb hmb (HT.out.below (BL.out _ _))).mono ?_
        rintro e W1 ⟨rfl, hb⟩
        rw [hpl]
        have B1 : Hid (Below w.heap.size w W1) := ((Below.refl _ _).alloc (Nat.le_refl _) _).trans (hb.mono (by simp))
        have bA : Hid (Blk W1 w.heap.size #[.int .i64 1, .int .i64 nx, .string tx, .string mx, .slice p n cap, .slice q m cap'] 73) := (Blk.new (w := w)).next hb
        have xa0 := bA.out.cell 0 _ rfl
        have xa1 := bA.out.cell 1 _ rfl
        have xa2 := bA.out.cell 2 _ rfl
        have xa3 := bA.out.cell 3 _ rfl
        have xa4 := bA.out.cell 4 _ rfl
        have xa5 := bA.out.cell 5 _ rfl
        clear hb
        go_wp2_with fail
        go_ret
        exact ⟨by rfl, B1.out⟩
      · subst k4
        go_enter Tryz.func119, Tryz.ntmps119
        go_wp2_with fail
        refine (partsOk_any _ _ _ _ _ _ _ _ _ _ _ hts hms hnb hmb (HT.out.below (BL.out _ _))).mono ?_
        rintro e W1 ⟨rfl, hb⟩
        rw [hpl]
        have B1 : Hid (Below w.heap.size w W1) := ((Below.refl _ _).alloc (Nat.le_refl _) _).trans (hb.mono (by simp))
        have bA : Hid (Blk W1 w.heap.size #[.int .i64 2, .int .i64 nx, .string tx, .string mx, .slice p n cap, .slice q m cap'] 73) := (Blk.new (w := w)).next hb
        have xa0 := bA.out.cell 0 _ rfl
        have xa1 := bA.out.cell 1 _ rfl
        have xa2 := bA.out.cell 2 _ rfl
        have xa3 := bA.out.cell 3 _ rfl
        have xa4 := bA.out.cell 4 _ rfl
        have xa5 := bA.out.cell 5 _ rfl
        clear hb
        go_wp2_with fail
        go_ret
        exact ⟨by rfl, B1.out⟩
      · subst k4
        go_enter Tryz.func119, Tryz.ntmps119
        go_wp2_with fail
        refine (partsOk_any _ _ _ _ _ _ _ _ _ _ _ hts hms hnb hmb (HT.out.below (BL.out _ _))).mono ?_
        rintro e W1 ⟨rfl, hb⟩
        rw [hpl]
        have B1 : Hid (Below w.heap.size w W1) := ((Below.refl _ _).alloc (Nat.le_refl _) _).trans (hb.mono (by simp))
        have bA : Hid (Blk W1 w.heap.size #[.int .i64 5, .int .i64 nx, .string tx, .string mx, .slice p n cap, .slice q m cap'] 73) := (Blk.new (w := w)).next hb
        have xa0 := bA.out.cell 0 _ rfl
        have xa1 := bA.out.cell 1 _ rfl
        have xa2 := bA.out.cell 2 _ rfl
        have xa3 := bA.out.cell 3 _ rfl
        have xa4 := bA.out.cell 4 _ rfl
        have xa5 := bA.out.cell 5 _ rfl
        clear hb
        go_wp2_with fail
        go_ret
        exact ⟨by rfl, B1.out⟩
    cases pat with
    | true =>
      have HV : Hid ((patB kx true && (kidsB (fun y q => exOk d y q (40 - (deep + 1))) ks (true || decide (kx = 9)) true && cl.all (fun c => clB (fun y q => exOk d y q (40 - (deep + 1))) c 1))) = false) := by
        show _ = _
        have ep : patB kx true = false := by simp [patB]; omega
        rw [ep]; rfl
      clear nocl g0 g1 g2 g3
      rw [HV.out]
      rcases (by omega : kx = 7 ∨ kx = 8 ∨ kx = 9 ∨ kx = 10) with k4 | k4 | k4 | k4
      · subst k4
        go_enter Tryz.func119, Tryz.ntmps119
        go_wp2_with fail
        refine (partsOk_any _ _ _ _ _ _ _ _ _ _ _ hts hms hnb hmb (HT.out.below (BL.out _ _))).mono ?_
        rintro e W1 ⟨rfl, hb⟩
        rw [hpl]
        have B1 : Hid (Below w.heap.size w W1) := ((Below.refl _ _).alloc (Nat.le_refl _) _).trans (hb.mono (by simp))
        have bA : Hid (Blk W1 w.heap.size #[.int .i64 7, .int .i64 nx, .string tx, .string mx, .slice p n cap, .slice q m cap'] 73) := (Blk.new (w := w)).next hb
        have xa0 := bA.out.cell 0 _ rfl
        have xa1 := bA.out.cell 1 _ rfl
        have xa2 := bA.out.cell 2 _ rfl
        have xa3 := bA.out.cell 3 _ rfl
        have xa4 := bA.out.cell 4 _ rfl
        have xa5 := bA.out.cell 5 _ rfl
        clear hb
        go_wp2_with fail
        go_ret
        exact ⟨by rfl, B1.out⟩
      · subst k4
        go_enter Tryz.func119, Tryz.ntmps119
        go_wp2_with fail
        refine (partsOk_any _ _ _ _ _ _ _ _ _ _ _ hts hms hnb hmb (HT.out.below (BL.out _ _))).mono ?_
        rintro e W1 ⟨rfl, hb⟩
        rw [hpl]
        have B1 : Hid (Below w.heap.size w W1) := ((Below.refl _ _).alloc (Nat.le_refl _) _).trans (hb.mono (by simp))
        have bA : Hid (Blk W1 w.heap.size #[.int .i64 8, .int .i64 nx, .string tx, .string mx, .slice p n cap, .slice q m cap'] 73) := (Blk.new (w := w)).next hb
        have xa0 := bA.out.cell 0 _ rfl
        have xa1 := bA.out.cell 1 _ rfl
        have xa2 := bA.out.cell 2 _ rfl
        have xa3 := bA.out.cell 3 _ rfl
        have xa4 := bA.out.cell 4 _ rfl
        have xa5 := bA.out.cell 5 _ rfl
        clear hb
        go_wp2_with fail
        go_ret
        exact ⟨by rfl, B1.out⟩
      · subst k4
        go_enter Tryz.func119, Tryz.ntmps119
        go_wp2_with fail
        refine (partsOk_any _ _ _ _ _ _ _ _ _ _ _ hts hms hnb hmb (HT.out.below (BL.out _ _))).mono ?_
        rintro e W1 ⟨rfl, hb⟩
        rw [hpl]
        have B1 : Hid (Below w.heap.size w W1) := ((Below.refl _ _).alloc (Nat.le_refl _) _).trans (hb.mono (by simp))
        have bA : Hid (Blk W1 w.heap.size #[.int .i64 9, .int .i64 nx, .string tx, .string mx, .slice p n cap, .slice q m cap'] 73) := (Blk.new (w := w)).next hb
        have xa0 := bA.out.cell 0 _ rfl
        have xa1 := bA.out.cell 1 _ rfl
        have xa2 := bA.out.cell 2 _ rfl
        have xa3 := bA.out.cell 3 _ rfl
        have xa4 := bA.out.cell 4 _ rfl
        have xa5 := bA.out.cell 5 _ rfl
        clear hb
        go_wp2_with fail
        go_ret
        exact ⟨by rfl, B1.out⟩
      · subst k4
        go_enter Tryz.func119, Tryz.ntmps119
        go_wp2_with fail
        refine (partsOk_any _ _ _ _ _ _ _ _ _ _ _ hts hms hnb hmb (HT.out.below (BL.out _ _))).mono ?_
        rintro e W1 ⟨rfl, hb⟩
        rw [hpl]
        have B1 : Hid (Below w.heap.size w W1) := ((Below.refl _ _).alloc (Nat.le_refl _) _).trans (hb.mono (by simp))
        have bA : Hid (Blk W1 w.heap.size #[.int .i64 10, .int .i64 nx, .string tx, .string mx, .slice p n cap, .slice q m cap'] 73) := (Blk.new (w := w)).next hb
        have xa0 := bA.out.cell 0 _ rfl
        have xa1 := bA.out.cell 1 _ rfl
        have xa2 := bA.out.cell 2 _ rfl
        have xa3 := bA.out.cell 3 _ rfl
        have xa4 := bA.out.cell 4 _ rfl
        have xa5 := bA.out.cell 5 _ rfl
        clear hb
        go_wp2_with fail
        go_ret
        exact ⟨by rfl, B1.out⟩
    | false =>
      have ep : patB kx false = true := by simp [patB]; omega
      rw [ep]
      clear ep
      by_cases k78 : kx = 7 ∨ kx = 8
      · have HV : Hid ((true && (kidsB (fun y q => exOk d y q (40 - (deep + 1))) ks (false || decide (kx = 9)) false && cl.all (fun c => clB (fun y q => exOk d y q (40 - (deep + 1))) c 1))) = ks.all (fun y => exOk d y false (40 - (deep + 1)))) := by
          show _ = _
          have e9 : decide (kx = 9) = false := by simp; omega
          rw [nocl (by omega), e9, Bool.or_false, kidsB_same]; simp
        clear nocl g0 g1 g2 g3
        rw [HV.out]
        rcases k78 with k4 | k4
        · subst k4
          go_enter Tryz.func119, Tryz.ntmps119
          go_wp2_with fail
          refine (partsOk_any _ _ _ _ _ _ _ _ _ _ _ hts hms hnb hmb (HT.out.below (BL.out _ _))).mono ?_
          rintro e W1 ⟨rfl, hb⟩
          rw [hpl]
          have B1 : Hid (Below w.heap.size w W1) := ((Below.refl _ _).alloc (Nat.le_refl _) _).trans (hb.mono (by simp))
          have bA : Hid (Blk W1 w.heap.size #[.int .i64 7, .int .i64 nx, .string tx, .string mx, .slice p n cap, .slice q m cap'] 73) := (Blk.new (w := w)).next hb
          have xa0 := bA.out.cell 0 _ rfl
          have xa1 := bA.out.cell 1 _ rfl
          have xa2 := bA.out.cell 2 _ rfl
          have xa3 := bA.out.cell 3 _ rfl
          have xa4 := bA.out.cell 4 _ rfl
          have xa5 := bA.out.cell 5 _ rfl
          clear hb
          go_wp2_with fail
          refine (h1 _ _ ks false (deep + 1) (HT.out.below B1.out) (F0 _ B1.out) (by omega) (by omega)).mono ?_
          rintro e w3 ⟨rfl, hb3⟩
          have B3 : Hid (Below w.heap.size w w3) := B1.out.trans (hb3.mono B1.out.size)
          clear hb3
          go_wp2_with fail
          go_ret
          exact ⟨by rfl, B3.out⟩
        · subst k4
          go_enter Tryz.func119, Tryz.ntmps119
          go_wp2_with fail
          refine (partsOk_any _ _ _ _ _ _ _ _ _ _ _ hts hms hnb hmb (HT.out.below (BL.out _ _))).mono ?_
          rintro e W1 ⟨rfl, hb⟩
          rw [hpl]
          have B1 : Hid (Below w.heap.size w W1) := ((Below.refl _ _).alloc (Nat.le_refl _) _).trans (hb.mono (by simp))
          have bA : Hid (Blk W1 w.heap.size #[.int .i64 8, .int .i64 nx, .string tx, .string mx, .slice p n cap, .slice q m cap'] 73) := (Blk.new (w := w)).next hb
          have xa0 := bA.out.cell 0 _ rfl
          have xa1 := bA.out.cell 1 _ rfl
          have xa2 := bA.out.cell 2 _ rfl
          have xa3 := bA.out.cell 3 _ rfl
          have xa4 := bA.out.cell 4 _ rfl
          have xa5 := bA.out.cell 5 _ rfl
          clear hb
          go_wp2_with fail
          refine (h1 _ _ ks false (deep + 1) (HT.out.below B1.out) (F0 _ B1.out) (by omega) (by omega)).mono ?_
          rintro e w3 ⟨rfl, hb3⟩
          have B3 : Hid (Below w.heap.size w w3) := B1.out.trans (hb3.mono B1.out.size)
          clear hb3
          go_wp2_with fail
          go_ret
          exact ⟨by rfl, B3.out⟩
      by_cases k9 : kx = 9
      · subst k9
        have hn2 : n = 2 := by
          have a1 : kidLo 9 = 2 := by decide
          have a2 : kidHi 9 = 2 := by decide
          omega
        subst hn2
        obtain ⟨xa, xb, hks⟩ : ∃ a b, ks = [a, b] := by
          have h3 := HN.out
          match ks, h3 with
          | [a, b], _ => exact ⟨a, b, rfl⟩
        have HV : Hid ((true && (kidsB (fun y q => exOk d y q (40 - (deep + 1))) ks (false || decide ((9 : Int) = 9)) false && cl.all (fun c => clB (fun y q => exOk d y q (40 - (deep + 1))) c 1))) = (exOk d xa true (40 - (deep + 1)) && exOk d xb false (40 - (deep + 1)))) := by
          show _ = _
          rw [nocl (by omega), hks]; simp [kidsB]
        rw [HV.out]
        obtain ⟨g, off, rfl, -, hgl, hat⟩ := HX.out (by rw [hks]; simp)
        obtain ⟨cs, -, hcs, ra⟩ := hat 0 xa (by rw [hks]; rfl)
        obtain ⟨cs', -, hcs', rb⟩ := hat 1 xb (by rw [hks]; rfl)
        obtain ⟨sk, sn, st, se, p1, n1, q1, p2, n2, q2, rfl⟩ := exShape ra
        obtain ⟨tk, tn, tt, te, u1, m1, v1, u2, m2, v2, rfl⟩ := exShape rb
        have EA : ∀ w', Below w.heap.size w w' → HEx w' All d [.int .i64 sk, .int .i64 sn, .string st, .string se, .slice p1 n1 q1, .slice p2 n2 q2] xa := fun w' hw => ra.mono (SameOn.of_below hw) (fun _ h => h)
        have EB : ∀ w', Below w.heap.size w w' → HEx w' All d [.int .i64 tk, .int .i64 tn, .string tt, .string te, .slice u1 m1 v1, .slice u2 m2 v2] xb := fun w' hw => rb.mono (SameOn.of_below hw) (fun _ h => h)
        have CA : ∀ w', Below w.heap.size w w' → ∀ j, j < 6 → w'.cell? ⟨g, off + 0 * 6 + j, none⟩ = _ := fun w' hw j hj => (hw.cell (p := ⟨g, off + 0 * 6 + j, none⟩) hgl).trans (hcs j hj)
        have CB : ∀ w', Below w.heap.size w w' → ∀ j, j < 6 → w'.cell? ⟨g, off + 1 * 6 + j, none⟩ = _ := fun w' hw j hj => (hw.cell (p := ⟨g, off + 1 * 6 + j, none⟩) hgl).trans (hcs' j hj)
        clear nocl hat hcs hcs' ra rb g0 g1 g2 g3
        have HCA : Hid (∀ w', Below w.heap.size w w' → ∀ j, j < 6 → w'.cell? ⟨g, off + 0 * 6 + j, none⟩ = _) := CA
        have HCB : Hid (∀ w', Below w.heap.size w w' → ∀ j, j < 6 → w'.cell? ⟨g, off + 1 * 6 + j, none⟩ = _) := CB
        clear CA CB hks
        generalize hca : exOk d xa true (40 - (deep + 1)) = ca
        have HCV : Hid (exOk d xa true (40 - (deep + 1)) = ca) := hca
        clear hca
        cases ca with
        | false =>
          go_enter Tryz.func119, Tryz.ntmps119
          go_wp2_with fail
          refine (partsOk_any _ _ _ _ _ _ _ _ _ _ _ hts hms hnb hmb (HT.out.below (BL.out _ _))).mono ?_
          rintro e W1 ⟨rfl, hb⟩
          rw [hpl]
          have B1 : Hid (Below w.heap.size w W1) := ((Below.refl _ _).alloc (Nat.le_refl _) _).trans (hb.mono (by simp))
          have bA : Hid (Blk W1 w.heap.size #[.int .i64 9, .int .i64 nx, .string tx, .string mx, .slice (some ⟨g, off, none⟩) 2 cap, .slice q m cap'] 73) := (Blk.new (w := w)).next hb
          have xa0 := bA.out.cell 0 _ rfl
          have xa1 := bA.out.cell 1 _ rfl
          have xa2 := bA.out.cell 2 _ rfl
          have xa3 := bA.out.cell 3 _ rfl
          have xa4 := bA.out.cell 4 _ rfl
          have xa5 := bA.out.cell 5 _ rfl
          clear hb
          have ya0 := HCA.out _ B1.out 0 (by omega)
          have ya1 := HCA.out _ B1.out 1 (by omega)
          have ya2 := HCA.out _ B1.out 2 (by omega)
          have ya3 := HCA.out _ B1.out 3 (by omega)
          have ya4 := HCA.out _ B1.out 4 (by omega)
          have ya5 := HCA.out _ B1.out 5 (by omega)
          simp at ya0 ya1 ya2 ya3 ya4 ya5
          go_wp2_with fail
          refine (h0 _ _ xa true (deep + 1) (HT.out.below B1.out) (EA _ B1.out) (by omega) (by omega)).mono ?_
          rintro e w3 ⟨rfl, hb3⟩
          rw [HCV.out]
          have B3 : Hid (Below w.heap.size w w3) := B1.out.trans (hb3.mono B1.out.size)
          clear hb3
          go_wp2_with fail
          go_ret
          exact ⟨by simp, B3.out⟩
        | true =>
          go_enter Tryz.func119, Tryz.ntmps119
          go_wp2_with fail
          refine (partsOk_any _ _ _ _ _ _ _ _ _ _ _ hts hms hnb hmb (HT.out.below (BL.out _ _))).mono ?_
          rintro e W1 ⟨rfl, hb⟩
          rw [hpl]
          have B1 : Hid (Below w.heap.size w W1) := ((Below.refl _ _).alloc (Nat.le_refl _) _).trans (hb.mono (by simp))
          have bA : Hid (Blk W1 w.heap.size #[.int .i64 9, .int .i64 nx, .string tx, .string mx, .slice (some ⟨g, off, none⟩) 2 cap, .slice q m cap'] 73) := (Blk.new (w := w)).next hb
          have xa0 := bA.out.cell 0 _ rfl
          have xa1 := bA.out.cell 1 _ rfl
          have xa2 := bA.out.cell 2 _ rfl
          have xa3 := bA.out.cell 3 _ rfl
          have xa4 := bA.out.cell 4 _ rfl
          have xa5 := bA.out.cell 5 _ rfl
          clear hb
          have ya0 := HCA.out _ B1.out 0 (by omega)
          have ya1 := HCA.out _ B1.out 1 (by omega)
          have ya2 := HCA.out _ B1.out 2 (by omega)
          have ya3 := HCA.out _ B1.out 3 (by omega)
          have ya4 := HCA.out _ B1.out 4 (by omega)
          have ya5 := HCA.out _ B1.out 5 (by omega)
          simp at ya0 ya1 ya2 ya3 ya4 ya5
          go_wp2_with fail
          refine (h0 _ _ xa true (deep + 1) (HT.out.below B1.out) (EA _ B1.out) (by omega) (by omega)).mono ?_
          rintro e w3 ⟨rfl, hb3⟩
          rw [HCV.out]
          have B3 : Hid (Below w.heap.size w w3) := B1.out.trans (hb3.mono B1.out.size)
          have hbk := bA.out.next hb3
          clear xa0 xa1 xa2 xa3 xa4 xa5 ya0 ya1 ya2 ya3 ya4 ya5
          have xa4 := hbk.cell 4 _ rfl
          have yb0 := HCB.out _ B3.out 0 (by omega)
          have yb1 := HCB.out _ B3.out 1 (by omega)
          have yb2 := HCB.out _ B3.out 2 (by omega)
          have yb3 := HCB.out _ B3.out 3 (by omega)
          have yb4 := HCB.out _ B3.out 4 (by omega)
          have yb5 := HCB.out _ B3.out 5 (by omega)
          simp at yb0 yb1 yb2 yb3 yb4 yb5
          clear hb3 hbk
          go_wp2_with fail
          refine (h0 _ _ xb false (deep + 1) (HT.out.below B3.out) (EB _ B3.out) (by omega) (by omega)).mono ?_
          rintro e w4 ⟨rfl, hb4⟩
          have B4 : Hid (Below w.heap.size w w4) := B3.out.trans (hb4.mono B3.out.size)
          clear hb4
          go_wp2_with fail
          go_ret
          exact ⟨by simp, B4.out⟩
      obtain rfl : kx = 10 := by omega
      have HV : Hid ((true && (kidsB (fun y q => exOk d y q (40 - (deep + 1))) ks (false || decide ((10 : Int) = 9)) false && cl.all (fun c => clB (fun y q => exOk d y q (40 - (deep + 1))) c 1))) = (ks.all (fun y => exOk d y false (40 - (deep + 1))) && cl.all (fun c => clB (fun y q => exOk d y q (40 - (deep + 1))) c 1))) := by
        show _ = _
        have e9 : (false || decide ((10 : Int) = 9)) = false := by decide
        rw [e9, kidsB_same, Bool.true_and]
      clear nocl g0 g1 g2 g3
      rw [HV.out]
      cases hca : ks.all (fun y => exOk d y false (40 - (deep + 1))) with
      | false =>
        go_enter Tryz.func119, Tryz.ntmps119
        go_wp2_with fail
        refine (partsOk_any _ _ _ _ _ _ _ _ _ _ _ hts hms hnb hmb (HT.out.below (BL.out _ _))).mono ?_
        rintro e W1 ⟨rfl, hb⟩
        rw [hpl]
        have B1 : Hid (Below w.heap.size w W1) := ((Below.refl _ _).alloc (Nat.le_refl _) _).trans (hb.mono (by simp))
        have bA : Hid (Blk W1 w.heap.size #[.int .i64 10, .int .i64 nx, .string tx, .string mx, .slice p n cap, .slice q m cap'] 73) := (Blk.new (w := w)).next hb
        have xa0 := bA.out.cell 0 _ rfl
        have xa1 := bA.out.cell 1 _ rfl
        have xa2 := bA.out.cell 2 _ rfl
        have xa3 := bA.out.cell 3 _ rfl
        have xa4 := bA.out.cell 4 _ rfl
        have xa5 := bA.out.cell 5 _ rfl
        clear hb
        go_wp2_with fail
        refine (h1 _ _ ks false (deep + 1) (HT.out.below B1.out) (F0 _ B1.out) (by omega) (by omega)).mono ?_
        rintro e w3 ⟨rfl, hb3⟩
        rw [hca]
        have B3 : Hid (Below w.heap.size w w3) := B1.out.trans (hb3.mono B1.out.size)
        clear hb3
        go_wp2_with fail
        go_ret
        exact ⟨by simp, B3.out⟩
      | true =>
        go_enter Tryz.func119, Tryz.ntmps119
        go_wp2_with fail
        refine (partsOk_any _ _ _ _ _ _ _ _ _ _ _ hts hms hnb hmb (HT.out.below (BL.out _ _))).mono ?_
        rintro e W1 ⟨rfl, hb⟩
        rw [hpl]
        have B1 : Hid (Below w.heap.size w W1) := ((Below.refl _ _).alloc (Nat.le_refl _) _).trans (hb.mono (by simp))
        have bA : Hid (Blk W1 w.heap.size #[.int .i64 10, .int .i64 nx, .string tx, .string mx, .slice p n cap, .slice q m cap'] 73) := (Blk.new (w := w)).next hb
        have xa0 := bA.out.cell 0 _ rfl
        have xa1 := bA.out.cell 1 _ rfl
        have xa2 := bA.out.cell 2 _ rfl
        have xa3 := bA.out.cell 3 _ rfl
        have xa4 := bA.out.cell 4 _ rfl
        have xa5 := bA.out.cell 5 _ rfl
        clear hb
        go_wp2_with fail
        refine (h1 _ _ ks false (deep + 1) (HT.out.below B1.out) (F0 _ B1.out) (by omega) (by omega)).mono ?_
        rintro e w3 ⟨rfl, hb3⟩
        rw [hca]
        have B3 : Hid (Below w.heap.size w w3) := B1.out.trans (hb3.mono B1.out.size)
        have hbk := bA.out.next hb3
        clear xa0 xa1 xa2 xa3 xa4 xa5
        have xa5 := hbk.cell 5 _ rfl
        clear hb3 hbk
        go_wp2_with fail
        refine (h2 _ _ cl (deep + 1) (HT.out.below B3.out) (F1 _ B3.out) (by omega) (by omega)).mono ?_
        rintro e w4 ⟨rfl, hb4⟩
        have B4 : Hid (Below w.heap.size w w4) := B3.out.trans (hb4.mono B3.out.size)
        clear hb4
        go_wp2_with fail
        go_ret
        exact ⟨by simp, B4.out⟩

theorem exp_allI : ∀ d, XpC d
  | 0 => fun w cs x pat deep _ h _ _ => h.elim
  | d + 1 => expI_of (exp_allI d) (expsI_of (exp_allI d)) (casesI_of (clauseI_of (expsI_of (exp_allI d))))
theorem clause_allI (d : Nat) : KcC d := clauseI_of (expsI_of (exp_allI d))
end Go.Proofs.YtoknolophmhlgaaGreatDoor
/-
  The program's ModuleOk, by contract: functions.
-/
namespace Go.Proofs.YtoknolophmhlgaaGreatDoor
open Go.ChangeShapes Go.WideShapes Go.ChangeAt Go.RowKit
set_option linter.unusedVariables false

theorem fnShape {w : World} {S : Nat → Prop} {d : Nat} {cs : List Value} {x : Fn'} (h : HFn w S d cs x) : ∃ p1 n1 q1, cs = [.string x.name, .int .i64 x.arity, .slice p1 n1 q1] := by
  obtain ⟨cv, rfl, _, _, ⟨p1, c1, rfl, _⟩⟩ := h
  exact ⟨_, _, _, rfl⟩
theorem Rows.take {α : Type} {w : World} {S : Nat → Prop} {c : Nat} {R : List Value → α → Prop} {p : Option Addr} {n cap : Nat} {es : List α} (h : Rows w S c R (.slice p n cap) es) (k : Nat) (hk : k ≤ n) : Rows w S c R (.slice p k cap) (es.take k) := by
  obtain ⟨p', cap', hv, h1, h2, hx⟩ := h
  simp only [Value.slice.injEq] at hv
  obtain ⟨rfl, rfl, rfl⟩ := hv
  refine ⟨p, cap, by rw [List.length_take, Nat.min_eq_left hk], by rw [List.length_take]; omega, h2, fun hne => ?_⟩
  obtain ⟨g, off, hp, hS, hl, hat⟩ := hx (fun e => hne (by rw [e]; simp))
  exact ⟨g, off, hp, hS, hl, fun i x hi => hat i x (by rw [List.getElem?_take] at hi; split at hi; exact hi; cases hi)⟩

theorem refG : Tryz.prog.eqGuardType Tryz.prog.depth 88 = false := by kernel_rfl
theorem refH : Tryz.prog.stoodInHeld 88 = false := by kernel_rfl
theorem refU : Tryz.prog.underlying 88 = some (.struct (Tryz.prog.fieldsOf 88)) := by kernel_rfl
theorem refE (a c : ByteArray) (b d : Int) (w : World) : (Op.equalIn 10000 88 (.agg #[.string a, .int .i64 b]) (.agg #[.string c, .int .i64 d])).run Tryz.prog w = .ok ((a.toList == c.toList) && (b == d)) w := by
  rw [show (10000 : Nat) = 9999 + 1 from rfl, run_equalIn_struct w 9999 _ _ _ refU refH]
  cases h1 : (a.toList == c.toList) <;> cases h2 : (b == d) <;> simp [go_sem, Program.fieldsOf, Tryz.underlying88, Tryz.underlying3, Tryz.underlying9, Op.eqFields, h1, h2]

set_option maxHeartbeats 8000000 in
set_option maxRecDepth 100000 in
theorem hasFun_any (d : Nat) (w : World) (v : Value) (fs : List Fn') (r : Rf) (h : Rows w All 3 (HFn w All d) v fs) :
    Calls Tryz.prog 81 #[v, .agg #[.string r.name, .int .i64 r.arity]] w fun e w' => e = .returned (.bool (fs.any (sameR r))) ∧ Below w.heap.size w w' := by
  obtain ⟨rs, rn⟩ := r
  simp only
  obtain ⟨p, cap, rfl, hcl, hcm, hx⟩ := h
  have hnb : fs.length ≤ 9223372036854775807 := by unfold maxLen at hcm; omega
  generalize hn : fs.length = n at *
  have HN : Hid (fs.length = n) := hn
  have HX : Hid (fs ≠ [] → ∃ g off, p = some ⟨g, off, none⟩ ∧ All g ∧ g < w.heap.size ∧ ∀ i x, fs[i]? = some x → ∃ cs, cs.length = 3 ∧ (∀ j, j < 3 → w.cell? ⟨g, off + i * 3 + j, none⟩ = cs[j]?) ∧ HFn w All d cs x) := hx
  obtain ⟨W1, hW1⟩ : ∃ W1, W1 = w.alloc (.cells #[.string rs, .int .i64 rn] 88) := ⟨_, rfl⟩
  have bA : Hid (Blk W1 w.heap.size #[.string rs, .int .i64 rn] 88) := by show Blk _ _ _ _; rw [hW1]; exact Blk.new
  have B1 : Hid (Below w.heap.size w W1) := by show Below _ _ _; rw [hW1]; exact (Below.refl _ _).alloc (Nat.le_refl _) _
  have HW1 : Hid (W1 = w.alloc (.cells #[.string rs, .int .i64 rn] 88)) := hW1
  clear hx hn hW1
  go_enter Tryz.func81, Tryz.ntmps81
  go_wp2_with fail
  rw [← HW1.out]
  go_loopw [9] (fun iv wr => ∃ k : Nat, k ≤ n ∧ iv = .int .i64 k ∧ Hid ((fs.take k).any (sameR ⟨rs, rn⟩) = false) ∧ Hid (SameOn All W1 wr) ∧ Below w.heap.size w wr) (fun iv _ => n - (intOf iv).toNat)
  case atStart => exact ⟨0, Nat.zero_le _, rfl, by show _ = _; simp, ⟨Nat.le_refl _, fun _ _ _ => rfl⟩, B1.out⟩
  case round =>
    obtain ⟨k, hk, rfl, hall, hso, hb⟩ := hrel
    have HB : Hid (Below w.heap.size w wr) := hb
    by_cases hlt : k < n
    · obtain ⟨x, hxk⟩ : ∃ x, fs[k]? = some x := ⟨fs[k]'(by rw [HN.out]; exact hlt), List.getElem?_eq_getElem _⟩
      obtain ⟨g, off, rfl, -, hgl, hat⟩ := HX.out (by intro h; rw [h] at hxk; simp at hxk)
      obtain ⟨cs, hcsl, hcs, r1⟩ := hat k x hxk
      obtain ⟨p1, n1, q1, rfl⟩ := fnShape r1
      obtain ⟨xs, xn, xc⟩ := x
      simp only at *
      have a0 := hcs 0 (by omega)
      have a1 := hcs 1 (by omega)
      have a2 := hcs 2 (by omega)
      rw [← hb.cell (p := ⟨g, _, none⟩) hgl] at a0 a1 a2
      simp at a0 a1 a2
      have hki : (k : Int) < (n : Int) := by omega
      have hk0 : (0 : Int) ≤ (k : Int) := by omega
      obtain ⟨W5, hW5⟩ : ∃ W5, W5 = wr.alloc (.cells #[.string xs, .int .i64 xn, .slice p1 n1 q1] 68) := ⟨_, rfl⟩
      have bF : Hid (Blk W5 wr.heap.size #[.string xs, .int .i64 xn, .slice p1 n1 q1] 68) := by show Blk _ _ _ _; rw [hW5]; exact Blk.new
      have K5 : Below wr.heap.size wr W5 := by rw [hW5]; exact (Below.refl _ _).alloc (Nat.le_refl _) _
      have B5 : Hid (Below w.heap.size w W5) := hb.trans (K5.mono hb.size)
      have S5 : Hid (SameOn All W1 W5) := hso.out.trans (SameOn.of_below K5)
      have HW5 : Hid (W5 = wr.alloc (.cells #[.string xs, .int .i64 xn, .slice p1 n1 q1] 68)) := hW5
      have bR := bA.out.same_on S5.out
      have y0 := bR.cell 0 _ rfl
      have y1 := bR.cell 1 _ rfl
      have z0 := bF.out.cell 0 _ rfl
      have z1 := bF.out.cell 1 _ rfl
      have z2 := bF.out.cell 2 _ rfl
      have l1 := bR.lt
      have l2 := bF.out.lt
      have qy0 : ∀ m : Wd (fun w' => SameOn All W5 w' ∧ Below w.heap.size w w'), m.val.cell? ⟨w.heap.size, 0, none⟩ = some (.string rs) := fun m => (World.cell?_of_block (m.ok.1.2 w.heap.size trivial l1)).trans y0
      have qy1 : ∀ m : Wd (fun w' => SameOn All W5 w' ∧ Below w.heap.size w w'), m.val.cell? ⟨w.heap.size, 1, none⟩ = some (.int .i64 rn) := fun m => (World.cell?_of_block (m.ok.1.2 w.heap.size trivial l1)).trans y1
      have qz0 : ∀ m : Wd (fun w' => SameOn All W5 w' ∧ Below w.heap.size w w'), m.val.cell? ⟨wr.heap.size, 0, none⟩ = some (.string xs) := fun m => (World.cell?_of_block (m.ok.1.2 wr.heap.size trivial l2)).trans z0
      have qz1 : ∀ m : Wd (fun w' => SameOn All W5 w' ∧ Below w.heap.size w w'), m.val.cell? ⟨wr.heap.size, 1, none⟩ = some (.int .i64 xn) := fun m => (World.cell?_of_block (m.ok.1.2 wr.heap.size trivial l2)).trans z1
      have qz2 : ∀ m : Wd (fun w' => SameOn All W5 w' ∧ Below w.heap.size w w'), m.val.cell? ⟨wr.heap.size, 2, none⟩ = some (.slice p1 n1 q1) := fun m => (World.cell?_of_block (m.ok.1.2 wr.heap.size trivial l2)).trans z2
      clear hb hcs hat hcsl r1 hW5 K5 y0 y1 z0 z1 z2 l1 l2 bR
      go_wp2_with fail
      rw [← HW5.out]
      have e1 := refG
      have e2 := refE
      have hCne : Nonempty (Wd (fun w' => SameOn All W5 w' ∧ Below w.heap.size w w')) := ⟨⟨W5.drew, ⟨⟨Nat.le_refl _, fun _ _ _ => rfl⟩, B5.out.drew⟩⟩⟩
      refine wp_region_class (fun w' => SameOn All W5 w' ∧ Below w.heap.size w w') (by kernel_rfl) (by kernel_rfl) ⟨⟨Nat.le_refl _, fun _ _ _ => rfl⟩, B5.out.drew⟩ ?_
      repeat (go_big_quiet_step (first | (rename_i m; go_at_call 60; refine (refOf_any _ _ _ _ _ _).mono ?_; rintro e w1 ⟨rfl, hb1⟩; exact ⟨rfl, ⟨⟨w1, ⟨(SameOn.trans m.ok.1 (SameOn.of_below hb1)), m.ok.2.trans (hb1.mono m.ok.2.size)⟩⟩, rfl⟩⟩)))
      refine wpQuiet_nil ?_
      rintro _ ⟨mq, rfl⟩
      have HB4 : Hid (Below w.heap.size w mq.val) := mq.ok.2
      have HS4 : Hid (SameOn All W1 mq.val) := S5.out.trans mq.ok.1
      generalize mq.val = w4 at HB4 HS4 ⊢
      generalize hcv : (xs.toList == rs.toList && xn == rn) = cv
      have HC2 : Hid (cv = false → (fs.take (k + 1)).any (sameR ⟨rs, rn⟩) = false) := fun h => anyT_succ _ fs k _ hxk hall.out (show (xs.toList == rs.toList && xn == rn) = false from hcv.trans h)
      have HC3 : Hid (cv = true → fs.any (sameR ⟨rs, rn⟩) = true) := fun h => anyT_at _ fs k _ hxk (show (xs.toList == rs.toList && xn == rn) = true from hcv.trans h)
      clear hcv
      cases cv with
      | false =>
        have HT' : Hid _ := HC2.out rfl
        clear HC2 HC3
        go_wp2_with fail
        exact ⟨⟨k + 1, by omega, by go_num, HT'.out, HS4.out, HB4.out⟩, by simp [intOf]; omega⟩
      | true =>
        have HF : Hid _ := HC3.out rfl
        clear HC2 HC3
        go_wp2_with fail
        go_ret
        exact ⟨by rw [HF.out]; rfl, HB4.out⟩
    · have HD : Hid (fs.any (sameR ⟨rs, rn⟩) = false) := by
        have := hall.out
        rwa [List.take_of_length_le (by rw [HN.out]; omega)] at this
      clear hb
      go_wp2_with fail
      go_ret
      exact ⟨by rw [HD.out]; rfl, HB.out⟩
end Go.Proofs.YtoknolophmhlgaaGreatDoor
