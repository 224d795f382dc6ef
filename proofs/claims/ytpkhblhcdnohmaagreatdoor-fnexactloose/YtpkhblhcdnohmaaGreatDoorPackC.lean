/-
  Texts of the proof, packed: ModOkImplB, ModOkFuns, ModOkImplC, LooseMath, ModOkImplD, LooseImpl, NameSpecA, NameSpecB, NameSpecC, NameSpecH, NameSpecI, NameSpecE, NameSpecF, NameSpecJ, ModOkSpecA, ModOkSpecB.
-/
import Derived.Test.YtpkhblhcdnohmaaGreatDoorPackB
import Derived.Test.YtpkhblhcdnohmaaGreatDoorPackA
import Derived.Deep.RegionLaw
import Derived.Deep.RegionHeldLaw
import Derived.Deep.AppendLies
import Derived.Deep.QuietTactic
import Derived.BigQuiet
/-
  The program's ModuleOk, by contract: expressions and clauses.
-/
namespace Go.Proofs.YtpkhblhcdnohmaaGreatDoor
open Go.ChangeShapes Go.WideShapes Go.ChangeAt Go.RowKit
set_option linter.unusedVariables false

theorem exShape {w : World} {S : Nat → Prop} {d : Nat} {cs : List Value} {x : Ex} (h : HEx w S d cs x) : ∃ sk sn st se p1 n1 q1 p2 n2 q2, cs = [.int .i64 sk, .int .i64 sn, .string st, .string se, .slice p1 n1 q1, .slice p2 n2 q2] := by
  cases d with
  | zero => exact h.elim
  | succ d =>
    obtain ⟨kv, cv, rfl, _, _, _, _, ⟨p1, c1, rfl, _⟩, ⟨p2, c2, rfl, _⟩⟩ := h
    exact ⟨_, _, _, _, _, _, _, _, _, _, rfl⟩
theorem clShape {w : World} {S : Nat → Prop} {R : List Value → Ex → Prop} {cs : List Value} {x : Cl} (h : HCl w S R cs x) : ∃ p1 n1 q1 p2 n2 q2, cs = [.slice p1 n1 q1, .slice p2 n2 q2] := by
  obtain ⟨pv, bv, rfl, ⟨p1, c1, rfl, _⟩, ⟨p2, c2, rfl, _⟩⟩ := h
  exact ⟨_, _, _, _, _, _, rfl⟩

def XpC (d : Nat) : Prop :=
  ∀ (w : World) (cs : List Value) (x : Ex) (pat : Bool) (deep : Int), Tabs w → HEx w All d cs x → 0 ≤ deep → deep ≤ 41 → Calls Tryz.prog 105 #[.agg cs.toArray, .int .i64 deep, .bool pat] w fun e w' => e = .returned (.bool (exOk d x pat (40 - deep))) ∧ Below w.heap.size w w'
def XsC (d : Nat) : Prop :=
  ∀ (w : World) (v : Value) (es : List Ex) (pat : Bool) (deep : Int), Tabs w → Rows w All 6 (HEx w All d) v es → 0 ≤ deep → deep ≤ 41 → Calls Tryz.prog 93 #[v, .int .i64 deep, .bool pat] w fun e w' => e = .returned (.bool (es.all (fun y => exOk d y pat (40 - deep)))) ∧ Below w.heap.size w w'
def KcC (d : Nat) : Prop :=
  ∀ (w : World) (cs : List Value) (c : Cl) (pats deep : Int), Tabs w → HCl w All (HEx w All d) cs c → 0 ≤ deep → deep ≤ 41 → Calls Tryz.prog 78 #[.agg cs.toArray, .int .i64 pats, .int .i64 deep] w fun e w' => e = .returned (.bool (clB (fun y q => exOk d y q (40 - deep)) c pats)) ∧ Below w.heap.size w w'
def KsC (d : Nat) : Prop :=
  ∀ (w : World) (v : Value) (cl : List Cl) (deep : Int), Tabs w → Rows w All 2 (HCl w All (HEx w All d)) v cl → 0 ≤ deep → deep ≤ 41 → Calls Tryz.prog 110 #[v, .int .i64 deep] w fun e w' => e = .returned (.bool (cl.all (fun c => clB (fun y q => exOk d y q (40 - deep)) c 1))) ∧ Below w.heap.size w w'

set_option maxHeartbeats 8000000 in
set_option maxRecDepth 100000 in
theorem expsI_of {d : Nat} (hE : XpC d) : XsC d := by
  intro w v es pat deep hT h hd0 hd1
  have HT : Hid (Tabs w) := hT
  obtain ⟨p, cap, rfl, hcl, hcm, hx⟩ := h
  have hnb : es.length ≤ 9223372036854775807 := by unfold maxLen at hcm; omega
  generalize hn : es.length = n at *
  have HN : Hid (es.length = n) := hn
  have HX : Hid (es ≠ [] → ∃ g off, p = some ⟨g, off, none⟩ ∧ All g ∧ g < w.heap.size ∧ ∀ i x, es[i]? = some x → ∃ cs, cs.length = 6 ∧ (∀ j, j < 6 → w.cell? ⟨g, off + i * 6 + j, none⟩ = cs[j]?) ∧ HEx w All d cs x) := hx
  clear hx hn hT
  go_enter Tryz.func93, Tryz.ntmps93
  go_wp2_with fail
  go_loopw [11] (fun iv wr => ∃ k : Nat, k ≤ n ∧ iv = .int .i64 k ∧ Hid ((es.take k).all (fun y => exOk d y pat (40 - deep)) = true) ∧ Below w.heap.size w wr) (fun iv _ => n - (intOf iv).toNat)
  case atStart => exact ⟨0, Nat.zero_le _, rfl, by show _ = _; simp, Below.refl _ _⟩
  case round =>
    obtain ⟨k, hk, rfl, hall, hb⟩ := hrel
    have HB : Hid (Below w.heap.size w wr) := hb
    by_cases hlt : k < n
    · obtain ⟨x, hxk⟩ : ∃ x, es[k]? = some x := ⟨es[k]'(by rw [HN.out]; exact hlt), List.getElem?_eq_getElem _⟩
      obtain ⟨g, off, rfl, -, hgl, hat⟩ := HX.out (by intro h; rw [h] at hxk; simp at hxk)
      obtain ⟨cs, hcsl, hcs, r1⟩ := hat k x hxk
      obtain ⟨sk, sn, st, se, p1, n1, q1, p2, n2, q2, rfl⟩ := exShape r1
      have E1 : ∀ w', Below w.heap.size w w' → HEx w' All d [.int .i64 sk, .int .i64 sn, .string st, .string se, .slice p1 n1 q1, .slice p2 n2 q2] x := fun w' hw => r1.mono (SameOn.of_below hw) (fun _ h => h)
      have a0 := hcs 0 (by omega)
      have a1 := hcs 1 (by omega)
      have a2 := hcs 2 (by omega)
      have a3 := hcs 3 (by omega)
      have a4 := hcs 4 (by omega)
      have a5 := hcs 5 (by omega)
      rw [← hb.cell (p := ⟨g, _, none⟩) hgl] at a0 a1 a2 a3 a4 a5
      simp at a0 a1 a2 a3 a4 a5
      have hki : (k : Int) < (n : Int) := by omega
      have hk0 : (0 : Int) ≤ (k : Int) := by omega
      have HBA : Hid (Below w.heap.size w (wr.alloc (.cells #[.int .i64 sk, .int .i64 sn, .string st, .string se, .slice p1 n1 q1, .slice p2 n2 q2] 73))) := HB.out.alloc HB.out.size _
      clear hb hcs hat hcsl r1
      generalize hcv : exOk d x pat (40 - deep) = cv
      have HCV : Hid (exOk d x pat (40 - deep) = cv) := hcv
      have HC2 : Hid (cv = true → (es.take (k + 1)).all (fun y => exOk d y pat (40 - deep)) = true) := fun h => allT_succ _ es k x hxk hall.out (hcv.trans h)
      have HC3 : Hid (cv = false → es.all (fun y => exOk d y pat (40 - deep)) = false) := fun h => allT_at _ es k x hxk (hcv.trans h)
      clear hcv
      go_wp2_with fail
      refine (hE _ _ x pat deep (HT.out.below HBA.out) (E1 _ HBA.out) (by omega) (by omega)).mono ?_
      rintro e w4 ⟨rfl, hb4⟩
      rw [HCV.out]
      have HB4 : Hid (Below w.heap.size w w4) := HBA.out.trans (hb4.mono HBA.out.size)
      clear hb4 HCV
      cases cv with
      | true =>
        have HT' : Hid _ := HC2.out rfl
        clear HC2 HC3
        go_wp2_with fail
        exact ⟨⟨k + 1, by omega, by go_num, HT'.out, HB4.out⟩, by simp [intOf]; omega⟩
      | false =>
        have HF : Hid (es.all (fun y => exOk d y pat (40 - deep)) = false) := HC3.out rfl
        clear HC2 HC3
        go_wp2_with fail
        go_ret
        exact ⟨by first | (rw [HF.out]; rfl) | (rw [HF.out]; simp), HB4.out⟩
    · have HD : Hid (es.all (fun y => exOk d y pat (40 - deep)) = true) := by
        have := hall.out
        rwa [List.take_of_length_le (by rw [HN.out]; omega)] at this
      clear hb
      go_wp2_with fail
      go_ret
      exact ⟨by first | (rw [HD.out]; rfl) | (rw [HD.out]; simp), HB.out⟩

set_option maxHeartbeats 8000000 in
set_option maxRecDepth 100000 in
theorem casesI_of {d : Nat} (hE : KcC d) : KsC d := by
  intro w v cl deep hT h hd0 hd1
  have HT : Hid (Tabs w) := hT
  obtain ⟨p, cap, rfl, hcl, hcm, hx⟩ := h
  have hnb : cl.length ≤ 9223372036854775807 := by unfold maxLen at hcm; omega
  generalize hn : cl.length = n at *
  have HN : Hid (cl.length = n) := hn
  have HX : Hid (cl ≠ [] → ∃ g off, p = some ⟨g, off, none⟩ ∧ All g ∧ g < w.heap.size ∧ ∀ i x, cl[i]? = some x → ∃ cs, cs.length = 2 ∧ (∀ j, j < 2 → w.cell? ⟨g, off + i * 2 + j, none⟩ = cs[j]?) ∧ HCl w All (HEx w All d) cs x) := hx
  clear hx hn hT
  go_enter Tryz.func110, Tryz.ntmps110
  go_wp2_with fail
  go_loopw [9] (fun iv wr => ∃ k : Nat, k ≤ n ∧ iv = .int .i64 k ∧ Hid ((cl.take k).all (fun c => clB (fun y q => exOk d y q (40 - deep)) c 1) = true) ∧ Below w.heap.size w wr) (fun iv _ => n - (intOf iv).toNat)
  case atStart => exact ⟨0, Nat.zero_le _, rfl, by show _ = _; simp, Below.refl _ _⟩
  case round =>
    obtain ⟨k, hk, rfl, hall, hb⟩ := hrel
    have HB : Hid (Below w.heap.size w wr) := hb
    by_cases hlt : k < n
    · obtain ⟨x, hxk⟩ : ∃ x, cl[k]? = some x := ⟨cl[k]'(by rw [HN.out]; exact hlt), List.getElem?_eq_getElem _⟩
      obtain ⟨g, off, rfl, -, hgl, hat⟩ := HX.out (by intro h; rw [h] at hxk; simp at hxk)
      obtain ⟨cs, hcsl, hcs, r1⟩ := hat k x hxk
      obtain ⟨p1, n1, q1, p2, n2, q2, rfl⟩ := clShape r1
      have E1 : ∀ w', Below w.heap.size w w' → HCl w' All (HEx w' All d) [.slice p1 n1 q1, .slice p2 n2 q2] x := fun w' hw => r1.mono (SameOn.of_below hw) (fun _ h => h) (fun _ _ h => h.mono (SameOn.of_below hw) (fun _ h => h))
      have a0 := hcs 0 (by omega)
      have a1 := hcs 1 (by omega)
      rw [← hb.cell (p := ⟨g, _, none⟩) hgl] at a0 a1
      simp at a0 a1
      have hki : (k : Int) < (n : Int) := by omega
      have hk0 : (0 : Int) ≤ (k : Int) := by omega
      have HBA : Hid (Below w.heap.size w (wr.alloc (.cells #[.slice p1 n1 q1, .slice p2 n2 q2] 48))) := HB.out.alloc HB.out.size _
      clear hb hcs hat hcsl r1
      generalize hcv : clB (fun y q => exOk d y q (40 - deep)) x 1 = cv
      have HCV : Hid (clB (fun y q => exOk d y q (40 - deep)) x 1 = cv) := hcv
      have HC2 : Hid (cv = true → (cl.take (k + 1)).all (fun c => clB (fun y q => exOk d y q (40 - deep)) c 1) = true) := fun h => allT_succ _ cl k x hxk hall.out (hcv.trans h)
      have HC3 : Hid (cv = false → cl.all (fun c => clB (fun y q => exOk d y q (40 - deep)) c 1) = false) := fun h => allT_at _ cl k x hxk (hcv.trans h)
      clear hcv
      go_wp2_with fail
      refine (hE _ _ x 1 deep (HT.out.below HBA.out) (E1 _ HBA.out) (by omega) (by omega)).mono ?_
      rintro e w4 ⟨rfl, hb4⟩
      rw [HCV.out]
      have HB4 : Hid (Below w.heap.size w w4) := HBA.out.trans (hb4.mono HBA.out.size)
      clear hb4 HCV
      cases cv with
      | true =>
        have HT' : Hid _ := HC2.out rfl
        clear HC2 HC3
        go_wp2_with fail
        exact ⟨⟨k + 1, by omega, by go_num, HT'.out, HB4.out⟩, by simp [intOf]; omega⟩
      | false =>
        have HF : Hid (cl.all (fun c => clB (fun y q => exOk d y q (40 - deep)) c 1) = false) := HC3.out rfl
        clear HC2 HC3
        go_wp2_with fail
        go_ret
        exact ⟨by first | (rw [HF.out]; rfl) | (rw [HF.out]; simp), HB4.out⟩
    · have HD : Hid (cl.all (fun c => clB (fun y q => exOk d y q (40 - deep)) c 1) = true) := by
        have := hall.out
        rwa [List.take_of_length_le (by rw [HN.out]; omega)] at this
      clear hb
      go_wp2_with fail
      go_ret
      exact ⟨by first | (rw [HD.out]; rfl) | (rw [HD.out]; simp), HB.out⟩

set_option maxHeartbeats 8000000 in
set_option maxRecDepth 100000 in
theorem clauseI_of {d : Nat} (hE : XsC d) : KcC d := by
  intro w cs c pats deep hT h hd0 hd1
  have HT : Hid (Tabs w) := hT
  obtain ⟨pv, bv, rfl, f0, f1⟩ := h
  obtain ⟨ps, bs⟩ := c
  simp only at f0 f1
  have BL : Hid (Below w.heap.size w (w.alloc (.cells #[pv, bv] 48))) := (Below.refl _ _).alloc (Nat.le_refl _) _
  have F0 : ∀ w', Below w.heap.size w w' → Rows w' All 6 (HEx w' All d) pv ps := fun w' hw => f0.mono (SameOn.of_below hw) (fun _ h => h) (fun _ _ _ h => h.mono (SameOn.of_below hw) (fun _ h => h))
  have F1 : ∀ w', Below w.heap.size w w' → Rows w' All 6 (HEx w' All d) bv bs := fun w' hw => f1.mono (SameOn.of_below hw) (fun _ h => h) (fun _ _ _ h => h.mono (SameOn.of_below hw) (fun _ h => h))
  obtain ⟨p, cap, rfl, hcl, hcm, -⟩ := f0
  obtain ⟨q, cap', rfl, hcl', hcm', -⟩ := f1
  have hnb : ps.length ≤ 9223372036854775807 := by unfold maxLen at hcm; omega
  have hmb : bs.length ≤ 9223372036854775807 := by unfold maxLen at hcm'; omega
  have hv : clB (fun y q => exOk d y q (40 - deep)) (ps, bs) pats = (decide ((ps.length : Int) = pats) && (inB bs.length 1 20 && (ps.all (fun y => exOk d y true (40 - deep)) && bs.all (fun y => exOk d y false (40 - deep))))) := rfl
  rw [hv]
  clear hv hT
  generalize ps.length = n at *
  generalize bs.length = m at *
  by_cases c1 : (n : Int) = pats
  · subst c1
    rw [decide_eq_true rfl]
    cases hin : inB m 1 20 with
    | false =>
      go_enter Tryz.func78, Tryz.ntmps78
      go_wp2_with (first | (go_at_call 61; go_must (refine (withinM_any _ _ _ _).mono ?_; rintro e w9 ⟨rfl, rfl⟩; rw [hin])))
      go_ret
      exact ⟨by simp, BL.out⟩
    | true =>
      cases h1 : ps.all (fun y => exOk d y true (40 - deep)) with
      | false =>
        go_enter Tryz.func78, Tryz.ntmps78
        go_wp2_with (first | (go_at_call 61; go_must (refine (withinM_any _ _ _ _).mono ?_; rintro e w9 ⟨rfl, rfl⟩; rw [hin])))
        refine (hE _ _ ps true deep (HT.out.below BL.out) (F0 _ BL.out) (by omega) (by omega)).mono ?_
        rintro e w2 ⟨rfl, hb2⟩
        rw [h1]
        have B2 : Hid (Below w.heap.size w w2) := BL.out.trans (hb2.mono BL.out.size)
        clear hb2
        go_wp2_with fail
        go_ret
        exact ⟨by simp, B2.out⟩
      | true =>
        go_enter Tryz.func78, Tryz.ntmps78
        go_wp2_with (first | (go_at_call 61; go_must (refine (withinM_any _ _ _ _).mono ?_; rintro e w9 ⟨rfl, rfl⟩; rw [hin])))
        refine (hE _ _ ps true deep (HT.out.below BL.out) (F0 _ BL.out) (by omega) (by omega)).mono ?_
        rintro e w2 ⟨rfl, hb2⟩
        rw [h1]
        have B2 : Hid (Below w.heap.size w w2) := BL.out.trans (hb2.mono BL.out.size)
        have hbk := (Blk.new (w := w) (cs := #[.slice p n cap, .slice q m cap']) (t := 48)).next hb2
        have a0 := hbk.cell 0 _ rfl
        have a1 := hbk.cell 1 _ rfl
        clear hb2 hbk
        go_wp2_with fail
        refine (hE _ _ bs false deep (HT.out.below B2.out) (F1 _ B2.out) (by omega) (by omega)).mono ?_
        rintro e w3 ⟨rfl, hb3⟩
        have B3 : Hid (Below w.heap.size w w3) := B2.out.trans (hb3.mono B2.out.size)
        clear hb3
        go_wp2_with fail
        go_ret
        exact ⟨by simp, B3.out⟩
  · have c2 : ((n : Int) == pats) = false := by simpa using c1
    rw [decide_eq_false c1]
    go_enter Tryz.func78, Tryz.ntmps78
    go_wp2
    go_ret
    exact ⟨by simp, BL.out⟩

theorem plainB_parts {k n : Int} {t m : ByteArray} {nk nc : Nat} (h : plainB k n t m nk nc = true) : kidLo k ≤ nk ∧ (nk : Int) ≤ kidHi k ∧ clsLo k ≤ nc ∧ (nc : Int) ≤ clsHi k := by
  unfold plainB at h
  simp only [Bool.and_eq_true, inB, decide_eq_true_eq] at h
  omega

set_option maxHeartbeats 16000000 in
set_option maxRecDepth 100000 in
theorem expI_of {d : Nat} (h0 : XpC d) (h1 : XsC d) (h2 : KsC d) : XpC (d + 1) := by
  intro w cs x pat deep hT h hd0 hd1
  have HT : Hid (Tabs w) := hT
  obtain ⟨kv, cv, rfl, -, -, hts, hms, f0, f1⟩ := h
  obtain ⟨kx, nx, tx, mx, ks, cl⟩ := x
  simp only [Ex.kind, Ex.n, Ex.text, Ex.mod, Ex.kids, Ex.clauses] at *
  have F0 : ∀ w', Below w.heap.size w w' → Rows w' All 6 (HEx w' All d) kv ks := fun w' hw => f0.mono (SameOn.of_below hw) (fun _ h => h) (fun _ _ _ h => h.mono (SameOn.of_below hw) (fun _ h => h))
  have F1 : ∀ w', Below w.heap.size w w' → Rows w' All 2 (HCl w' All (HEx w' All d)) cv cl := fun w' hw => f1.mono (SameOn.of_below hw) (fun _ h => h) (fun _ _ _ h => h.mono (SameOn.of_below hw) (fun _ h => h) (fun _ _ h => h.mono (SameOn.of_below hw) (fun _ h => h)))
  obtain ⟨p, cap, rfl, hcl, hcm, hx⟩ := f0
  obtain ⟨q, cap', rfl, hcl', hcm', -⟩ := f1
  have hnb : ks.length ≤ 9223372036854775807 := by unfold maxLen at hcm; omega
  have hmb : cl.length ≤ 9223372036854775807 := by unfold maxLen at hcm'; omega
  have hv := exOk_eq d kx nx tx mx ks cl pat (40 - deep)
  have e1 : 40 - deep - 1 = 40 - (deep + 1) := by omega
  rw [e1] at hv
  rw [hv]
  clear hv e1 hT
  have BL : Hid (∀ (cs : Array Value) (t : TypeId), Below w.heap.size w (w.alloc (.cells cs t))) := fun cs t => (Below.refl _ _).alloc (Nat.le_refl _) _
  generalize hn : ks.length = n at *
  generalize hm : cl.length = m at *
  have HN : Hid (ks.length = n) := hn
  have HM : Hid (cl.length = m) := hm
  have HX : Hid (ks ≠ [] → ∃ g off, p = some ⟨g, off, none⟩ ∧ All g ∧ g < w.heap.size ∧ ∀ i x, ks[i]? = some x → ∃ cs, cs.length = 6 ∧ (∀ j, j < 6 → w.cell? ⟨g, off + i * 6 + j, none⟩ = cs[j]?) ∧ HEx w All d cs x) := hx
  clear hx hn hm
  by_cases c1 : 40 < deep
  · rw [decide_eq_false (by omega)]
    go_enter Tryz.func105, Tryz.ntmps105
    go_wp2_with fail
    go_ret
    exact ⟨by simp, BL.out _ _⟩
  rw [decide_eq_true (by omega : 0 ≤ 40 - deep)]
  cases hpl : plainB kx nx tx mx n m with
  | false =>
    go_enter Tryz.func105, Tryz.ntmps105
    go_wp2_with fail
    refine (partsOk_any _ _ _ _ _ _ _ _ _ _ _ hts hms hnb hmb (HT.out.below (BL.out _ _))).mono ?_
    rintro e W1 ⟨rfl, hb⟩
    rw [hpl]
    have B1 : Hid (Below w.heap.size w W1) := ((Below.refl _ _).alloc (Nat.le_refl _) _).trans (hb.mono (by simp))
    have bA : Hid (Blk W1 w.heap.size #[.int .i64 kx, .int .i64 nx, .string tx, .string mx, .slice p n cap, .slice q m cap'] 73) := (Blk.new (w := w)).next hb
    have xa0 := bA.out.cell 0 _ rfl
    have xa1 := bA.out.cell 1 _ rfl
    have xa2 := bA.out.cell 2 _ rfl
    have xa3 := bA.out.cell 3 _ rfl
    have xa4 := bA.out.cell 4 _ rfl
    have xa5 := bA.out.cell 5 _ rfl
    clear hb
    go_wp2_with fail
    go_ret
    exact ⟨by simp, B1.out⟩
  | true =>
    obtain ⟨r0, r1⟩ := plainB_range hpl
    obtain ⟨g0, g1, g2, g3⟩ := plainB_parts hpl
    simp only [Bool.true_and]
    have nocl : kx ≠ 10 → cl = [] := fun h => by
      have : clsHi kx = 0 := by simp [clsHi, h]
      have h3 := HM.out
      exact List.length_eq_zero_iff.1 (by omega)
    by_cases k3 : kx = 3
    · subst k3
      have hk : ks = [] := by
        have : kidHi 3 = 0 := by decide
        have h3 := HN.out
        exact List.length_eq_zero_iff.1 (by omega)
      have HV : Hid ((patB 3 pat && (kidsB (fun y q => exOk d y q (40 - (deep + 1))) ks (pat || decide ((3 : Int) = 9)) pat && cl.all (fun c => clB (fun y q => exOk d y q (40 - (deep + 1))) c 1))) = pat) := by
        show _ = _
        rw [hk, nocl (by omega)]; cases pat <;> simp [kidsB, patB]
      clear nocl hk g0 g1 g2 g3
      rw [HV.out]
      go_enter Tryz.func105, Tryz.ntmps105
      go_wp2_with fail
      refine (partsOk_any _ _ _ _ _ _ _ _ _ _ _ hts hms hnb hmb (HT.out.below (BL.out _ _))).mono ?_
      rintro e W1 ⟨rfl, hb⟩
      rw [hpl]
      have B1 : Hid (Below w.heap.size w W1) := ((Below.refl _ _).alloc (Nat.le_refl _) _).trans (hb.mono (by simp))
      have bA : Hid (Blk W1 w.heap.size #[.int .i64 3, .int .i64 nx, .string tx, .string mx, .slice p n cap, .slice q m cap'] 73) := (Blk.new (w := w)).next hb
      have xa0 := bA.out.cell 0 _ rfl
      have xa1 := bA.out.cell 1 _ rfl
      have xa2 := bA.out.cell 2 _ rfl
      have xa3 := bA.out.cell 3 _ rfl
      have xa4 := bA.out.cell 4 _ rfl
      have xa5 := bA.out.cell 5 _ rfl
      clear hb
      go_wp2_with fail
      go_ret
      exact ⟨by rfl, B1.out⟩
    by_cases k46 : kx = 4 ∨ kx = 6
    · have HV : Hid ((patB kx pat && (kidsB (fun y q => exOk d y q (40 - (deep + 1))) ks (pat || decide (kx = 9)) pat && cl.all (fun c => clB (fun y q => exOk d y q (40 - (deep + 1))) c 1))) = ks.all (fun y => exOk d y pat (40 - (deep + 1)))) := by
        show _ = _
        have e9 : decide (kx = 9) = false := by simp; omega
        have ep : patB kx pat = true := by cases pat <;> simp [patB] <;> omega
        rw [nocl (by omega), e9, Bool.or_false, kidsB_same, ep]; simp
      clear nocl g0 g1 g2 g3
      rw [HV.out]
      rcases k46 with k4 | k4
      · subst k4
        go_enter Tryz.func105, Tryz.ntmps105
        go_wp2_with fail
        refine (partsOk_any _ _ _ _ _ _ _ _ _ _ _ hts hms hnb hmb (HT.out.below (BL.out _ _))).mono ?_
        rintro e W1 ⟨rfl, hb⟩
        rw [hpl]
        have B1 : Hid (Below w.heap.size w W1) := ((Below.refl _ _).alloc (Nat.le_refl _) _).trans (hb.mono (by simp))
        have bA : Hid (Blk W1 w.heap.size #[.int .i64 4, .int .i64 nx, .string tx, .string mx, .slice p n cap, .slice q m cap'] 73) := (Blk.new (w := w)).next hb
        have xa0 := bA.out.cell 0 _ rfl
        have xa1 := bA.out.cell 1 _ rfl
        have xa2 := bA.out.cell 2 _ rfl
        have xa3 := bA.out.cell 3 _ rfl
        have xa4 := bA.out.cell 4 _ rfl
        have xa5 := bA.out.cell 5 _ rfl
        clear hb
        go_wp2_with fail
        refine (h1 _ _ ks pat (deep + 1) (HT.out.below B1.out) (F0 _ B1.out) (by omega) (by omega)).mono ?_
        rintro e w3 ⟨rfl, hb3⟩
        have B3 : Hid (Below w.heap.size w w3) := B1.out.trans (hb3.mono B1.out.size)
        clear hb3
        go_wp2_with fail
        go_ret
        exact ⟨by rfl, B3.out⟩
      · subst k4
        go_enter Tryz.func105, Tryz.ntmps105
        go_wp2_with fail
        refine (partsOk_any _ _ _ _ _ _ _ _ _ _ _ hts hms hnb hmb (HT.out.below (BL.out _ _))).mono ?_
        rintro e W1 ⟨rfl, hb⟩
        rw [hpl]
        have B1 : Hid (Below w.heap.size w W1) := ((Below.refl _ _).alloc (Nat.le_refl _) _).trans (hb.mono (by simp))
        have bA : Hid (Blk W1 w.heap.size #[.int .i64 6, .int .i64 nx, .string tx, .string mx, .slice p n cap, .slice q m cap'] 73) := (Blk.new (w := w)).next hb
        have xa0 := bA.out.cell 0 _ rfl
        have xa1 := bA.out.cell 1 _ rfl
        have xa2 := bA.out.cell 2 _ rfl
        have xa3 := bA.out.cell 3 _ rfl
        have xa4 := bA.out.cell 4 _ rfl
        have xa5 := bA.out.cell 5 _ rfl
        clear hb
        go_wp2_with fail
        refine (h1 _ _ ks pat (deep + 1) (HT.out.below B1.out) (F0 _ B1.out) (by omega) (by omega)).mono ?_
        rintro e w3 ⟨rfl, hb3⟩
        have B3 : Hid (Below w.heap.size w w3) := B1.out.trans (hb3.mono B1.out.size)
        clear hb3
        go_wp2_with fail
        go_ret
        exact ⟨by rfl, B3.out⟩
    by_cases kl : kx = 0 ∨ kx = 1 ∨ kx = 2 ∨ kx = 5
    · have hk : ks = [] := by
        have : kidHi kx = 0 := by rcases kl with rfl | rfl | rfl | rfl <;> decide
        have h3 := HN.out
        exact List.length_eq_zero_iff.1 (by omega)
      have HV : Hid ((patB kx pat && (kidsB (fun y q => exOk d y q (40 - (deep + 1))) ks (pat || decide (kx = 9)) pat && cl.all (fun c => clB (fun y q => exOk d y q (40 - (deep + 1))) c 1))) = true) := by
        show _ = _
        have ep : patB kx pat = true := by cases pat <;> simp [patB] <;> omega
        rw [hk, nocl (by omega), ep]; simp [kidsB]
      clear nocl hk g0 g1 g2 g3
      rw [HV.out]
      rcases kl with k4 | k4 | k4 | k4
      · subst k4
        go_enter Tryz.func105, Tryz.ntmps105
        go_wp2_with fail
        refine (partsOk_any _ _ _ _ _ _ _ _ _ _ _ hts hms hnb hmb (HT.out.below (BL.out _ _))).mono ?_
        rintro e W1 ⟨rfl, hb⟩
        rw [hpl]
        have B1 : Hid (Below w.heap.size w W1) := ((Below.refl _ _).alloc (Nat.le_refl _) _).trans (hb.mono (by simp))
        have bA : Hid (Blk W1 w.heap.size #[.int .i64 0, .int .i64 nx, .string tx, .string mx, .slice p n cap, .slice q m cap'] 73) := (Blk.new (w := w)).next hb
        have xa0 := bA.out.cell 0 _ rfl
        have xa1 := bA.out.cell 1 _ rfl
        have xa2 := bA.out.cell 2 _ rfl
        have xa3 := bA.out.cell 3 _ rfl
        have xa4 := bA.out.cell 4 _ rfl
        have xa5 := bA.out.cell 5 _ rfl
        clear hb
        go_wp2_with fail
        go_ret
        exact ⟨by rfl, B1.out⟩
      · subst k4
        go_enter Tryz.func105, Tryz.ntmps105
        go_wp2_with fail
        refine (partsOk_any _ _ _ _ _ _ _ _ _ _ _ hts hms hnb hmb (HT.out.below (BL.out _ _))).mono ?_
        rintro e W1 ⟨rfl, hb⟩
        rw [hpl]
        have B1 : Hid (Below w.heap.size w W1) := ((Below.refl _ _).alloc (Nat.le_refl _) _).trans (hb.mono (by simp))
        have bA : Hid (Blk W1 w.heap.size #[.int .i64 1, .int .i64 nx, .string tx, .string mx, .slice p n cap, .slice q m cap'] 73) := (Blk.new (w := w)).next hb
        have xa0 := bA.out.cell 0 _ rfl
        have xa1 := bA.out.cell 1 _ rfl
        have xa2 := bA.out.cell 2 _ rfl
        have xa3 := bA.out.cell 3 _ rfl
        have xa4 := bA.out.cell 4 _ rfl
        have xa5 := bA.out.cell 5 _ rfl
        clear hb
        go_wp2_with fail
        go_ret
        exact ⟨by rfl, B1.out⟩
      · subst k4
        go_enter Tryz.func105, Tryz.ntmps105
        go_wp2_with fail
        refine (partsOk_any _ _ _ _ _ _ _ _ _ _ _ hts hms hnb hmb (HT.out.below (BL.out _ _))).mono ?_
        rintro e W1 ⟨rfl, hb⟩
        rw [hpl]
        have B1 : Hid (Below w.heap.size w W1) := ((Below.refl _ _).alloc (Nat.le_refl _) _).trans (hb.mono (by simp))
        have bA : Hid (Blk W1 w.heap.size #[.int .i64 2, .int .i64 nx, .string tx, .string mx, .slice p n cap, .slice q m cap'] 73) := (Blk.new (w := w)).next hb
        have xa0 := bA.out.cell 0 _ rfl
        have xa1 := bA.out.cell 1 _ rfl
        have xa2 := bA.out.cell 2 _ rfl
        have xa3 := bA.out.cell 3 _ rfl
        have xa4 := bA.out.cell 4 _ rfl
        have xa5 := bA.out.cell 5 _ rfl
        clear hb
        go_wp2_with fail
        go_ret
        exact ⟨by rfl, B1.out⟩
      · subst k4
        go_enter Tryz.func105, Tryz.ntmps105
        go_wp2_with fail
        refine (partsOk_any _ _ _ _ _ _ _ _ _ _ _ hts hms hnb hmb (HT.out.below (BL.out _ _))).mono ?_
        rintro e W1 ⟨rfl, hb⟩
        rw [hpl]
        have B1 : Hid (Below w.heap.size w W1) := ((Below.refl _ _).alloc (Nat.le_refl _) _).trans (hb.mono (by simp))
        have bA : Hid (Blk W1 w.heap.size #[.int .i64 5, .int .i64 nx, .string tx, .string mx, .slice p n cap, .slice q m cap'] 73) := (Blk.new (w := w)).next hb
        have xa0 := bA.out.cell 0 _ rfl
        have xa1 := bA.out.cell 1 _ rfl
        have xa2 := bA.out.cell 2 _ rfl
        have xa3 := bA.out.cell 3 _ rfl
        have xa4 := bA.out.cell 4 _ rfl
        have xa5 := bA.out.cell 5 _ rfl
        clear hb
        go_wp2_with fail
        go_ret
        exact ⟨by rfl, B1.out⟩
    cases pat with
    | true =>
      have HV : Hid ((patB kx true && (kidsB (fun y q => exOk d y q (40 - (deep + 1))) ks (true || decide (kx = 9)) true && cl.all (fun c => clB (fun y q => exOk d y q (40 - (deep + 1))) c 1))) = false) := by
        show _ = _
        have ep : patB kx true = false := by simp [patB]; omega
        rw [ep]; rfl
      clear nocl g0 g1 g2 g3
      rw [HV.out]
      rcases (by omega : kx = 7 ∨ kx = 8 ∨ kx = 9 ∨ kx = 10) with k4 | k4 | k4 | k4
      · subst k4
        go_enter Tryz.func105, Tryz.ntmps105
        go_wp2_with fail
        refine (partsOk_any _ _ _ _ _ _ _ _ _ _ _ hts hms hnb hmb (HT.out.below (BL.out _ _))).mono ?_
        rintro e W1 ⟨rfl, hb⟩
        rw [hpl]
        have B1 : Hid (Below w.heap.size w W1) := ((Below.refl _ _).alloc (Nat.le_refl _) _).trans (hb.mono (by simp))
        have bA : Hid (Blk W1 w.heap.size #[.int .i64 7, .int .i64 nx, .string tx, .string mx, .slice p n cap, .slice q m cap'] 73) := (Blk.new (w := w)).next hb
        have xa0 := bA.out.cell 0 _ rfl
        have xa1 := bA.out.cell 1 _ rfl
        have xa2 := bA.out.cell 2 _ rfl
        have xa3 := bA.out.cell 3 _ rfl
        have xa4 := bA.out.cell 4 _ rfl
        have xa5 := bA.out.cell 5 _ rfl
        clear hb
        go_wp2_with fail
        go_ret
        exact ⟨by rfl, B1.out⟩
      · subst k4
        go_enter Tryz.func105, Tryz.ntmps105
        go_wp2_with fail
        refine (partsOk_any _ _ _ _ _ _ _ _ _ _ _ hts hms hnb hmb (HT.out.below (BL.out _ _))).mono ?_
        rintro e W1 ⟨rfl, hb⟩
        rw [hpl]
        have B1 : Hid (Below w.heap.size w W1) := ((Below.refl _ _).alloc (Nat.le_refl _) _).trans (hb.mono (by simp))
        have bA : Hid (Blk W1 w.heap.size #[.int .i64 8, .int .i64 nx, .string tx, .string mx, .slice p n cap, .slice q m cap'] 73) := (Blk.new (w := w)).next hb
        have xa0 := bA.out.cell 0 _ rfl
        have xa1 := bA.out.cell 1 _ rfl
        have xa2 := bA.out.cell 2 _ rfl
        have xa3 := bA.out.cell 3 _ rfl
        have xa4 := bA.out.cell 4 _ rfl
        have xa5 := bA.out.cell 5 _ rfl
        clear hb
        go_wp2_with fail
        go_ret
        exact ⟨by rfl, B1.out⟩
      · subst k4
        go_enter Tryz.func105, Tryz.ntmps105
        go_wp2_with fail
        refine (partsOk_any _ _ _ _ _ _ _ _ _ _ _ hts hms hnb hmb (HT.out.below (BL.out _ _))).mono ?_
        rintro e W1 ⟨rfl, hb⟩
        rw [hpl]
        have B1 : Hid (Below w.heap.size w W1) := ((Below.refl _ _).alloc (Nat.le_refl _) _).trans (hb.mono (by simp))
        have bA : Hid (Blk W1 w.heap.size #[.int .i64 9, .int .i64 nx, .string tx, .string mx, .slice p n cap, .slice q m cap'] 73) := (Blk.new (w := w)).next hb
        have xa0 := bA.out.cell 0 _ rfl
        have xa1 := bA.out.cell 1 _ rfl
        have xa2 := bA.out.cell 2 _ rfl
        have xa3 := bA.out.cell 3 _ rfl
        have xa4 := bA.out.cell 4 _ rfl
        have xa5 := bA.out.cell 5 _ rfl
        clear hb
        go_wp2_with fail
        go_ret
        exact ⟨by rfl, B1.out⟩
      · subst k4
        go_enter Tryz.func105, Tryz.ntmps105
        go_wp2_with fail
        refine (partsOk_any _ _ _ _ _ _ _ _ _ _ _ hts hms hnb hmb (HT.out.below (BL.out _ _))).mono ?_
        rintro e W1 ⟨rfl, hb⟩
        rw [hpl]
        have B1 : Hid (Below w.heap.size w W1) := ((Below.refl _ _).alloc (Nat.le_refl _) _).trans (hb.mono (by simp))
        have bA : Hid (Blk W1 w.heap.size #[.int .i64 10, .int .i64 nx, .string tx, .string mx, .slice p n cap, .slice q m cap'] 73) := (Blk.new (w := w)).next hb
        have xa0 := bA.out.cell 0 _ rfl
        have xa1 := bA.out.cell 1 _ rfl
        have xa2 := bA.out.cell 2 _ rfl
        have xa3 := bA.out.cell 3 _ rfl
        have xa4 := bA.out.cell 4 _ rfl
        have xa5 := bA.out.cell 5 _ rfl
        clear hb
        go_wp2_with fail
        go_ret
        exact ⟨by rfl, B1.out⟩
    | false =>
      have ep : patB kx false = true := by simp [patB]; omega
      rw [ep]
      clear ep
      by_cases k78 : kx = 7 ∨ kx = 8
      · have HV : Hid ((true && (kidsB (fun y q => exOk d y q (40 - (deep + 1))) ks (false || decide (kx = 9)) false && cl.all (fun c => clB (fun y q => exOk d y q (40 - (deep + 1))) c 1))) = ks.all (fun y => exOk d y false (40 - (deep + 1)))) := by
          show _ = _
          have e9 : decide (kx = 9) = false := by simp; omega
          rw [nocl (by omega), e9, Bool.or_false, kidsB_same]; simp
        clear nocl g0 g1 g2 g3
        rw [HV.out]
        rcases k78 with k4 | k4
        · subst k4
          go_enter Tryz.func105, Tryz.ntmps105
          go_wp2_with fail
          refine (partsOk_any _ _ _ _ _ _ _ _ _ _ _ hts hms hnb hmb (HT.out.below (BL.out _ _))).mono ?_
          rintro e W1 ⟨rfl, hb⟩
          rw [hpl]
          have B1 : Hid (Below w.heap.size w W1) := ((Below.refl _ _).alloc (Nat.le_refl _) _).trans (hb.mono (by simp))
          have bA : Hid (Blk W1 w.heap.size #[.int .i64 7, .int .i64 nx, .string tx, .string mx, .slice p n cap, .slice q m cap'] 73) := (Blk.new (w := w)).next hb
          have xa0 := bA.out.cell 0 _ rfl
          have xa1 := bA.out.cell 1 _ rfl
          have xa2 := bA.out.cell 2 _ rfl
          have xa3 := bA.out.cell 3 _ rfl
          have xa4 := bA.out.cell 4 _ rfl
          have xa5 := bA.out.cell 5 _ rfl
          clear hb
          go_wp2_with fail
          refine (h1 _ _ ks false (deep + 1) (HT.out.below B1.out) (F0 _ B1.out) (by omega) (by omega)).mono ?_
          rintro e w3 ⟨rfl, hb3⟩
          have B3 : Hid (Below w.heap.size w w3) := B1.out.trans (hb3.mono B1.out.size)
          clear hb3
          go_wp2_with fail
          go_ret
          exact ⟨by rfl, B3.out⟩
        · subst k4
          go_enter Tryz.func105, Tryz.ntmps105
          go_wp2_with fail
          refine (partsOk_any _ _ _ _ _ _ _ _ _ _ _ hts hms hnb hmb (HT.out.below (BL.out _ _))).mono ?_
          rintro e W1 ⟨rfl, hb⟩
          rw [hpl]
          have B1 : Hid (Below w.heap.size w W1) := ((Below.refl _ _).alloc (Nat.le_refl _) _).trans (hb.mono (by simp))
          have bA : Hid (Blk W1 w.heap.size #[.int .i64 8, .int .i64 nx, .string tx, .string mx, .slice p n cap, .slice q m cap'] 73) := (Blk.new (w := w)).next hb
          have xa0 := bA.out.cell 0 _ rfl
          have xa1 := bA.out.cell 1 _ rfl
          have xa2 := bA.out.cell 2 _ rfl
          have xa3 := bA.out.cell 3 _ rfl
          have xa4 := bA.out.cell 4 _ rfl
          have xa5 := bA.out.cell 5 _ rfl
          clear hb
          go_wp2_with fail
          refine (h1 _ _ ks false (deep + 1) (HT.out.below B1.out) (F0 _ B1.out) (by omega) (by omega)).mono ?_
          rintro e w3 ⟨rfl, hb3⟩
          have B3 : Hid (Below w.heap.size w w3) := B1.out.trans (hb3.mono B1.out.size)
          clear hb3
          go_wp2_with fail
          go_ret
          exact ⟨by rfl, B3.out⟩
      by_cases k9 : kx = 9
      · subst k9
        have hn2 : n = 2 := by
          have a1 : kidLo 9 = 2 := by decide
          have a2 : kidHi 9 = 2 := by decide
          omega
        subst hn2
        obtain ⟨xa, xb, hks⟩ : ∃ a b, ks = [a, b] := by
          have h3 := HN.out
          match ks, h3 with
          | [a, b], _ => exact ⟨a, b, rfl⟩
        have HV : Hid ((true && (kidsB (fun y q => exOk d y q (40 - (deep + 1))) ks (false || decide ((9 : Int) = 9)) false && cl.all (fun c => clB (fun y q => exOk d y q (40 - (deep + 1))) c 1))) = (exOk d xa true (40 - (deep + 1)) && exOk d xb false (40 - (deep + 1)))) := by
          show _ = _
          rw [nocl (by omega), hks]; simp [kidsB]
        rw [HV.out]
        obtain ⟨g, off, rfl, -, hgl, hat⟩ := HX.out (by rw [hks]; simp)
        obtain ⟨cs, -, hcs, ra⟩ := hat 0 xa (by rw [hks]; rfl)
        obtain ⟨cs', -, hcs', rb⟩ := hat 1 xb (by rw [hks]; rfl)
        obtain ⟨sk, sn, st, se, p1, n1, q1, p2, n2, q2, rfl⟩ := exShape ra
        obtain ⟨tk, tn, tt, te, u1, m1, v1, u2, m2, v2, rfl⟩ := exShape rb
        have EA : ∀ w', Below w.heap.size w w' → HEx w' All d [.int .i64 sk, .int .i64 sn, .string st, .string se, .slice p1 n1 q1, .slice p2 n2 q2] xa := fun w' hw => ra.mono (SameOn.of_below hw) (fun _ h => h)
        have EB : ∀ w', Below w.heap.size w w' → HEx w' All d [.int .i64 tk, .int .i64 tn, .string tt, .string te, .slice u1 m1 v1, .slice u2 m2 v2] xb := fun w' hw => rb.mono (SameOn.of_below hw) (fun _ h => h)
        have CA : ∀ w', Below w.heap.size w w' → ∀ j, j < 6 → w'.cell? ⟨g, off + 0 * 6 + j, none⟩ = _ := fun w' hw j hj => (hw.cell (p := ⟨g, off + 0 * 6 + j, none⟩) hgl).trans (hcs j hj)
        have CB : ∀ w', Below w.heap.size w w' → ∀ j, j < 6 → w'.cell? ⟨g, off + 1 * 6 + j, none⟩ = _ := fun w' hw j hj => (hw.cell (p := ⟨g, off + 1 * 6 + j, none⟩) hgl).trans (hcs' j hj)
        clear nocl hat hcs hcs' ra rb g0 g1 g2 g3
        have HCA : Hid (∀ w', Below w.heap.size w w' → ∀ j, j < 6 → w'.cell? ⟨g, off + 0 * 6 + j, none⟩ = _) := CA
        have HCB : Hid (∀ w', Below w.heap.size w w' → ∀ j, j < 6 → w'.cell? ⟨g, off + 1 * 6 + j, none⟩ = _) := CB
        clear CA CB hks
        generalize hca : exOk d xa true (40 - (deep + 1)) = ca
        have HCV : Hid (exOk d xa true (40 - (deep + 1)) = ca) := hca
        clear hca
        cases ca with
        | false =>
          go_enter Tryz.func105, Tryz.ntmps105
          go_wp2_with fail
          refine (partsOk_any _ _ _ _ _ _ _ _ _ _ _ hts hms hnb hmb (HT.out.below (BL.out _ _))).mono ?_
          rintro e W1 ⟨rfl, hb⟩
          rw [hpl]
          have B1 : Hid (Below w.heap.size w W1) := ((Below.refl _ _).alloc (Nat.le_refl _) _).trans (hb.mono (by simp))
          have bA : Hid (Blk W1 w.heap.size #[.int .i64 9, .int .i64 nx, .string tx, .string mx, .slice (some ⟨g, off, none⟩) 2 cap, .slice q m cap'] 73) := (Blk.new (w := w)).next hb
          have xa0 := bA.out.cell 0 _ rfl
          have xa1 := bA.out.cell 1 _ rfl
          have xa2 := bA.out.cell 2 _ rfl
          have xa3 := bA.out.cell 3 _ rfl
          have xa4 := bA.out.cell 4 _ rfl
          have xa5 := bA.out.cell 5 _ rfl
          clear hb
          have ya0 := HCA.out _ B1.out 0 (by omega)
          have ya1 := HCA.out _ B1.out 1 (by omega)
          have ya2 := HCA.out _ B1.out 2 (by omega)
          have ya3 := HCA.out _ B1.out 3 (by omega)
          have ya4 := HCA.out _ B1.out 4 (by omega)
          have ya5 := HCA.out _ B1.out 5 (by omega)
          simp at ya0 ya1 ya2 ya3 ya4 ya5
          go_wp2_with fail
          refine (h0 _ _ xa true (deep + 1) (HT.out.below B1.out) (EA _ B1.out) (by omega) (by omega)).mono ?_
          rintro e w3 ⟨rfl, hb3⟩
          rw [HCV.out]
          have B3 : Hid (Below w.heap.size w w3) := B1.out.trans (hb3.mono B1.out.size)
          clear hb3
          go_wp2_with fail
          go_ret
          exact ⟨by simp, B3.out⟩
        | true =>
          go_enter Tryz.func105, Tryz.ntmps105
          go_wp2_with fail
          refine (partsOk_any _ _ _ _ _ _ _ _ _ _ _ hts hms hnb hmb (HT.out.below (BL.out _ _))).mono ?_
          rintro e W1 ⟨rfl, hb⟩
          rw [hpl]
          have B1 : Hid (Below w.heap.size w W1) := ((Below.refl _ _).alloc (Nat.le_refl _) _).trans (hb.mono (by simp))
          have bA : Hid (Blk W1 w.heap.size #[.int .i64 9, .int .i64 nx, .string tx, .string mx, .slice (some ⟨g, off, none⟩) 2 cap, .slice q m cap'] 73) := (Blk.new (w := w)).next hb
          have xa0 := bA.out.cell 0 _ rfl
          have xa1 := bA.out.cell 1 _ rfl
          have xa2 := bA.out.cell 2 _ rfl
          have xa3 := bA.out.cell 3 _ rfl
          have xa4 := bA.out.cell 4 _ rfl
          have xa5 := bA.out.cell 5 _ rfl
          clear hb
          have ya0 := HCA.out _ B1.out 0 (by omega)
          have ya1 := HCA.out _ B1.out 1 (by omega)
          have ya2 := HCA.out _ B1.out 2 (by omega)
          have ya3 := HCA.out _ B1.out 3 (by omega)
          have ya4 := HCA.out _ B1.out 4 (by omega)
          have ya5 := HCA.out _ B1.out 5 (by omega)
          simp at ya0 ya1 ya2 ya3 ya4 ya5
          go_wp2_with fail
          refine (h0 _ _ xa true (deep + 1) (HT.out.below B1.out) (EA _ B1.out) (by omega) (by omega)).mono ?_
          rintro e w3 ⟨rfl, hb3⟩
          rw [HCV.out]
          have B3 : Hid (Below w.heap.size w w3) := B1.out.trans (hb3.mono B1.out.size)
          have hbk := bA.out.next hb3
          clear xa0 xa1 xa2 xa3 xa4 xa5 ya0 ya1 ya2 ya3 ya4 ya5
          have xa4 := hbk.cell 4 _ rfl
          have yb0 := HCB.out _ B3.out 0 (by omega)
          have yb1 := HCB.out _ B3.out 1 (by omega)
          have yb2 := HCB.out _ B3.out 2 (by omega)
          have yb3 := HCB.out _ B3.out 3 (by omega)
          have yb4 := HCB.out _ B3.out 4 (by omega)
          have yb5 := HCB.out _ B3.out 5 (by omega)
          simp at yb0 yb1 yb2 yb3 yb4 yb5
          clear hb3 hbk
          go_wp2_with fail
          refine (h0 _ _ xb false (deep + 1) (HT.out.below B3.out) (EB _ B3.out) (by omega) (by omega)).mono ?_
          rintro e w4 ⟨rfl, hb4⟩
          have B4 : Hid (Below w.heap.size w w4) := B3.out.trans (hb4.mono B3.out.size)
          clear hb4
          go_wp2_with fail
          go_ret
          exact ⟨by simp, B4.out⟩
      obtain rfl : kx = 10 := by omega
      have HV : Hid ((true && (kidsB (fun y q => exOk d y q (40 - (deep + 1))) ks (false || decide ((10 : Int) = 9)) false && cl.all (fun c => clB (fun y q => exOk d y q (40 - (deep + 1))) c 1))) = (ks.all (fun y => exOk d y false (40 - (deep + 1))) && cl.all (fun c => clB (fun y q => exOk d y q (40 - (deep + 1))) c 1))) := by
        show _ = _
        have e9 : (false || decide ((10 : Int) = 9)) = false := by decide
        rw [e9, kidsB_same, Bool.true_and]
      clear nocl g0 g1 g2 g3
      rw [HV.out]
      cases hca : ks.all (fun y => exOk d y false (40 - (deep + 1))) with
      | false =>
        go_enter Tryz.func105, Tryz.ntmps105
        go_wp2_with fail
        refine (partsOk_any _ _ _ _ _ _ _ _ _ _ _ hts hms hnb hmb (HT.out.below (BL.out _ _))).mono ?_
        rintro e W1 ⟨rfl, hb⟩
        rw [hpl]
        have B1 : Hid (Below w.heap.size w W1) := ((Below.refl _ _).alloc (Nat.le_refl _) _).trans (hb.mono (by simp))
        have bA : Hid (Blk W1 w.heap.size #[.int .i64 10, .int .i64 nx, .string tx, .string mx, .slice p n cap, .slice q m cap'] 73) := (Blk.new (w := w)).next hb
        have xa0 := bA.out.cell 0 _ rfl
        have xa1 := bA.out.cell 1 _ rfl
        have xa2 := bA.out.cell 2 _ rfl
        have xa3 := bA.out.cell 3 _ rfl
        have xa4 := bA.out.cell 4 _ rfl
        have xa5 := bA.out.cell 5 _ rfl
        clear hb
        go_wp2_with fail
        refine (h1 _ _ ks false (deep + 1) (HT.out.below B1.out) (F0 _ B1.out) (by omega) (by omega)).mono ?_
        rintro e w3 ⟨rfl, hb3⟩
        rw [hca]
        have B3 : Hid (Below w.heap.size w w3) := B1.out.trans (hb3.mono B1.out.size)
        clear hb3
        go_wp2_with fail
        go_ret
        exact ⟨by simp, B3.out⟩
      | true =>
        go_enter Tryz.func105, Tryz.ntmps105
        go_wp2_with fail
        refine (partsOk_any _ _ _ _ _ _ _ _ _ _ _ hts hms hnb hmb (HT.out.below (BL.out _ _))).mono ?_
        rintro e W1 ⟨rfl, hb⟩
        rw [hpl]
        have B1 : Hid (Below w.heap.size w W1) := ((Below.refl _ _).alloc (Nat.le_refl _) _).trans (hb.mono (by simp))
        have bA : Hid (Blk W1 w.heap.size #[.int .i64 10, .int .i64 nx, .string tx, .string mx, .slice p n cap, .slice q m cap'] 73) := (Blk.new (w := w)).next hb
        have xa0 := bA.out.cell 0 _ rfl
        have xa1 := bA.out.cell 1 _ rfl
        have xa2 := bA.out.cell 2 _ rfl
        have xa3 := bA.out.cell 3 _ rfl
        have xa4 := bA.out.cell 4 _ rfl
        have xa5 := bA.out.cell 5 _ rfl
        clear hb
        go_wp2_with fail
        refine (h1 _ _ ks false (deep + 1) (HT.out.below B1.out) (F0 _ B1.out) (by omega) (by omega)).mono ?_
        rintro e w3 ⟨rfl, hb3⟩
        rw [hca]
        have B3 : Hid (Below w.heap.size w w3) := B1.out.trans (hb3.mono B1.out.size)
        have hbk := bA.out.next hb3
        clear xa0 xa1 xa2 xa3 xa4 xa5
        have xa5 := hbk.cell 5 _ rfl
        clear hb3 hbk
        go_wp2_with fail
        refine (h2 _ _ cl (deep + 1) (HT.out.below B3.out) (F1 _ B3.out) (by omega) (by omega)).mono ?_
        rintro e w4 ⟨rfl, hb4⟩
        have B4 : Hid (Below w.heap.size w w4) := B3.out.trans (hb4.mono B3.out.size)
        clear hb4
        go_wp2_with fail
        go_ret
        exact ⟨by simp, B4.out⟩

theorem exp_allI : ∀ d, XpC d
  | 0 => fun w cs x pat deep _ h _ _ => h.elim
  | d + 1 => expI_of (exp_allI d) (expsI_of (exp_allI d)) (casesI_of (clauseI_of (expsI_of (exp_allI d))))
theorem clause_allI (d : Nat) : KcC d := clauseI_of (expsI_of (exp_allI d))
end Go.Proofs.YtpkhblhcdnohmaaGreatDoor
/-
  The program's ModuleOk, by contract: functions.
-/
namespace Go.Proofs.YtpkhblhcdnohmaaGreatDoor
open Go.ChangeShapes Go.WideShapes Go.ChangeAt Go.RowKit
set_option linter.unusedVariables false

theorem fnShape {w : World} {S : Nat → Prop} {d : Nat} {cs : List Value} {x : Fn'} (h : HFn w S d cs x) : ∃ p1 n1 q1, cs = [.string x.name, .int .i64 x.arity, .slice p1 n1 q1] := by
  obtain ⟨cv, rfl, _, _, ⟨p1, c1, rfl, _⟩⟩ := h
  exact ⟨_, _, _, rfl⟩
theorem Rows.take {α : Type} {w : World} {S : Nat → Prop} {c : Nat} {R : List Value → α → Prop} {p : Option Addr} {n cap : Nat} {es : List α} (h : Rows w S c R (.slice p n cap) es) (k : Nat) (hk : k ≤ n) : Rows w S c R (.slice p k cap) (es.take k) := by
  obtain ⟨p', cap', hv, h1, h2, hx⟩ := h
  simp only [Value.slice.injEq] at hv
  obtain ⟨rfl, rfl, rfl⟩ := hv
  refine ⟨p, cap, by rw [List.length_take, Nat.min_eq_left hk], by rw [List.length_take]; omega, h2, fun hne => ?_⟩
  obtain ⟨g, off, hp, hS, hl, hat⟩ := hx (fun e => hne (by rw [e]; simp))
  exact ⟨g, off, hp, hS, hl, fun i x hi => hat i x (by rw [List.getElem?_take] at hi; split at hi; exact hi; cases hi)⟩

theorem refG : Tryz.prog.eqGuardType Tryz.prog.depth 50 = false := by kernel_rfl
theorem refH : Tryz.prog.stoodInHeld 50 = false := by kernel_rfl
theorem refU : Tryz.prog.underlying 50 = some (.struct (Tryz.prog.fieldsOf 50)) := by kernel_rfl
theorem refE (a c : ByteArray) (b d : Int) (w : World) : (Op.equalIn 10000 50 (.agg #[.string a, .int .i64 b]) (.agg #[.string c, .int .i64 d])).run Tryz.prog w = .ok ((a.toList == c.toList) && (b == d)) w := by
  rw [show (10000 : Nat) = 9999 + 1 from rfl, run_equalIn_struct w 9999 _ _ _ refU refH]
  cases h1 : (a.toList == c.toList) <;> cases h2 : (b == d) <;> simp [go_sem, Program.fieldsOf, Tryz.underlying50, Tryz.underlying3, Tryz.underlying9, Op.eqFields, h1, h2]

set_option maxHeartbeats 8000000 in
set_option maxRecDepth 100000 in
theorem hasFun_any (d : Nat) (w : World) (v : Value) (fs : List Fn') (r : Rf) (h : Rows w All 3 (HFn w All d) v fs) :
    Calls Tryz.prog 63 #[v, .agg #[.string r.name, .int .i64 r.arity]] w fun e w' => e = .returned (.bool (fs.any (sameR r))) ∧ Below w.heap.size w w' := by
  obtain ⟨rs, rn⟩ := r
  simp only
  obtain ⟨p, cap, rfl, hcl, hcm, hx⟩ := h
  have hnb : fs.length ≤ 9223372036854775807 := by unfold maxLen at hcm; omega
  generalize hn : fs.length = n at *
  have HN : Hid (fs.length = n) := hn
  have HX : Hid (fs ≠ [] → ∃ g off, p = some ⟨g, off, none⟩ ∧ All g ∧ g < w.heap.size ∧ ∀ i x, fs[i]? = some x → ∃ cs, cs.length = 3 ∧ (∀ j, j < 3 → w.cell? ⟨g, off + i * 3 + j, none⟩ = cs[j]?) ∧ HFn w All d cs x) := hx
  obtain ⟨W1, hW1⟩ : ∃ W1, W1 = w.alloc (.cells #[.string rs, .int .i64 rn] 50) := ⟨_, rfl⟩
  have bA : Hid (Blk W1 w.heap.size #[.string rs, .int .i64 rn] 50) := by show Blk _ _ _ _; rw [hW1]; exact Blk.new
  have B1 : Hid (Below w.heap.size w W1) := by show Below _ _ _; rw [hW1]; exact (Below.refl _ _).alloc (Nat.le_refl _) _
  have HW1 : Hid (W1 = w.alloc (.cells #[.string rs, .int .i64 rn] 50)) := hW1
  clear hx hn hW1
  go_enter Tryz.func63, Tryz.ntmps63
  go_wp2_with fail
  rw [← HW1.out]
  go_loopw [9] (fun iv wr => ∃ k : Nat, k ≤ n ∧ iv = .int .i64 k ∧ Hid ((fs.take k).any (sameR ⟨rs, rn⟩) = false) ∧ Hid (SameOn All W1 wr) ∧ Below w.heap.size w wr) (fun iv _ => n - (intOf iv).toNat)
  case atStart => exact ⟨0, Nat.zero_le _, rfl, by show _ = _; simp, ⟨Nat.le_refl _, fun _ _ _ => rfl⟩, B1.out⟩
  case round =>
    obtain ⟨k, hk, rfl, hall, hso, hb⟩ := hrel
    have HB : Hid (Below w.heap.size w wr) := hb
    by_cases hlt : k < n
    · obtain ⟨x, hxk⟩ : ∃ x, fs[k]? = some x := ⟨fs[k]'(by rw [HN.out]; exact hlt), List.getElem?_eq_getElem _⟩
      obtain ⟨g, off, rfl, -, hgl, hat⟩ := HX.out (by intro h; rw [h] at hxk; simp at hxk)
      obtain ⟨cs, hcsl, hcs, r1⟩ := hat k x hxk
      obtain ⟨p1, n1, q1, rfl⟩ := fnShape r1
      obtain ⟨xs, xn, xc⟩ := x
      simp only at *
      have a0 := hcs 0 (by omega)
      have a1 := hcs 1 (by omega)
      have a2 := hcs 2 (by omega)
      rw [← hb.cell (p := ⟨g, _, none⟩) hgl] at a0 a1 a2
      simp at a0 a1 a2
      have hki : (k : Int) < (n : Int) := by omega
      have hk0 : (0 : Int) ≤ (k : Int) := by omega
      obtain ⟨W5, hW5⟩ : ∃ W5, W5 = wr.alloc (.cells #[.string xs, .int .i64 xn, .slice p1 n1 q1] 43) := ⟨_, rfl⟩
      have bF : Hid (Blk W5 wr.heap.size #[.string xs, .int .i64 xn, .slice p1 n1 q1] 43) := by show Blk _ _ _ _; rw [hW5]; exact Blk.new
      have K5 : Below wr.heap.size wr W5 := by rw [hW5]; exact (Below.refl _ _).alloc (Nat.le_refl _) _
      have B5 : Hid (Below w.heap.size w W5) := hb.trans (K5.mono hb.size)
      have S5 : Hid (SameOn All W1 W5) := hso.out.trans (SameOn.of_below K5)
      have HW5 : Hid (W5 = wr.alloc (.cells #[.string xs, .int .i64 xn, .slice p1 n1 q1] 43)) := hW5
      have bR := bA.out.same_on S5.out
      have y0 := bR.cell 0 _ rfl
      have y1 := bR.cell 1 _ rfl
      have z0 := bF.out.cell 0 _ rfl
      have z1 := bF.out.cell 1 _ rfl
      have z2 := bF.out.cell 2 _ rfl
      have l1 := bR.lt
      have l2 := bF.out.lt
      have qy0 : ∀ m : Wd (fun w' => SameOn All W5 w' ∧ Below w.heap.size w w'), m.val.cell? ⟨w.heap.size, 0, none⟩ = some (.string rs) := fun m => (World.cell?_of_block (m.ok.1.2 w.heap.size trivial l1)).trans y0
      have qy1 : ∀ m : Wd (fun w' => SameOn All W5 w' ∧ Below w.heap.size w w'), m.val.cell? ⟨w.heap.size, 1, none⟩ = some (.int .i64 rn) := fun m => (World.cell?_of_block (m.ok.1.2 w.heap.size trivial l1)).trans y1
      have qz0 : ∀ m : Wd (fun w' => SameOn All W5 w' ∧ Below w.heap.size w w'), m.val.cell? ⟨wr.heap.size, 0, none⟩ = some (.string xs) := fun m => (World.cell?_of_block (m.ok.1.2 wr.heap.size trivial l2)).trans z0
      have qz1 : ∀ m : Wd (fun w' => SameOn All W5 w' ∧ Below w.heap.size w w'), m.val.cell? ⟨wr.heap.size, 1, none⟩ = some (.int .i64 xn) := fun m => (World.cell?_of_block (m.ok.1.2 wr.heap.size trivial l2)).trans z1
      have qz2 : ∀ m : Wd (fun w' => SameOn All W5 w' ∧ Below w.heap.size w w'), m.val.cell? ⟨wr.heap.size, 2, none⟩ = some (.slice p1 n1 q1) := fun m => (World.cell?_of_block (m.ok.1.2 wr.heap.size trivial l2)).trans z2
      clear hb hcs hat hcsl r1 hW5 K5 y0 y1 z0 z1 z2 l1 l2 bR
      go_wp2_with fail
      rw [← HW5.out]
      have e1 := refG
      have e2 := refE
      have hCne : Nonempty (Wd (fun w' => SameOn All W5 w' ∧ Below w.heap.size w w')) := ⟨⟨W5.drew, ⟨⟨Nat.le_refl _, fun _ _ _ => rfl⟩, B5.out.drew⟩⟩⟩
      refine wp_region_class (fun w' => SameOn All W5 w' ∧ Below w.heap.size w w') (by kernel_rfl) (by kernel_rfl) ⟨⟨Nat.le_refl _, fun _ _ _ => rfl⟩, B5.out.drew⟩ ?_
      repeat (go_big_quiet_step (first | (rename_i m; go_at_call 22; refine (refOf_any _ _ _ _ _ _).mono ?_; rintro e w1 ⟨rfl, hb1⟩; exact ⟨rfl, ⟨⟨w1, ⟨(SameOn.trans m.ok.1 (SameOn.of_below hb1)), m.ok.2.trans (hb1.mono m.ok.2.size)⟩⟩, rfl⟩⟩)))
      refine wpQuiet_nil ?_
      rintro _ ⟨mq, rfl⟩
      have HB4 : Hid (Below w.heap.size w mq.val) := mq.ok.2
      have HS4 : Hid (SameOn All W1 mq.val) := S5.out.trans mq.ok.1
      generalize mq.val = w4 at HB4 HS4 ⊢
      generalize hcv : (xs.toList == rs.toList && xn == rn) = cv
      have HC2 : Hid (cv = false → (fs.take (k + 1)).any (sameR ⟨rs, rn⟩) = false) := fun h => anyT_succ _ fs k _ hxk hall.out (show (xs.toList == rs.toList && xn == rn) = false from hcv.trans h)
      have HC3 : Hid (cv = true → fs.any (sameR ⟨rs, rn⟩) = true) := fun h => anyT_at _ fs k _ hxk (show (xs.toList == rs.toList && xn == rn) = true from hcv.trans h)
      clear hcv
      cases cv with
      | false =>
        have HT' : Hid _ := HC2.out rfl
        clear HC2 HC3
        go_wp2_with fail
        exact ⟨⟨k + 1, by omega, by go_num, HT'.out, HS4.out, HB4.out⟩, by simp [intOf]; omega⟩
      | true =>
        have HF : Hid _ := HC3.out rfl
        clear HC2 HC3
        go_wp2_with fail
        go_ret
        exact ⟨by rw [HF.out]; rfl, HB4.out⟩
    · have HD : Hid (fs.any (sameR ⟨rs, rn⟩) = false) := by
        have := hall.out
        rwa [List.take_of_length_le (by rw [HN.out]; omega)] at this
      clear hb
      go_wp2_with fail
      go_ret
      exact ⟨by rw [HD.out]; rfl, HB.out⟩
end Go.Proofs.YtpkhblhcdnohmaaGreatDoor
/-
  The program's ModuleOk, by contract: functions, exports, modules.
-/
namespace Go.Proofs.YtpkhblhcdnohmaaGreatDoor
open Go.ChangeShapes Go.WideShapes Go.ChangeAt Go.RowKit
set_option linter.unusedVariables false

def rfsAt (es : List Rf) (k : Nat) : Bool :=
  match es[k]? with
  | none => true
  | some r => refB r && (match k with
    | 0 => true
    | j + 1 => match es[j]? with
      | none => true
      | some q => lessB q r)
def rfsB (es : List Rf) : Bool := (List.range es.length).all (rfsAt es)
def fnB (d : Nat) (f : Fn') : Bool := refB ⟨f.name, f.arity⟩ && (inB f.clauses.length 1 20 && f.clauses.all (fun c => clB (fun y q => exOk d y q 40) c f.arity))
def fnsAt (d : Nat) (fs : List Fn') (k : Nat) : Bool :=
  match fs[k]? with
  | none => true
  | some f => fnB d f && !(fs.take k).any (sameR ⟨f.name, f.arity⟩)
def fnsB (d : Nat) (fs : List Fn') : Bool := (List.range fs.length).all (fnsAt d fs)
/-- Whether a module is right. -/
def mdOk (d : Nat) (m : Md) : Bool := atomB m.name && ((decide (m.exports.length ≤ 20) && rfsB m.exports) && (inB m.funs.length 1 30 && fnsB d m.funs))

theorem rangeT_succ (f : Nat → Bool) (k : Nat) (h : (List.range k).all f = true) (hk : f k = true) : (List.range (k + 1)).all f = true := by
  rw [List.range_succ, List.all_append, h]; simp [hk]
theorem rangeT_at (f : Nat → Bool) (n k : Nat) (hk : k < n) (h : f k = false) : (List.range n).all f = false := by
  rw [List.all_eq_false]; exact ⟨k, List.mem_range.2 hk, by simp [h]⟩
theorem rfsAt_zero {es : List Rf} {k : Nat} {r : Rf} (hk : k = 0) (h : es[k]? = some r) : rfsAt es k = refB r := by
  subst hk; simp [rfsAt, h]
theorem rfsAt_succ {es : List Rf} {k : Nat} {q r : Rf} (hk : ¬ k = 0) (hq : es[k - 1]? = some q) (hr : es[k]? = some r) : rfsAt es k = (refB r && lessB q r) := by
  obtain ⟨j, rfl⟩ : ∃ j, k = j + 1 := ⟨k - 1, by omega⟩
  simp only [Nat.add_sub_cancel] at hq
  simp [rfsAt, hr, hq]
theorem fnsAt_eq {d : Nat} {fs : List Fn'} {k : Nat} {f : Fn'} (h : fs[k]? = some f) : fnsAt d fs k = (fnB d f && !(fs.take k).any (sameR ⟨f.name, f.arity⟩)) := by
  simp [fnsAt, h]
theorem fnB_eq (d : Nat) (s : ByteArray) (n : Int) (cl : List Cl) : fnB d ⟨s, n, cl⟩ = (refB ⟨s, n⟩ && (inB cl.length 1 20 && cl.all (fun c => clB (fun y q => exOk d y q (40 - 0)) c n))) := by
  simp [fnB]
theorem rfShape {cs : List Value} {x : Rf} (h : HRf cs x) : cs = [.string x.name, .int .i64 x.arity] := h.1

set_option maxHeartbeats 8000000 in
set_option maxRecDepth 100000 in
theorem funOk_any (d : Nat) (w : World) (cs : List Value) (f : Fn') (hT : Tabs w) (h : HFn w All d cs f) :
    Calls Tryz.prog 62 #[.agg cs.toArray] w fun e w' => e = .returned (.bool (fnB d f)) ∧ Below w.heap.size w w' := by
  have HT : Hid (Tabs w) := hT
  obtain ⟨cv, rfl, hs, -, f0⟩ := h
  obtain ⟨fs, fa, cl⟩ := f
  simp only at *
  obtain ⟨p, cap, rfl, hcl, hcm, hx⟩ := f0
  have hnb : cl.length ≤ 9223372036854775807 := by unfold maxLen at hcm; omega
  rw [fnB_eq]
  generalize hn : cl.length = n at *
  have HN : Hid (cl.length = n) := hn
  have HX : Hid (cl ≠ [] → ∃ g off, p = some ⟨g, off, none⟩ ∧ All g ∧ g < w.heap.size ∧ ∀ i x, cl[i]? = some x → ∃ cs, cs.length = 2 ∧ (∀ j, j < 2 → w.cell? ⟨g, off + i * 2 + j, none⟩ = cs[j]?) ∧ HCl w All (HEx w All d) cs x) := hx
  have BL : Hid (Below w.heap.size w (w.alloc (.cells #[.string fs, .int .i64 fa, .slice p n cap] 43))) := (Below.refl _ _).alloc (Nat.le_refl _) _
  clear hx hn hT
  cases hr : refB ⟨fs, fa⟩ with
  | false =>
    go_enter Tryz.func62, Tryz.ntmps62
    go_wp2_with fail
    refine (refOf_any fs fa p n cap _).mono ?_
    rintro e w2 ⟨rfl, hb2⟩
    have B2 : Hid (Below w.heap.size w w2) := BL.out.trans (hb2.mono BL.out.size)
    have g2 : Hid (Blk w2 w.heap.size #[.string fs, .int .i64 fa, .slice p n cap] 43) := (Blk.new (w := w)).next hb2
    clear hb2
    go_wp2_with fail
    refine (refOk_any ⟨fs, fa⟩ _ hs (HT.out.below B2.out).keys).mono ?_
    rintro e w3 ⟨rfl, hb3⟩
    rw [hr]
    have B3 : Hid (Below w.heap.size w w3) := B2.out.trans (hb3.mono B2.out.size)
    have g3 : Hid (Blk w3 w.heap.size #[.string fs, .int .i64 fa, .slice p n cap] 43) := g2.out.next hb3
    clear hb3 g2
    go_wp2_with fail
    go_ret
    exact ⟨by simp, B3.out⟩
  | true =>
    cases hin : inB n 1 20 with
    | false =>
      go_enter Tryz.func62, Tryz.ntmps62
      go_wp2_with fail
      refine (refOf_any fs fa p n cap _).mono ?_
      rintro e w2 ⟨rfl, hb2⟩
      have B2 : Hid (Below w.heap.size w w2) := BL.out.trans (hb2.mono BL.out.size)
      have g2 : Hid (Blk w2 w.heap.size #[.string fs, .int .i64 fa, .slice p n cap] 43) := (Blk.new (w := w)).next hb2
      clear hb2
      go_wp2_with fail
      refine (refOk_any ⟨fs, fa⟩ _ hs (HT.out.below B2.out).keys).mono ?_
      rintro e w3 ⟨rfl, hb3⟩
      rw [hr]
      have B3 : Hid (Below w.heap.size w w3) := B2.out.trans (hb3.mono B2.out.size)
      have g3 : Hid (Blk w3 w.heap.size #[.string fs, .int .i64 fa, .slice p n cap] 43) := g2.out.next hb3
      clear hb3 g2
      have xa0 := g3.out.cell 0 _ rfl
      have xa1 := g3.out.cell 1 _ rfl
      have xa2 := g3.out.cell 2 _ rfl
      go_wp2_with (first | (go_at_call 61; go_must (refine (withinM_any _ _ _ _).mono ?_; rintro e w9 ⟨rfl, hw9⟩; rw [hin, hw9]; clear hw9 w9)))
      go_ret
      exact ⟨by simp, B3.out⟩
    | true =>
      go_enter Tryz.func62, Tryz.ntmps62
      go_wp2_with fail
      refine (refOf_any fs fa p n cap _).mono ?_
      rintro e w2 ⟨rfl, hb2⟩
      have B2 : Hid (Below w.heap.size w w2) := BL.out.trans (hb2.mono BL.out.size)
      have g2 : Hid (Blk w2 w.heap.size #[.string fs, .int .i64 fa, .slice p n cap] 43) := (Blk.new (w := w)).next hb2
      clear hb2
      go_wp2_with fail
      refine (refOk_any ⟨fs, fa⟩ _ hs (HT.out.below B2.out).keys).mono ?_
      rintro e w3 ⟨rfl, hb3⟩
      rw [hr]
      have B3 : Hid (Below w.heap.size w w3) := B2.out.trans (hb3.mono B2.out.size)
      have g3 : Hid (Blk w3 w.heap.size #[.string fs, .int .i64 fa, .slice p n cap] 43) := g2.out.next hb3
      clear hb3 g2
      have xa0 := g3.out.cell 0 _ rfl
      have xa1 := g3.out.cell 1 _ rfl
      have xa2 := g3.out.cell 2 _ rfl
      go_wp2_with (first | (go_at_call 61; go_must (refine (withinM_any _ _ _ _).mono ?_; rintro e w9 ⟨rfl, hw9⟩; rw [hin, hw9]; clear hw9 w9)))
      obtain ⟨W1, hW1⟩ : ∃ W1, W1 = w3 := ⟨_, rfl⟩
      have bA : Hid (Blk W1 w.heap.size #[.string fs, .int .i64 fa, .slice p n cap] 43) := by show Blk _ _ _ _; rw [hW1]; exact g3.out
      have B1 : Hid (Below w.heap.size w W1) := by show Below _ _ _; rw [hW1]; exact B3.out
      rw [← hW1]
      clear hW1 g3 B3 xa0 xa1 xa2
      go_loopw [19] (fun iv wr => ∃ k : Nat, k ≤ n ∧ iv = .int .i64 k ∧ Hid ((cl.take k).all (fun c => clB (fun y q => exOk d y q (40 - 0)) c fa) = true) ∧ Hid (SameOn All W1 wr) ∧ Below w.heap.size w wr) (fun iv _ => n - (intOf iv).toNat)
      case atStart => exact ⟨0, Nat.zero_le _, rfl, by show _ = _; simp, ⟨Nat.le_refl _, fun _ _ _ => rfl⟩, B1.out⟩
      case round =>
        obtain ⟨k, hk, rfl, hall, hso, hb⟩ := hrel
        have HB : Hid (Below w.heap.size w wr) := hb
        have b1 := bA.out.same_on hso.out
        have hlw := b1.lt
        have xa1 := b1.cell 1 _ rfl
        clear b1
        by_cases hlt : k < n
        · obtain ⟨x, hxk⟩ : ∃ x, cl[k]? = some x := ⟨cl[k]'(by rw [HN.out]; exact hlt), List.getElem?_eq_getElem _⟩
          obtain ⟨g, off, rfl, -, hgl, hat⟩ := HX.out (by intro h; rw [h] at hxk; simp at hxk)
          obtain ⟨cs, hcsl, hcs, r1⟩ := hat k x hxk
          obtain ⟨p1, n1, q1, p2, n2, q2, rfl⟩ := clShape r1
          have E1 : ∀ w', Below w.heap.size w w' → HCl w' All (HEx w' All d) [.slice p1 n1 q1, .slice p2 n2 q2] x := fun w' hw => r1.mono (SameOn.of_below hw) (fun _ h => h) (fun _ _ h => h.mono (SameOn.of_below hw) (fun _ h => h))
          have a0 := hcs 0 (by omega)
          have a1 := hcs 1 (by omega)
          rw [← hb.cell (p := ⟨g, _, none⟩) hgl] at a0 a1
          simp at a0 a1
          have hki : (k : Int) < (n : Int) := by omega
          have hk0 : (0 : Int) ≤ (k : Int) := by omega
          have HBA : Hid (Below w.heap.size w (wr.alloc (.cells #[.slice p1 n1 q1, .slice p2 n2 q2] 48))) := HB.out.alloc HB.out.size _
          clear hb hcs hat hcsl r1
          generalize hcv : clB (fun y q => exOk d y q (40 - 0)) x fa = cv
          have HCV : Hid (clB (fun y q => exOk d y q (40 - 0)) x fa = cv) := hcv
          have HC2 : Hid (cv = true → (cl.take (k + 1)).all (fun c => clB (fun y q => exOk d y q (40 - 0)) c fa) = true) := fun h => allT_succ _ cl k x hxk hall.out (hcv.trans h)
          have HC3 : Hid (cv = false → cl.all (fun c => clB (fun y q => exOk d y q (40 - 0)) c fa) = false) := fun h => allT_at _ cl k x hxk (hcv.trans h)
          clear hcv
          go_wp2_with fail
          refine (clause_allI d _ _ x fa 0 (HT.out.below HBA.out) (E1 _ HBA.out) (by omega) (by omega)).mono ?_
          rintro e w4 ⟨rfl, hb4⟩
          rw [HCV.out]
          have HB4 : Hid (Below w.heap.size w w4) := HBA.out.trans (hb4.mono HBA.out.size)
          have HS4 : Hid (SameOn All W1 w4) := (hso.out.trans (SameOn.of_below ((Below.refl _ _).alloc (Nat.le_refl _) _))).trans (SameOn.of_below hb4)
          clear hb4 HCV
          cases cv with
          | true =>
            have HT' : Hid _ := HC2.out rfl
            clear HC2 HC3
            go_wp2_with fail
            exact ⟨⟨k + 1, by omega, by go_num, HT'.out, HS4.out, HB4.out⟩, by simp [intOf]; omega⟩
          | false =>
            have HF : Hid (cl.all (fun c => clB (fun y q => exOk d y q (40 - 0)) c fa) = false) := HC3.out rfl
            clear HC2 HC3
            go_wp2_with fail
            go_ret
            exact ⟨by first | (rw [HF.out]; rfl) | (rw [HF.out]; simp), HB4.out⟩
        · have HD : Hid (cl.all (fun c => clB (fun y q => exOk d y q (40 - 0)) c fa) = true) := by
            have := hall.out
            rwa [List.take_of_length_le (by rw [HN.out]; omega)] at this
          clear hb
          go_wp2_with fail
          go_ret
          exact ⟨by first | (rw [HD.out]; rfl) | (rw [HD.out]; simp), HB.out⟩

set_option maxHeartbeats 8000000 in
set_option maxRecDepth 100000 in
theorem funsOk_any (d : Nat) (w : World) (v : Value) (fs : List Fn') (hT : Tabs w) (h : Rows w All 3 (HFn w All d) v fs) :
    Calls Tryz.prog 42 #[v] w fun e w' => e = .returned (.bool (inB fs.length 1 30 && fnsB d fs)) ∧ Below w.heap.size w w' := by
  have HT : Hid (Tabs w) := hT
  have HR : ∀ w', Below w.heap.size w w' → Rows w' All 3 (HFn w' All d) v fs := fun w' hw => h.mono (SameOn.of_below hw) (fun _ h => h) (fun _ _ _ h => h.mono (SameOn.of_below hw) (fun _ h => h))
  obtain ⟨p, cap, rfl, hcl, hcm, hx⟩ := h
  have hnb : fs.length ≤ 9223372036854775807 := by unfold maxLen at hcm; omega
  have hfn : fnsB d fs = (List.range fs.length).all (fnsAt d fs) := rfl
  rw [hfn]
  clear hfn
  generalize hn : fs.length = n at *
  have HN : Hid (fs.length = n) := hn
  have HX : Hid (fs ≠ [] → ∃ g off, p = some ⟨g, off, none⟩ ∧ All g ∧ g < w.heap.size ∧ ∀ i x, fs[i]? = some x → ∃ cs, cs.length = 3 ∧ (∀ j, j < 3 → w.cell? ⟨g, off + i * 3 + j, none⟩ = cs[j]?) ∧ HFn w All d cs x) := hx
  clear hx hn hT
  cases hin : inB n 1 30 with
  | false =>
    go_enter Tryz.func42, Tryz.ntmps42
    go_wp2_with (first | (go_at_call 61; go_must (refine (withinM_any _ _ _ _).mono ?_; rintro e w9 ⟨rfl, hw9⟩; rw [hin, hw9]; clear hw9 w9)))
    go_ret
    exact ⟨by simp, Below.refl _ _⟩
  | true =>
    go_enter Tryz.func42, Tryz.ntmps42
    go_wp2_with (first | (go_at_call 61; go_must (refine (withinM_any _ _ _ _).mono ?_; rintro e w9 ⟨rfl, hw9⟩; rw [hin, hw9]; clear hw9 w9)))
    go_loopw [11] (fun iv wr => ∃ k : Nat, k ≤ n ∧ iv = .int .i64 k ∧ Hid ((List.range k).all (fnsAt d fs) = true) ∧ Below w.heap.size w wr) (fun iv _ => n - (intOf iv).toNat)
    case atStart => exact ⟨0, Nat.zero_le _, rfl, by show _ = _; simp, Below.refl _ _⟩
    case round =>
      obtain ⟨k, hk, rfl, hall, hb⟩ := hrel
      have HB : Hid (Below w.heap.size w wr) := hb
      by_cases hlt : k < n
      · obtain ⟨x, hxk⟩ : ∃ x, fs[k]? = some x := ⟨fs[k]'(by rw [HN.out]; exact hlt), List.getElem?_eq_getElem _⟩
        obtain ⟨g, off, rfl, -, hgl, hat⟩ := HX.out (by intro h; rw [h] at hxk; simp at hxk)
        obtain ⟨cs, hcsl, hcs, r1⟩ := hat k x hxk
        obtain ⟨p1, n1, q1, rfl⟩ := fnShape r1
        have E1 : ∀ w', Below w.heap.size w w' → HFn w' All d [.string x.name, .int .i64 x.arity, .slice p1 n1 q1] x := fun w' hw => r1.mono (SameOn.of_below hw) (fun _ h => h)
        have HAT : Hid (fnsAt d fs k = (fnB d x && !(fs.take k).any (sameR ⟨x.name, x.arity⟩))) := fnsAt_eq hxk
        have RT : ∀ w', Below w.heap.size w w' → Rows w' All 3 (HFn w' All d) (.slice (some ⟨g, off, none⟩) k cap) (fs.take k) := fun w' hw => (HR w' hw).take k (by omega)
        generalize hca : fnB d x = ca at *
        generalize hcb : (fs.take k).any (sameR ⟨x.name, x.arity⟩) = cb at *
        have HCA : Hid (fnB d x = ca) := hca
        have HCB : Hid ((fs.take k).any (sameR ⟨x.name, x.arity⟩) = cb) := hcb
        generalize x.name = xs at *
        generalize x.arity = xn at *
        have a0 := hcs 0 (by omega)
        have a1 := hcs 1 (by omega)
        have a2 := hcs 2 (by omega)
        rw [← hb.cell (p := ⟨g, _, none⟩) hgl] at a0 a1 a2
        simp at a0 a1 a2
        have hki : (k : Int) < (n : Int) := by omega
        have hk0 : (0 : Int) ≤ (k : Int) := by omega
        have hkc : (k : Int) ≤ (cap : Int) := by omega
        obtain ⟨W5, hW5⟩ : ∃ W5, W5 = wr.alloc (.cells #[.string xs, .int .i64 xn, .slice p1 n1 q1] 43) := ⟨_, rfl⟩
        have bF : Hid (Blk W5 wr.heap.size #[.string xs, .int .i64 xn, .slice p1 n1 q1] 43) := by show Blk _ _ _ _; rw [hW5]; exact Blk.new
        have K5 : Below wr.heap.size wr W5 := by rw [hW5]; exact (Below.refl _ _).alloc (Nat.le_refl _) _
        have B5 : Hid (Below w.heap.size w W5) := hb.trans (K5.mono hb.size)
        have HW5 : Hid (W5 = wr.alloc (.cells #[.string xs, .int .i64 xn, .slice p1 n1 q1] 43)) := hW5
        have z0 := bF.out.cell 0 _ rfl
        have z1 := bF.out.cell 1 _ rfl
        have z2 := bF.out.cell 2 _ rfl
        have l2 := bF.out.lt
        have qz0 : ∀ m : Wd (fun w' => SameOn All W5 w' ∧ Below w.heap.size w w'), m.val.cell? ⟨wr.heap.size, 0, none⟩ = some (.string xs) := fun m => (World.cell?_of_block (m.ok.1.2 wr.heap.size trivial l2)).trans z0
        have qz1 : ∀ m : Wd (fun w' => SameOn All W5 w' ∧ Below w.heap.size w w'), m.val.cell? ⟨wr.heap.size, 1, none⟩ = some (.int .i64 xn) := fun m => (World.cell?_of_block (m.ok.1.2 wr.heap.size trivial l2)).trans z1
        have qz2 : ∀ m : Wd (fun w' => SameOn All W5 w' ∧ Below w.heap.size w w'), m.val.cell? ⟨wr.heap.size, 2, none⟩ = some (.slice p1 n1 q1) := fun m => (World.cell?_of_block (m.ok.1.2 wr.heap.size trivial l2)).trans z2
        clear hb hcs hat hcsl r1 hW5 K5 z0 z1 z2 l2 hca hcb
        cases ca with
        | false =>
          have HF : Hid ((List.range n).all (fnsAt d fs) = false) := rangeT_at _ n k hlt (by rw [HAT.out]; rfl)
          go_wp2_with fail
          rw [← HW5.out]
          have hCne : Nonempty (Wd (fun w' => SameOn All W5 w' ∧ Below w.heap.size w w')) := ⟨⟨W5.drew, ⟨⟨Nat.le_refl _, fun _ _ _ => rfl⟩, B5.out.drew⟩⟩⟩
          refine wp_region_class (fun w' => SameOn All W5 w' ∧ Below w.heap.size w w') (by kernel_rfl) (by kernel_rfl) ⟨⟨Nat.le_refl _, fun _ _ _ => rfl⟩, B5.out.drew⟩ ?_
          repeat (go_big_quiet_step (first | (rename_i m; go_at_call 62; refine (funOk_any d _ _ x (HT.out.below m.ok.2) (E1 _ m.ok.2)).mono ?_; rintro e w1 ⟨rfl, hb1⟩; exact ⟨by rw [HCA.out], ⟨⟨w1, ⟨(SameOn.trans m.ok.1 (SameOn.of_below hb1)), m.ok.2.trans (hb1.mono m.ok.2.size)⟩⟩, rfl⟩⟩)))
          refine wpQuiet_nil ?_
          rintro _ ⟨mq, rfl⟩
          have HB4 : Hid (Below w.heap.size w mq.val) := mq.ok.2
          have HS4 : Hid (SameOn All W5 mq.val) := mq.ok.1
          generalize mq.val = w4 at HB4 HS4 ⊢
          go_wp2_with fail
          go_ret
          exact ⟨by rw [HF.out]; rfl, HB4.out⟩
        | true =>
          have HT2 : Hid (cb = false → (List.range (k + 1)).all (fnsAt d fs) = true) := fun h => rangeT_succ _ k hall.out (by rw [HAT.out, h]; rfl)
          have HF : Hid (cb = true → (List.range n).all (fnsAt d fs) = false) := fun h => rangeT_at _ n k hlt (by rw [HAT.out, h]; rfl)
          go_wp2_with fail
          rw [← HW5.out]
          have hCne : Nonempty (Wd (fun w' => SameOn All W5 w' ∧ Below w.heap.size w w')) := ⟨⟨W5.drew, ⟨⟨Nat.le_refl _, fun _ _ _ => rfl⟩, B5.out.drew⟩⟩⟩
          refine wp_region_class (fun w' => SameOn All W5 w' ∧ Below w.heap.size w w') (by kernel_rfl) (by kernel_rfl) ⟨⟨Nat.le_refl _, fun _ _ _ => rfl⟩, B5.out.drew⟩ ?_
          repeat (go_big_quiet_step (first | (rename_i m; go_at_call 62; refine (funOk_any d _ _ x (HT.out.below m.ok.2) (E1 _ m.ok.2)).mono ?_; rintro e w1 ⟨rfl, hb1⟩; exact ⟨by rw [HCA.out], ⟨⟨w1, ⟨(SameOn.trans m.ok.1 (SameOn.of_below hb1)), m.ok.2.trans (hb1.mono m.ok.2.size)⟩⟩, rfl⟩⟩) | (rename_i m; go_at_call 22; refine (refOf_any _ _ _ _ _ _).mono ?_; rintro e w1 ⟨rfl, hb1⟩; exact ⟨rfl, ⟨⟨w1, ⟨(SameOn.trans m.ok.1 (SameOn.of_below hb1)), m.ok.2.trans (hb1.mono m.ok.2.size)⟩⟩, rfl⟩⟩) | (rename_i m; go_at_call 63; refine (hasFun_any d _ _ (fs.take k) ⟨xs, xn⟩ (RT _ m.ok.2)).mono ?_; rintro e w1 ⟨rfl, hb1⟩; exact ⟨by rw [HCB.out], ⟨⟨w1, ⟨(SameOn.trans m.ok.1 (SameOn.of_below hb1)), m.ok.2.trans (hb1.mono m.ok.2.size)⟩⟩, rfl⟩⟩)))
          refine wpQuiet_nil ?_
          rintro _ ⟨mq, rfl⟩
          have HB4 : Hid (Below w.heap.size w mq.val) := mq.ok.2
          have HS4 : Hid (SameOn All W5 mq.val) := mq.ok.1
          generalize mq.val = w4 at HB4 HS4 ⊢
          cases cb with
          | false =>
            have HT' : Hid _ := HT2.out rfl
            clear HT2 HF
            go_wp2_with fail
            exact ⟨⟨k + 1, by omega, by go_num, HT'.out, HB4.out⟩, by simp [intOf]; omega⟩
          | true =>
            have HF' : Hid _ := HF.out rfl
            clear HT2 HF
            go_wp2_with fail
            go_ret
            exact ⟨by rw [HF'.out]; rfl, HB4.out⟩
      · have HD : Hid ((List.range n).all (fnsAt d fs) = true) := by
          obtain rfl : k = n := by omega
          exact hall.out
        clear hb
        go_wp2_with fail
        go_ret
        exact ⟨by rw [HD.out]; rfl, HB.out⟩

end Go.Proofs.YtpkhblhcdnohmaaGreatDoor
/-
  Chapter 4, plain mathematics: which functions of a module are loose.
-/
namespace Go.Proofs.YtpkhblhcdnohmaaGreatDoor
open Go.ChangeShapes Go.WideShapes Go.ChangeAt Go.RowKit
set_option linter.unusedVariables false

/-- Whether a clause wants a name. -/
def looseB (d : Nat) (c : Cl) : Bool := !(listV (freeV d) (bndV d) (foldV (patV d) [] c.1) c.2).isEmpty
def looseF (d : Nat) (f : Fn') : Bool := f.clauses.any (looseB d)
def rfOf (f : Fn') : Rf := ⟨f.name, f.arity⟩
def looseL (d : Nat) (fs : List Fn') : List Rf := (fs.filter (looseF d)).map rfOf
def looseM (d : Nat) (m : Md) : List Rf := if mdOk d m then looseL d m.funs else []
theorem looseB_in (d : Nat) (c : Cl) : looseB d c = true ↔ ∃ z, inK z (listV (freeV d) (bndV d) (foldV (patV d) [] c.1) c.2) := by
  unfold looseB inK
  cases listV (freeV d) (bndV d) (foldV (patV d) [] c.1) c.2 with
  | nil => simp
  | cons x xs => simp only [List.isEmpty_cons, Bool.not_false, true_iff]; exact ⟨keyS x, by simp⟩
theorem looseL_snoc (d : Nat) (fs : List Fn') (k : Nat) (f : Fn') (h : fs[k]? = some f) : looseL d (fs.take (k + 1)) = if looseF d f then looseL d (fs.take k) ++ [rfOf f] else looseL d (fs.take k) := by
  unfold looseL
  rw [List.take_add_one, h]
  simp only [Option.toList_some, List.filter_append, List.map_append]
  cases hf : looseF d f <;> simp [hf]
theorem looseL_len (d : Nat) (fs : List Fn') : (looseL d fs).length ≤ fs.length := by
  unfold looseL
  rw [List.length_map]
  exact List.length_filter_le _ _
theorem looseL_mem {d : Nat} {fs : List Fn'} {r : Rf} (h : r ∈ looseL d fs) : ∃ f ∈ fs, r = rfOf f := by
  unfold looseL at h
  obtain ⟨f, hf, rfl⟩ := List.mem_map.1 h
  exact ⟨f, (List.mem_filter.1 hf).1, rfl⟩
/-- A right module's clauses are right. -/
theorem mdOk_clauses {d : Nat} {m : Md} (h : mdOk d m = true) : ∀ f ∈ m.funs, ∀ c ∈ f.clauses, (∀ y ∈ c.1, exOk d y true 40 = true) ∧ ∀ y ∈ c.2, exOk d y false 40 = true := by
  intro f hf c hc
  unfold mdOk fnsB at h
  simp only [Bool.and_eq_true, List.all_eq_true] at h
  obtain ⟨i, hi⟩ := List.mem_iff_getElem?.1 hf
  have hl : i < m.funs.length := (List.getElem?_eq_some_iff.1 hi).1
  have h1 := h.2.2.2 i (by simpa using hl)
  unfold fnsAt at h1
  rw [hi] at h1
  simp only [Bool.and_eq_true] at h1
  have h2 := h1.1
  unfold fnB at h2
  simp only [Bool.and_eq_true, List.all_eq_true] at h2
  have h3 := h2.2.2 c hc
  unfold clB at h3
  simp only [Bool.and_eq_true, List.all_eq_true] at h3
  exact ⟨h3.2.2.1, h3.2.2.2⟩
end Go.Proofs.YtpkhblhcdnohmaaGreatDoor
/-
  The program's ModuleOk, by contract: exports, modules.
-/
namespace Go.Proofs.YtpkhblhcdnohmaaGreatDoor
open Go.ChangeShapes Go.WideShapes Go.ChangeAt Go.RowKit
set_option linter.unusedVariables false

set_option maxHeartbeats 8000000 in
set_option maxRecDepth 100000 in
theorem exportsOk_any (w : World) (v : Value) (es : List Rf) (hT : Tabs w) (h : Rows w All 2 HRf v es) :
    Calls Tryz.prog 41 #[v] w fun e w' => e = .returned (.bool (decide (es.length ≤ 20) && rfsB es)) ∧ Below w.heap.size w w' := by
  have HT : Hid (Tabs w) := hT
  obtain ⟨p, cap, rfl, hcl, hcm, hx⟩ := h
  have hnb : es.length ≤ 9223372036854775807 := by unfold maxLen at hcm; omega
  have hfn : rfsB es = (List.range es.length).all (rfsAt es) := rfl
  rw [hfn]
  clear hfn
  generalize hn : es.length = n at *
  have HN : Hid (es.length = n) := hn
  have HX : Hid (es ≠ [] → ∃ g off, p = some ⟨g, off, none⟩ ∧ All g ∧ g < w.heap.size ∧ ∀ i x, es[i]? = some x → ∃ cs, cs.length = 2 ∧ (∀ j, j < 2 → w.cell? ⟨g, off + i * 2 + j, none⟩ = cs[j]?) ∧ HRf cs x) := hx
  clear hx hn hT
  by_cases h20 : n ≤ 20
  · have h21 : ¬ (20 : Int) < (n : Int) := by omega
    rw [decide_eq_true h20]
    go_enter Tryz.func41, Tryz.ntmps41
    go_wp2_with fail
    go_loopw [10] (fun iv wr => ∃ k : Nat, k ≤ n ∧ iv = .int .i64 k ∧ Hid ((List.range k).all (rfsAt es) = true) ∧ Below w.heap.size w wr) (fun iv _ => n - (intOf iv).toNat)
    case atStart => exact ⟨0, Nat.zero_le _, rfl, by show _ = _; simp, Below.refl _ _⟩
    case round =>
      obtain ⟨k, hk, rfl, hall, hb⟩ := hrel
      have HB : Hid (Below w.heap.size w wr) := hb
      by_cases hlt : k < n
      · obtain ⟨x, hxk⟩ : ∃ x, es[k]? = some x := ⟨es[k]'(by rw [HN.out]; exact hlt), List.getElem?_eq_getElem _⟩
        obtain ⟨g, off, rfl, -, hgl, hat⟩ := HX.out (by intro h; rw [h] at hxk; simp at hxk)
        obtain ⟨cs, hcsl, hcs, r1⟩ := hat k x hxk
        obtain ⟨rfl, hxs, -⟩ := r1
        have hgw : g < wr.heap.size := Nat.lt_of_lt_of_le hgl hb.size
        have HAT0 : Hid (k = 0 → rfsAt es k = refB x) := fun h => rfsAt_zero h hxk
        have HATS : Hid (∀ j, k = j + 1 → ∃ q : Rf, rfsAt es k = (refB x && lessB q x) ∧ okS q.name ∧ wr.cell? ⟨g, off + j * 2, none⟩ = some (.string q.name) ∧ wr.cell? ⟨g, off + j * 2 + 1, none⟩ = some (.int .i64 q.arity)) := fun j hj => by
          obtain ⟨q, hq⟩ : ∃ q, es[j]? = some q := ⟨es[j]'(by rw [HN.out]; omega), List.getElem?_eq_getElem _⟩
          obtain ⟨cs', _, hcs', rfl, hqs, _⟩ := hat j q hq
          have b0 := hcs' 0 (by omega)
          have b1 := hcs' 1 (by omega)
          rw [← hb.cell (p := ⟨g, _, none⟩) hgl] at b0 b1
          exact ⟨q, rfsAt_succ (by omega) (by rw [hj]; exact hq) hxk, hqs, by simpa using b0, by simpa using b1⟩
        have a0 := hcs 0 (by omega)
        have a1 := hcs 1 (by omega)
        rw [← hb.cell (p := ⟨g, _, none⟩) hgl] at a0 a1
        simp at a0 a1
        have hki : (k : Int) < (n : Int) := by omega
        have hk0 : (0 : Int) ≤ (k : Int) := by omega
        generalize hca : refB x = ca at *
        have HCA : Hid (refB x = ca) := hca
        obtain ⟨xs, xn⟩ := x
        simp only at *
        obtain ⟨W5, hW5⟩ : ∃ W5, W5 = wr.alloc (.cells #[.string xs, .int .i64 xn] 50) := ⟨_, rfl⟩
        have bF : Hid (Blk W5 wr.heap.size #[.string xs, .int .i64 xn] 50) := by show Blk _ _ _ _; rw [hW5]; exact Blk.new
        have K5 : Hid (Below wr.heap.size wr W5) := by show Below _ _ _; rw [hW5]; exact (Below.refl _ _).alloc (Nat.le_refl _) _
        have B5 : Hid (Below w.heap.size w W5) := hb.trans (K5.out.mono hb.size)
        have HW5 : Hid (W5 = wr.alloc (.cells #[.string xs, .int .i64 xn] 50)) := hW5
        have hg5 : g < W5.heap.size := Nat.lt_of_lt_of_le hgw K5.out.size
        have z0 := bF.out.cell 0 _ rfl
        have z1 := bF.out.cell 1 _ rfl
        have l2 := bF.out.lt
        have qz0 : ∀ m : Wd (fun w' => SameOn All W5 w' ∧ Below w.heap.size w w'), m.val.cell? ⟨wr.heap.size, 0, none⟩ = some (.string xs) := fun m => (World.cell?_of_block (m.ok.1.2 wr.heap.size trivial l2)).trans z0
        have qz1 : ∀ m : Wd (fun w' => SameOn All W5 w' ∧ Below w.heap.size w w'), m.val.cell? ⟨wr.heap.size, 1, none⟩ = some (.int .i64 xn) := fun m => (World.cell?_of_block (m.ok.1.2 wr.heap.size trivial l2)).trans z1
        clear hb hcs hat hcsl hW5 z0 z1 l2 hca
        cases ca with
        | false =>
          have HF : Hid ((List.range n).all (rfsAt es) = false) := rangeT_at _ n k hlt (by
            rcases Nat.eq_zero_or_pos k with h | h
            · exact HAT0.out h
            · obtain ⟨q, hq, _⟩ := HATS.out (k - 1) (by omega)
              rw [hq]; rfl)
          clear HAT0 HATS
          go_wp2_with fail
          rw [← HW5.out]
          have hCne : Nonempty (Wd (fun w' => SameOn All W5 w' ∧ Below w.heap.size w w')) := ⟨⟨W5.drew, ⟨⟨Nat.le_refl _, fun _ _ _ => rfl⟩, B5.out.drew⟩⟩⟩
          refine wp_region_class (fun w' => SameOn All W5 w' ∧ Below w.heap.size w w') (by kernel_rfl) (by kernel_rfl) ⟨⟨Nat.le_refl _, fun _ _ _ => rfl⟩, B5.out.drew⟩ ?_
          repeat (go_big_quiet_step (first | (rename_i m; go_at_call 59; refine (refOk_any ⟨xs, xn⟩ _ hxs (HT.out.below m.ok.2).keys).mono ?_; rintro e w1 ⟨rfl, hb1⟩; exact ⟨by rw [HCA.out], ⟨⟨w1, ⟨(SameOn.trans m.ok.1 (SameOn.of_below hb1)), m.ok.2.trans (hb1.mono m.ok.2.size)⟩⟩, rfl⟩⟩)))
          refine wpQuiet_nil ?_
          rintro _ ⟨mq, rfl⟩
          have HB4 : Hid (Below w.heap.size w mq.val) := mq.ok.2
          have HS4 : Hid (SameOn All W5 mq.val) := mq.ok.1
          generalize mq.val = w4 at HB4 HS4 ⊢
          go_wp2_with fail
          go_ret
          exact ⟨by rw [HF.out]; rfl, HB4.out⟩
        | true =>
          rcases Nat.eq_zero_or_pos k with hz | hz
          · have HT' : Hid ((List.range (k + 1)).all (rfsAt es) = true) := rangeT_succ _ k hall.out (HAT0.out hz)
            have hz1 : ¬ (0 : Int) < (k : Int) := by omega
            have hz3 : ¬ 0 < k := by omega
            have hz4 : decide (0 < k) = false := decide_eq_false hz3
            clear HAT0 HATS hz
            go_wp2_with fail
            rw [← HW5.out]
            have hCne : Nonempty (Wd (fun w' => SameOn All W5 w' ∧ Below w.heap.size w w')) := ⟨⟨W5.drew, ⟨⟨Nat.le_refl _, fun _ _ _ => rfl⟩, B5.out.drew⟩⟩⟩
            refine wp_region_class (fun w' => SameOn All W5 w' ∧ Below w.heap.size w w') (by kernel_rfl) (by kernel_rfl) ⟨⟨Nat.le_refl _, fun _ _ _ => rfl⟩, B5.out.drew⟩ ?_
            repeat (go_big_quiet_step (first | (rename_i m; go_at_call 59; refine (refOk_any ⟨xs, xn⟩ _ hxs (HT.out.below m.ok.2).keys).mono ?_; rintro e w1 ⟨rfl, hb1⟩; exact ⟨by rw [HCA.out], ⟨⟨w1, ⟨(SameOn.trans m.ok.1 (SameOn.of_below hb1)), m.ok.2.trans (hb1.mono m.ok.2.size)⟩⟩, rfl⟩⟩)))
            refine wpQuiet_nil ?_
            rintro _ ⟨mq, rfl⟩
            have HB4 : Hid (Below w.heap.size w mq.val) := mq.ok.2
            have HS4 : Hid (SameOn All W5 mq.val) := mq.ok.1
            generalize mq.val = w4 at HB4 HS4 ⊢
            go_wp2_with fail
            exact ⟨⟨k + 1, by omega, by go_num, HT'.out, HB4.out⟩, by simp [intOf]; omega⟩
          · obtain ⟨j, rfl⟩ : ∃ j, k = j + 1 := ⟨k - 1, by omega⟩
            obtain ⟨q, hat, hqs, y0, y1⟩ := HATS.out j rfl
            have HAT : Hid (rfsAt es (j + 1) = (true && lessB q ⟨xs, xn⟩)) := hat
            obtain ⟨qs, qn⟩ := q
            simp only at *
            have qy0 : ∀ m : Wd (fun w' => SameOn All W5 w' ∧ Below w.heap.size w w'), m.val.cell? ⟨g, off + j * 2, none⟩ = some (.string qs) := fun m => (World.cell?_of_block (m.ok.1.2 g trivial hg5)).trans (cell_next K5.out y0)
            have qy1 : ∀ m : Wd (fun w' => SameOn All W5 w' ∧ Below w.heap.size w w'), m.val.cell? ⟨g, off + j * 2 + 1, none⟩ = some (.int .i64 qn) := fun m => (World.cell?_of_block (m.ok.1.2 g trivial hg5)).trans (cell_next K5.out y1)
            have hji : (j : Int) < (n : Int) := by omega
            have hj0 : (0 : Int) ≤ (j : Int) := by omega
            have hj1 : (0 : Int) < (j : Int) + 1 := by omega
            generalize hz9 : cmpRf ⟨qs, qn⟩ ⟨xs, xn⟩ = z
            have HZ : Hid (cmpRf ⟨qs, qn⟩ ⟨xs, xn⟩ = z) := hz9
            have HL : Hid (lessB ⟨qs, qn⟩ ⟨xs, xn⟩ = decide (z < 0)) := by show _ = _; unfold lessB; rw [hz9]
            clear HAT0 HATS hat hz y0 y1 hz9
            by_cases hzl : z < 0
            · have HT' : Hid ((List.range (j + 1 + 1)).all (rfsAt es) = true) := rangeT_succ _ (j + 1) hall.out (by rw [HAT.out, HL.out, decide_eq_true hzl]; rfl)
              have hzl2 : ¬ 0 ≤ z := by omega
              go_wp2_with fail
              rw [← HW5.out]
              have hCne : Nonempty (Wd (fun w' => SameOn All W5 w' ∧ Below w.heap.size w w')) := ⟨⟨W5.drew, ⟨⟨Nat.le_refl _, fun _ _ _ => rfl⟩, B5.out.drew⟩⟩⟩
              refine wp_region_class (fun w' => SameOn All W5 w' ∧ Below w.heap.size w w') (by kernel_rfl) (by kernel_rfl) ⟨⟨Nat.le_refl _, fun _ _ _ => rfl⟩, B5.out.drew⟩ ?_
              repeat (go_big_quiet_step (first | (rename_i m; go_at_call 59; refine (refOk_any ⟨xs, xn⟩ _ hxs (HT.out.below m.ok.2).keys).mono ?_; rintro e w1 ⟨rfl, hb1⟩; exact ⟨by rw [HCA.out], ⟨⟨w1, ⟨(SameOn.trans m.ok.1 (SameOn.of_below hb1)), m.ok.2.trans (hb1.mono m.ok.2.size)⟩⟩, rfl⟩⟩) | (rename_i m; go_at_call 60; refine (compareRef_any ⟨qs, qn⟩ ⟨xs, xn⟩ _).mono ?_; rintro e w1 ⟨rfl, hb1⟩; exact ⟨by rw [HZ.out], ⟨⟨w1, ⟨(SameOn.trans m.ok.1 (SameOn.of_below hb1)), m.ok.2.trans (hb1.mono m.ok.2.size)⟩⟩, rfl⟩⟩)))
              refine wpQuiet_nil ?_
              rintro _ ⟨mq, rfl⟩
              have HB4 : Hid (Below w.heap.size w mq.val) := mq.ok.2
              have HS4 : Hid (SameOn All W5 mq.val) := mq.ok.1
              generalize mq.val = w4 at HB4 HS4 ⊢
              go_wp2_with fail
              exact ⟨⟨j + 1 + 1, by omega, by go_num, HT'.out, HB4.out⟩, by simp [intOf]; omega⟩
            · have HF : Hid ((List.range n).all (rfsAt es) = false) := rangeT_at _ n (j + 1) hlt (by rw [HAT.out, HL.out, decide_eq_false hzl]; rfl)
              have hzl2 : 0 ≤ z := by omega
              go_wp2_with fail
              rw [← HW5.out]
              have hCne : Nonempty (Wd (fun w' => SameOn All W5 w' ∧ Below w.heap.size w w')) := ⟨⟨W5.drew, ⟨⟨Nat.le_refl _, fun _ _ _ => rfl⟩, B5.out.drew⟩⟩⟩
              refine wp_region_class (fun w' => SameOn All W5 w' ∧ Below w.heap.size w w') (by kernel_rfl) (by kernel_rfl) ⟨⟨Nat.le_refl _, fun _ _ _ => rfl⟩, B5.out.drew⟩ ?_
              repeat (go_big_quiet_step (first | (rename_i m; go_at_call 59; refine (refOk_any ⟨xs, xn⟩ _ hxs (HT.out.below m.ok.2).keys).mono ?_; rintro e w1 ⟨rfl, hb1⟩; exact ⟨by rw [HCA.out], ⟨⟨w1, ⟨(SameOn.trans m.ok.1 (SameOn.of_below hb1)), m.ok.2.trans (hb1.mono m.ok.2.size)⟩⟩, rfl⟩⟩) | (rename_i m; go_at_call 60; refine (compareRef_any ⟨qs, qn⟩ ⟨xs, xn⟩ _).mono ?_; rintro e w1 ⟨rfl, hb1⟩; exact ⟨by rw [HZ.out], ⟨⟨w1, ⟨(SameOn.trans m.ok.1 (SameOn.of_below hb1)), m.ok.2.trans (hb1.mono m.ok.2.size)⟩⟩, rfl⟩⟩)))
              refine wpQuiet_nil ?_
              rintro _ ⟨mq, rfl⟩
              have HB4 : Hid (Below w.heap.size w mq.val) := mq.ok.2
              have HS4 : Hid (SameOn All W5 mq.val) := mq.ok.1
              generalize mq.val = w4 at HB4 HS4 ⊢
              go_wp2_with fail
              go_ret
              exact ⟨by rw [HF.out]; rfl, HB4.out⟩
      · have HD : Hid ((List.range n).all (rfsAt es) = true) := by
          obtain rfl : k = n := by omega
          exact hall.out
        clear hb
        go_wp2_with fail
        go_ret
        exact ⟨by rw [HD.out]; rfl, HB.out⟩
  · have h21 : (20 : Int) < (n : Int) := by omega
    rw [decide_eq_false h20]
    go_enter Tryz.func41, Tryz.ntmps41
    go_wp2_with fail
    go_ret
    exact ⟨by simp, Below.refl _ _⟩

set_option maxHeartbeats 4000000 in
/-- THE PROGRAM's ModuleOk. -/
theorem implModuleOk_any (d : Nat) (w : World) (cs : List Value) (m : Md) (hT : Tabs w) (h : HMd w All d cs m) :
    Calls Tryz.prog 19 #[.agg cs.toArray] w fun e w' => e = .returned (.bool (mdOk d m)) ∧ Below w.heap.size w w' := by
  have HT : Hid (Tabs w) := hT
  obtain ⟨ev, fv, rfl, hs, f0, f1⟩ := h
  obtain ⟨ms, es, fs⟩ := m
  simp only at *
  have BL : Hid (∀ (cs : Array Value) (t : TypeId), Below w.heap.size w (w.alloc (.cells cs t))) := fun cs t => (Below.refl _ _).alloc (Nat.le_refl _) _
  have F0 : ∀ w', Below w.heap.size w w' → Rows w' All 2 HRf ev es := fun w' hw => f0.mono (SameOn.of_below hw) (fun _ h => h) (fun _ _ _ h => h)
  have F1 : ∀ w', Below w.heap.size w w' → Rows w' All 3 (HFn w' All d) fv fs := fun w' hw => f1.mono (SameOn.of_below hw) (fun _ h => h) (fun _ _ _ h => h.mono (SameOn.of_below hw) (fun _ h => h))
  obtain ⟨p, cap, rfl, -, -, -⟩ := f0
  obtain ⟨q, cap', rfl, -, -, -⟩ := f1
  have hv : mdOk d ⟨ms, es, fs⟩ = (atomB ms && ((decide (es.length ≤ 20) && rfsB es) && (inB fs.length 1 30 && fnsB d fs))) := rfl
  rw [hv]
  clear hv hT
  cases ha : atomB ms with
  | false =>
    go_enter Tryz.func19, Tryz.ntmps19
    go_wp2_with (first | (go_at_call 40; go_must (refine (implAtomOk_any _ _ hs (HT.out.below (BL.out _ _)).keys).mono ?_; rintro e w9 ⟨rfl, rfl⟩; rw [ha])))
    go_ret
    exact ⟨by simp, BL.out _ _⟩
  | true =>
    cases he : (decide (es.length ≤ 20) && rfsB es) with
    | false =>
      go_enter Tryz.func19, Tryz.ntmps19
      go_wp2_with (first | (go_at_call 40; go_must (refine (implAtomOk_any _ _ hs (HT.out.below (BL.out _ _)).keys).mono ?_; rintro e w9 ⟨rfl, rfl⟩; rw [ha])))
      refine (exportsOk_any _ _ es (HT.out.below (BL.out _ _)) (F0 _ (BL.out _ _))).mono ?_
      rintro e w2 ⟨rfl, hb2⟩
      rw [he]
      have B2 : Hid (Below w.heap.size w w2) := (BL.out _ _).trans (hb2.mono (BL.out _ _).size)
      clear hb2
      go_wp2_with fail
      go_ret
      exact ⟨by simp, B2.out⟩
    | true =>
      go_enter Tryz.func19, Tryz.ntmps19
      go_wp2_with (first | (go_at_call 40; go_must (refine (implAtomOk_any _ _ hs (HT.out.below (BL.out _ _)).keys).mono ?_; rintro e w9 ⟨rfl, rfl⟩; rw [ha])))
      refine (exportsOk_any _ _ es (HT.out.below (BL.out _ _)) (F0 _ (BL.out _ _))).mono ?_
      rintro e w2 ⟨rfl, hb2⟩
      rw [he]
      have B2 : Hid (Below w.heap.size w w2) := (BL.out _ _).trans (hb2.mono (BL.out _ _).size)
      have hbk := (Blk.new (w := w) (cs := #[.string ms, .slice p es.length cap, .slice q fs.length cap']) (t := 31)).next hb2
      have a2 := hbk.cell 2 _ rfl
      clear hb2 hbk
      go_wp2_with fail
      refine (funsOk_any d _ _ fs (HT.out.below B2.out) (F1 _ B2.out)).mono ?_
      rintro e w3 ⟨rfl, hb3⟩
      have B3 : Hid (Below w.heap.size w w3) := B2.out.trans (hb3.mono B2.out.size)
      clear hb3
      go_wp2_with fail
      go_ret
      exact ⟨by simp, B3.out⟩
end Go.Proofs.YtpkhblhcdnohmaaGreatDoor
/-
  The program's isLoose, slices.IndexFunc and ContainsFunc over it, and Loose, by contract.
-/
namespace Go.Proofs.YtpkhblhcdnohmaaGreatDoor
open Go.ChangeShapes Go.WideShapes Go.ChangeAt Go.RowKit Go.Maps Go.WideMaps
set_option linter.unusedVariables false
set_option maxRecDepth 100000

theorem SetAt.len {w : World} {mb n : Nat} {S : List UInt8 → Prop} (h : SetAt w mb n S) : ∃ k : Nat, k ≤ n ∧ (∀ ty, (Builtin.len_ #[82] ty #[.map (some mb)]).run Tryz.prog w = .ok (goInt k) w) ∧ (0 < k ↔ ∃ z, S z) := by
  obtain ⟨D, hm, hD, hh⟩ := h
  obtain ⟨es, clock, hes, -, hsz, rfl⟩ := hm
  have h2 : ∀ (q : List (Lit × DataW Unit)), (q.foldr DataW.insert []).length = q.length := fun q => by
    induction q with
    | nil => rfl
    | cons x xs ih => rw [List.foldr_cons, DataW.length_insert, ih]; rfl
  refine ⟨es.size, hsz, fun ty => run_len_map (w := w) 82 ty mb es clock Tryz.underlying82 hes, ?_⟩
  generalize hq : (es.toList.map _) = q at hD hh
  have hql : (q.foldr DataW.insert []).length = es.size := by rw [h2, ← hq, List.length_map, Array.length_toList]
  have hk := hD.keys _ rfl
  generalize q.foldr DataW.insert [] = l at hql hk hh
  constructor
  · intro h0
    cases l with
    | nil => simp at hql; omega
    | cons p ps =>
      obtain ⟨⟨x, hx⟩, -⟩ := hk p (by simp)
      refine ⟨x, (hh x).1 ?_⟩
      rw [has_eq, List.any_eq_true]
      exact ⟨p, by simp, by rw [hx]; exact WideAt.sameKey_self trivial⟩
  · rintro ⟨z, hz⟩
    have := (hh z).2 hz
    rw [has_eq, List.any_eq_true] at this
    obtain ⟨p, hp, -⟩ := this
    have := List.length_pos_of_mem hp
    omega

set_option maxHeartbeats 4000000 in
theorem isLoose_any (d : Nat) (w : World) (cs : List Value) (c : Cl) (h : HCl w All (HEx w All d) cs c) (hok : clOkD d c) (hcnt : (clVarL d c).length ≤ 2097152) :
    Calls Tryz.prog 21 #[.agg cs.toArray] w fun e w' => e = .returned (.bool (looseB d c)) ∧ Below w.heap.size w w' := by
  have HH : Hid (∀ w', Below w.heap.size w w' → HCl w' All (HEx w' All d) cs c) := fun w' hb => HCl.mono h (SameOn.of_below hb) (fun _ h => h) (fun _ _ h => h.mono (SameOn.of_below hb) (fun _ h => h))
  obtain ⟨pv, bv, rfl, rp, rb⟩ := h
  obtain ⟨pp, capp, rfl, -⟩ := rp
  obtain ⟨pb, capb, rfl, -⟩ := rb
  have HBC : Hid (Below w.heap.size w (w.alloc (.cells #[.slice pp c.1.length capp, .slice pb c.2.length capb] 48))) := (Below.refl _ _).alloc (Nat.le_refl _) _
  go_enter Tryz.func21, Tryz.ntmps21
  go_wp2_with fail
  refine (wantedBy_all d _ _ c (HH.out _ HBC.out) hok hcnt).mono ?_
  rintro e w1 ⟨mb, rfl, -, hs, hb⟩
  obtain ⟨k, hk, hlen, hz⟩ := hs.len
  have B1 : Hid (Below w.heap.size w w1) := HBC.out.trans (hb.mono HBC.out.size)
  have HL : Hid (looseB d c = decide (0 < k)) := by
    show _ = _
    by_cases h0 : 0 < k
    · rw [decide_eq_true h0]; exact (looseB_in d c).2 (hz.1 h0)
    · rw [decide_eq_false h0]
      cases hl : looseB d c with
      | false => rfl
      | true => exact absurd (hz.2 ((looseB_in d c).1 hl)) h0
  have hk2 : k ≤ 2097152 := by omega
  clear hs hb hz hk HH
  go_wp2_with fail
  go_ret
  refine ⟨?_, B1.out⟩
  rw [HL.out]
  by_cases h0 : 0 < k
  · simp [h0]
  · simp [h0]

/-- The first clause that wants a name. -/
theorem idx_any (d : Nat) (w : World) (v : Value) (cl : List Cl) (h : Rows w All 2 (HCl w All (HEx w All d)) v cl) (hok : ∀ c ∈ cl, clOkD d c) (hcnt : ∀ c ∈ cl, (clVarL d c).length ≤ 2097152) :
    Calls Tryz.prog 43 #[v, .func (.func 21) #[] #[]] w fun e w' => (∃ z : Int, e = .returned (.int .i64 z) ∧ -1 ≤ z ∧ decide (0 ≤ z) = cl.any (looseB d)) ∧ Below w.heap.size w w' := by
  have HR : Hid (Rows w All 2 (HCl w All (HEx w All d)) v cl) := h
  obtain ⟨p, cap, rfl, hcl, hcm, -⟩ := id h
  have hnb : cl.length ≤ 9223372036854775807 := by unfold maxLen at hcm; omega
  have HOK : Hid (∀ c ∈ cl, clOkD d c) := hok
  have HC : Hid (∀ c ∈ cl, (clVarL d c).length ≤ 2097152) := hcnt
  generalize hn : cl.length = nc at *
  have HN : Hid (cl.length = nc) := hn
  clear h hok hcnt hn
  go_enter Tryz.func43, Tryz.ntmps43
  go_wp2_with fail
  go_loopw [8] (fun iv wr => ∃ k : Nat, k ≤ nc ∧ iv = .int .i64 k ∧ Hid ((cl.take k).any (looseB d) = false) ∧ Hid (Below w.heap.size w wr)) (fun iv _ => nc - (intOf iv).toNat)
  case atStart => exact ⟨0, Nat.zero_le _, rfl, by show _ = _; simp, Below.refl _ _⟩
  case round =>
    obtain ⟨k, hk, rfl, HA, HB⟩ := hrel
    by_cases hlt : k < nc
    · obtain ⟨c, hck⟩ : ∃ c, cl[k]? = some c := ⟨cl[k]'(by rw [HN.out]; exact hlt), List.getElem?_eq_getElem _⟩
      obtain ⟨p', cap', hv, -, -, hx⟩ := HR.out
      simp only [Value.slice.injEq] at hv
      obtain ⟨rfl, -, rfl⟩ := hv
      obtain ⟨g, off, rfl, -, hgl, hat⟩ := hx (by intro h; rw [h] at hck; simp at hck)
      obtain ⟨cs, hcsl, hcs, r1⟩ := hat k c hck
      have E1 : Hid (HCl wr All (HEx wr All d) cs c) := HCl.mono r1 (SameOn.of_below HB.out) (fun _ h => h) (fun _ _ h => h.mono (SameOn.of_below HB.out) (fun _ h => h))
      obtain ⟨pv, bv, rfl, rp, rb⟩ := r1
      obtain ⟨pp, capp, rfl, -⟩ := rp
      obtain ⟨pb, capb, rfl, -⟩ := rb
      have a0 := hcs 0 (by omega)
      have a1 := hcs 1 (by omega)
      rw [← HB.out.cell (p := ⟨g, _, none⟩) hgl] at a0 a1
      simp at a0 a1
      have HOKc : Hid (clOkD d c) := HOK.out c (List.mem_of_getElem? hck)
      have HCc : Hid ((clVarL d c).length ≤ 2097152) := HC.out c (List.mem_of_getElem? hck)
      have HT : Hid (looseB d c = true → cl.any (looseB d) = true) := fun h => by rw [List.any_eq_true]; exact ⟨c, List.mem_of_getElem? hck, h⟩
      have HF : Hid (looseB d c = false → (cl.take (k + 1)).any (looseB d) = false) := fun h => by
        rw [List.take_add_one, hck, List.any_append, HA.out]; simp [h]
      have hki : (k : Int) < (nc : Int) := by omega
      have hk0 : (0 : Int) ≤ (k : Int) := by omega
      clear hat hcs hcsl hx
      go_wp2_with fail
      refine (isLoose_any d _ _ c E1.out HOKc.out HCc.out).mono ?_
      rintro e w2 ⟨rfl, hb2⟩
      have B2 : Hid (Below w.heap.size w w2) := HB.out.trans (hb2.mono HB.out.size)
      clear hb2 a0 a1
      cases hl : looseB d c with
      | true =>
        have HT' : Hid (cl.any (looseB d) = true) := HT.out hl
        clear HT HF
        go_wp2_with fail
        go_ret
        exact ⟨⟨_, rfl, by omega, by rw [HT'.out]; exact decide_eq_true (by omega)⟩, B2.out⟩
      | false =>
        have HF' : Hid ((cl.take (k + 1)).any (looseB d) = false) := HF.out hl
        clear HT HF
        go_wp2_with fail
        exact ⟨⟨k + 1, by omega, by go_num, HF'.out, B2.out⟩, by simp [intOf]; omega⟩
    · have HS : Hid (cl.any (looseB d) = false) := by
        have h1 := HA.out
        rwa [List.take_of_length_le (by rw [HN.out]; omega)] at h1
      go_wp2_with fail
      go_ret
      exact ⟨⟨_, rfl, by omega, by rw [HS.out]; rfl⟩, HB.out⟩
theorem contains_any (d : Nat) (w : World) (v : Value) (cl : List Cl) (h : Rows w All 2 (HCl w All (HEx w All d)) v cl) (hok : ∀ c ∈ cl, clOkD d c) (hcnt : ∀ c ∈ cl, (clVarL d c).length ≤ 2097152) :
    Calls Tryz.prog 20 #[v, .func (.func 21) #[] #[]] w fun e w' => e = .returned (.bool (cl.any (looseB d))) ∧ Below w.heap.size w w' := by
  have HR : Hid (Rows w All 2 (HCl w All (HEx w All d)) v cl) := h
  obtain ⟨p, cap, rfl, -⟩ := id h
  clear h
  go_enter Tryz.func20, Tryz.ntmps20
  go_wp2_with fail
  refine (idx_any d _ _ cl HR.out hok hcnt).mono ?_
  rintro e w1 ⟨⟨z, rfl, hz1, hz⟩, hb⟩
  have HZ : Hid (decide (0 ≤ z) = cl.any (looseB d)) := hz
  clear hz
  go_wp2_with fail
  go_ret
  exact ⟨by rw [← HZ.out]; rfl, hb⟩

set_option maxHeartbeats 8000000 in
theorem implLoose_any (d : Nat) (w : World) (cs : List Value) (m : Md) (hT : Tabs w) (h : HMd w All d cs m) (hw : wtMd d m ≤ 1048576) :
    Calls Tryz.prog 7 #[.agg cs.toArray] w fun e w' => ∃ u, e = .returned u ∧ OwnR w' w.heap.size u (looseM d m) ∧ Below w.heap.size w w' := by
  have HT : Hid (Tabs w) := hT
  have HM : Hid (∀ w', Below w.heap.size w w' → HMd w' All d cs m) := fun w' hb => h.mono (SameOn.of_below hb) (fun _ h => h)
  obtain ⟨ev, fv, rfl, hs, f0, f1⟩ := h
  have HF1 : Hid (Rows w All 3 (HFn w All d) fv m.funs) := f1
  obtain ⟨pe, ce, rfl, -⟩ := f0
  obtain ⟨pf, cf, rfl, hcf, hcmf, -⟩ := id f1
  have hnf : m.funs.length ≤ 9223372036854775807 := by unfold maxLen at hcmf; omega
  have HCN : Hid (∀ f ∈ m.funs, ∀ c ∈ f.clauses, (clVarL d c).length ≤ 2097152) := fun f hf c hc => by
    have h0 : wtMd d m = m.name.size + wtS wtRf m.exports + wtS (wtFn d) m.funs := rfl
    obtain ⟨i, hi⟩ := List.mem_iff_getElem?.1 hf
    have h1 := sum_take_succ (wtFn d) m.funs i f hi
    have h2 := sum_take_le (wtFn d) m.funs (i + 1)
    have h3 : wtFn d f = f.name.size + wtS (wtCl (wtEx d)) f.clauses := rfl
    obtain ⟨j, hj⟩ := List.mem_iff_getElem?.1 hc
    have h4 := sum_take_succ (wtCl (wtEx d)) f.clauses j c hj
    have h5 := sum_take_le (wtCl (wtEx d)) f.clauses (j + 1)
    have h6 : wtCl (wtEx d) c = wtS (wtEx d) c.1 + wtS (wtEx d) c.2 := rfl
    have h7 := flat_len (varL d) (wtEx d) c.1 (fun y _ => varL_len d y)
    have h8 := flat_len (varL d) (wtEx d) c.2 (fun y _ => varL_len d y)
    have h9 : (clVarL d c).length = (c.1.flatMap (varL d)).length + (c.2.flatMap (varL d)).length := by unfold clVarL; rw [List.length_append]
    have w1 : wtS (wtFn d) m.funs = m.funs.length + (m.funs.map (wtFn d)).sum := rfl
    have w2 : wtS (wtCl (wtEx d)) f.clauses = f.clauses.length + (f.clauses.map (wtCl (wtEx d))).sum := rfl
    omega
  have HFL : Hid (m.funs.length ≤ 1048576) := by
    have h0 : wtMd d m = m.name.size + wtS wtRf m.exports + wtS (wtFn d) m.funs := rfl
    have w1 : wtS (wtFn d) m.funs = m.funs.length + (m.funs.map (wtFn d)).sum := rfl
    show _ ≤ _
    omega
  have BA : Below w.heap.size w (w.alloc (.cells #[.string m.name, .slice pe m.exports.length ce, .slice pf m.funs.length cf] 31)) := (Below.refl _ _).alloc (Nat.le_refl _) _
  have BB : Hid (Below w.heap.size w ((w.alloc (.cells #[.string m.name, .slice pe m.exports.length ce, .slice pf m.funs.length cf] 31)).alloc (.cells #[] 50))) := BA.alloc BA.size _
  have bA : Hid (Blk ((w.alloc (.cells #[.string m.name, .slice pe m.exports.length ce, .slice pf m.funs.length cf] 31)).alloc (.cells #[] 50)) w.heap.size #[.string m.name, .slice pe m.exports.length ce, .slice pf m.funs.length cf] 31) := Blk.new.alloc
  have O0 : Hid (OwnR ((w.alloc (.cells #[.string m.name, .slice pe m.exports.length ce, .slice pf m.funs.length cf] 31)).alloc (.cells #[] 50)) w.heap.size (.slice (some ⟨w.heap.size + 1, 0, none⟩) 0 0) []) := by
    have := (OwnR.fresh (w := w.alloc (.cells #[.string m.name, .slice pe m.exports.length ce, .slice pf m.funs.length cf] 31))).base BA.size
    rwa [alloc_hs] at this
  have HLM : Hid (looseM d m = if mdOk d m then looseL d m.funs else []) := rfl
  clear f1 hT hs BA hw
  cases hok : mdOk d m with
  | false =>
    rw [hok] at HLM
    go_enter Tryz.func7, Tryz.ntmps7
    go_wp2_with fail
    refine (implModuleOk_any d _ _ m (HT.out.below BB.out) (HM.out _ BB.out)).mono ?_
    rintro e w1 ⟨rfl, hb⟩
    rw [hok]
    have B1 : Hid (Below w.heap.size w w1) := BB.out.trans (hb.mono BB.out.size)
    have O1 : Hid (OwnR w1 w.heap.size (.slice (some ⟨w.heap.size + 1, 0, none⟩) 0 0) []) := O0.out.next hb
    clear hb
    go_wp2_with fail
    go_ret
    exact ⟨_, rfl, by rw [HLM.out]; exact O1.out, B1.out⟩
  | true =>
    have HOKC : Hid (∀ f ∈ m.funs, ∀ c ∈ f.clauses, clOkD d c) := fun f hf c hc => by
      obtain ⟨h1, h2⟩ := mdOk_clauses hok f hf c hc
      exact ⟨⟨40, h1⟩, fun y hy => ⟨_, _, h2 y hy⟩⟩
    rw [hok] at HLM
    obtain ⟨i, hi, hz0, hz1, hz2⟩ : ∃ i, Tryz.prog.info? 50 = some i ∧ i.zero = some (.agg #[.string ⟨#[]⟩, .int .i64 0]) ∧ i.size = 2 ∧ i.bytes = 24 := info_parts info_ref
    generalize hn : m.funs.length = nf at *
    have HN : Hid (m.funs.length = nf) := hn
    clear hn
    go_enter Tryz.func7, Tryz.ntmps7
    go_wp2_with fail
    refine (implModuleOk_any d _ _ m (HT.out.below BB.out) (HM.out _ BB.out)).mono ?_
    rintro e w1 ⟨rfl, hb⟩
    rw [hok]
    have B1 : Hid (Below w.heap.size w w1) := BB.out.trans (hb.mono BB.out.size)
    have O1 : Hid (OwnR w1 w.heap.size (.slice (some ⟨w.heap.size + 1, 0, none⟩) 0 0) []) := O0.out.next hb
    have b1 := bA.out.next hb
    have x2 := b1.cell 2 _ rfl
    clear hb b1
    go_wp2_with fail
    go_loopw [3, 14] (fun u iv wr => ∃ k : Nat, k ≤ nf ∧ iv = .int .i64 k ∧ Hid (OwnR wr w.heap.size u (looseL d (m.funs.take k))) ∧ Hid (Below w.heap.size w wr)) (fun _ iv _ => nf - (intOf iv).toNat)
    case atStart => exact ⟨0, Nat.zero_le _, rfl, by show OwnR _ _ _ _; simpa [looseL] using O1.out, B1.out⟩
    case round =>
      clear O1 B1 x2 O0 BB bA
      obtain ⟨k, hk, rfl, HO, HB⟩ := hrel
      by_cases hlt : k < nf
      · obtain ⟨f, hfk⟩ : ∃ f, m.funs[k]? = some f := ⟨m.funs[k]'(by rw [HN.out]; exact hlt), List.getElem?_eq_getElem _⟩
        obtain ⟨p', cap', hv, -, -, hx⟩ := HF1.out
        simp only [Value.slice.injEq] at hv
        obtain ⟨rfl, -, rfl⟩ := hv
        obtain ⟨g, off, rfl, -, hgl, hat⟩ := hx (by intro h; rw [h] at hfk; simp at hfk)
        obtain ⟨cs, hcsl, hcs, r1⟩ := hat k f hfk
        obtain ⟨cv, rfl, hfs, hfi, rc⟩ := r1
        have RC : Hid (∀ w', Below w.heap.size w w' → Rows w' All 2 (HCl w' All (HEx w' All d)) cv f.clauses) := fun w' hb => Rows.mono rc (SameOn.of_below hb) (fun _ h => h) (fun _ _ _ h => HCl.mono h (SameOn.of_below hb) (fun _ h => h) (fun _ _ h => h.mono (SameOn.of_below hb) (fun _ h => h)))
        obtain ⟨pc, cc, rfl, -⟩ := rc
        have a0 := hcs 0 (by omega)
        have a1 := hcs 1 (by omega)
        have a2 := hcs 2 (by omega)
        rw [← HB.out.cell (p := ⟨g, _, none⟩) hgl] at a0 a1 a2
        simp at a0 a1 a2
        have HOKf : Hid (∀ c ∈ f.clauses, clOkD d c) := HOKC.out f (List.mem_of_getElem? hfk)
        have HCf : Hid (∀ c ∈ f.clauses, (clVarL d c).length ≤ 2097152) := HCN.out f (List.mem_of_getElem? hfk)
        have HSN : Hid (looseL d (m.funs.take (k + 1)) = if f.clauses.any (looseB d) then looseL d (m.funs.take k) ++ [⟨f.name, f.arity⟩] else looseL d (m.funs.take k)) := looseL_snoc d m.funs k f hfk
        have HLL : Hid ((looseL d (m.funs.take k)).length ≤ 1048576) := by
          have h1 := looseL_len d (m.funs.take k)
          rw [List.length_take, HN.out] at h1
          have h2 := HFL.out
          show _ ≤ _
          omega
        have hki : (k : Int) < (nf : Int) := by omega
        have hk0 : (0 : Int) ≤ (k : Int) := by omega
        have HBF : Hid (Below wr.heap.size wr (wr.alloc (.cells #[.string f.name, .int .i64 f.arity, .slice pc f.clauses.length cc] 43))) := (Below.refl _ _).alloc (Nat.le_refl _) _
        have bF : Hid (Blk (wr.alloc (.cells #[.string f.name, .int .i64 f.arity, .slice pc f.clauses.length cc] 43)) wr.heap.size #[.string f.name, .int .i64 f.arity, .slice pc f.clauses.length cc] 43) := Blk.new
        have BF : Hid (Below w.heap.size w (wr.alloc (.cells #[.string f.name, .int .i64 f.arity, .slice pc f.clauses.length cc] 43))) := HB.out.trans (HBF.out.mono HB.out.size)
        clear hat hcs hcsl hx
        generalize looseL d (m.funs.take k) = LK at *
        go_wp2_with fail
        refine (contains_any d _ _ f.clauses (RC.out _ BF.out) HOKf.out HCf.out).mono ?_
        rintro e w2 ⟨rfl, hb2⟩
        have K2 : Hid (Below wr.heap.size wr w2) := HBF.out.trans (hb2.mono HBF.out.size)
        have B2 : Hid (Below w.heap.size w w2) := HB.out.trans (K2.out.mono HB.out.size)
        have O2 : Hid (OwnR w2 w.heap.size u3 LK) := HO.out.next K2.out
        have b2 := bF.out.next hb2
        have y0 := b2.cell 0 _ rfl
        have y1 := b2.cell 1 _ rfl
        have y2 := b2.cell 2 _ rfl
        clear hb2 b2 a0 a1 a2
        cases hl : f.clauses.any (looseB d) with
        | false =>
          rw [hl] at HSN
          go_wp2_with fail
          exact ⟨⟨k + 1, by omega, by go_num, by show OwnR _ _ _ _; rw [HSN.out]; exact O2.out, B2.out⟩, by simp [intOf]; omega⟩
        | true =>
          rw [hl] at HSN
          go_wp2_with fail
          refine (refOf_any _ _ _ _ _ _).mono ?_
          rintro e w3 ⟨rfl, hb3⟩
          have B3 : Hid (Below w.heap.size w w3) := B2.out.trans (hb3.mono B2.out.size)
          have O3 : Hid (OwnR w3 w.heap.size u3 LK) := O2.out.next hb3
          have O4 : Hid (OwnR (w3.alloc (.cells #[.string f.name, .int .i64 f.arity] 50)) w.heap.size u3 LK) := O3.out.next ((Below.refl _ _).alloc (Nat.le_refl _) _)
          have B4 : Hid (Below w.heap.size w (w3.alloc (.cells #[.string f.name, .int .i64 f.arity] 50))) := B3.out.alloc B3.out.size _
          have hLL := HLL.out
          clear hb3 y0 y1 y2
          have N1 : Hid (∀ j u, (refs [⟨f.name, f.arity⟩])[j]? = some u → (w3.alloc (.cells #[.string f.name, .int .i64 f.arity] 50)).cell? ((⟨w3.heap.size, 0, none⟩ : Addr).add j) = some u) := one_ref
          go_wp2_with (at_builtin; refine wpList_append_own _ rfl _ _ 27 rfl w.heap.size 50 i (.agg #[.string ⟨#[]⟩, .int .i64 0]) 2 24 Tryz.underlying27 hi hz0 hz1 hz2 rfl (by decide) _ _ _ rfl O4.out.1 _ 1 1 (refs [⟨f.name, f.arity⟩]) rfl rfl N1.out (refs_oneCell _) (by unfold maxLen; omega) (by omega) O4.out.2 ?_)
          intro v5 w5 hown hgr _
          have O5 : Hid (OwnR w5 w.heap.size v5 (LK ++ [⟨f.name, f.arity⟩])) := OwnR.of hown (by simp) rfl (Nat.le_trans O4.out.2 hgr.size)
          have B5 : Hid (Below w.heap.size w w5) := B4.out.trans (O4.out.below hgr)
          clear hown hgr
          go_wp2_with fail
          exact ⟨⟨k + 1, by omega, by go_num, by show OwnR _ _ _ _; rw [HSN.out]; exact O5.out, B5.out⟩, by simp [intOf]; omega⟩
      · have HS : Hid (OwnR wr w.heap.size u3 (looseM d m)) := by
          have h1 := HO.out
          rw [List.take_of_length_le (by rw [HN.out]; omega)] at h1
          show OwnR _ _ _ _
          rw [HLM.out]
          exact h1
        go_wp2_with fail
        go_ret
        exact ⟨_, rfl, HS.out, HB.out⟩
end Go.Proofs.YtpkhblhcdnohmaaGreatDoor
/-
  The specification's chapter 4, by contract: l01Has, l04Once, l04PatVars.
-/
namespace Go.Proofs.YtpkhblhcdnohmaaGreatDoor
open Go.ChangeShapes Go.WideShapes Go.ChangeAt Go.RowKit
set_option linter.unusedVariables false

theorem anyT_succ' {α : Type} (f : α → Bool) (xs : List α) (k : Nat) (x : α) (h : xs[k]? = some x) (ht : (xs.take k).any f = false) (hx : f x = false) : (xs.take (k + 1)).any f = false := by
  rw [List.take_add_one, h, List.any_append, ht]; simp [hx]
theorem anyT_at' {α : Type} (f : α → Bool) (xs : List α) (k : Nat) (x : α) (h : xs[k]? = some x) (hx : f x = true) : xs.any f = true := by
  rw [List.any_eq_true]; exact ⟨x, List.mem_of_getElem? h, hx⟩

set_option maxHeartbeats 1000000 in
theorem hasS_any (w : World) (v : Value) (xs : List ByteArray) (s : ByteArray) (h : StrR w v xs) :
    Calls Tryz.prog 52 #[v, .string s] w fun e w' => e = .returned (.bool (hasS xs s)) ∧ w' = w := by
  have hv : hasS xs s = xs.any (fun x => x.toList == s.toList) := rfl
  rw [hv]
  clear hv
  obtain ⟨p, cap, rfl, hcl, hcm, hx⟩ := h
  have hnb : xs.length ≤ 9223372036854775807 := by unfold maxLen at hcm; omega
  generalize hn : xs.length = n at *
  have HN : Hid (xs.length = n) := hn
  have HX : Hid (xs ≠ [] → ∃ g off, p = some ⟨g, off, none⟩ ∧ All g ∧ g < w.heap.size ∧ ∀ i x, xs[i]? = some x → ∃ cs, cs.length = 1 ∧ (∀ j, j < 1 → w.cell? ⟨g, off + i * 1 + j, none⟩ = cs[j]?) ∧ HStr cs x) := hx
  clear hx hn
  go_enter Tryz.func52, Tryz.ntmps52
  go_wp2
  go_loop [5] (fun iv => ∃ k : Nat, k ≤ n ∧ iv = .int .i64 k ∧ Hid ((xs.take k).any (fun x => x.toList == s.toList) = false)) (fun iv => n - (intOf iv).toNat)
  case atStart => exact ⟨0, Nat.zero_le _, rfl, by show _ = _; simp⟩
  case round =>
    obtain ⟨k, hk, rfl, hno⟩ := hrel
    by_cases hlt : k < n
    · obtain ⟨x, hxk⟩ : ∃ x, xs[k]? = some x := ⟨xs[k]'(by rw [HN.out]; exact hlt), List.getElem?_eq_getElem _⟩
      obtain ⟨g, off, rfl, -, hgl, hat⟩ := HX.out (by intro h; rw [h] at hxk; simp at hxk)
      obtain ⟨cs, hcsl, hcs, rfl, -⟩ := hat k x hxk
      have a0 := hcs 0 (by omega)
      simp at a0
      have hki : (k : Int) < (n : Int) := by omega
      have hk0 : (0 : Int) ≤ (k : Int) := by omega
      clear hcs hat hcsl
      cases hq : (x.toList == s.toList) with
      | true =>
        have HS : Hid ((xs.any fun x => x.toList == s.toList) = true) := anyT_at' _ xs k x hxk hq
        go_wp2
        go_ret
        exact ⟨by rw [HS.out]; rfl, rfl⟩
      | false =>
        have HS : Hid ((xs.take (k + 1)).any (fun x => x.toList == s.toList) = false) := anyT_succ' _ xs k x hxk hno.out hq
        go_wp2
        go_round
        case rel => exact ⟨k + 1, by omega, by go_num, HS⟩
        case measure => simp [intOf]; omega
    · have HS : Hid ((xs.any fun x => x.toList == s.toList) = false) := by
        have := hno.out
        rwa [List.take_of_length_le (by rw [HN.out]; omega)] at this
      go_wp2
      go_ret
      exact ⟨by rw [HS.out]; rfl, rfl⟩

theorem one_str (W : World) (s : ByteArray) (g : Nat) (hg : g = W.heap.size) : ∀ j u, (strs [s])[j]? = some u → (W.alloc (.cells #[.string s] 9)).cell? ((⟨g, 0, none⟩ : Addr).add j) = some u := by
  subst hg
  intro j u h
  match j, h with
  | 0, h => simp [strs] at h; subst h; rw [Addr.add]; exact cell_new W _ _ 0 _ rfl

set_option maxHeartbeats 4000000 in
set_option maxRecDepth 100000 in
/-- Names with more behind. -/
theorem once_any (w : World) (v1 v2 : Value) (xs ys : List ByteArray) (h1 : StrV w v1 xs) (h2 : StrR w v2 ys) (hl : xs.length + ys.length ≤ 8388608) :
    Calls Tryz.prog 34 #[v1, v2] w fun e w' => ∃ u, e = .returned u ∧ OwnS w' w.heap.size u (onceS xs ys) ∧ Below w.heap.size w w' := by
  obtain ⟨h1, hnil⟩ := h1
  have OX := h1.okS
  have OY := h2.okS
  obtain ⟨p, cap, rfl, hcl, hcm, hx⟩ := h1
  obtain ⟨q, cap', rfl, hcl', hcm', hy⟩ := h2
  obtain ⟨i, hi, hz0, hz1, hz2⟩ := info_parts info_str
  have hlx : xs.length ≤ 8388608 := by omega
  have hly : ys.length ≤ 8388608 := by omega
  have LQ : Hid (∀ k, (onceS xs (ys.take k)).length ≤ 8388608) := fun k => by
    have h3 := onceS_length xs (ys.take k)
    have h4 : (ys.take k).length ≤ ys.length := by rw [List.length_take]; omega
    omega
  have OQ : Hid (∀ k, ∀ x ∈ onceS xs (ys.take k), okS x) := fun k x hx => by
    rcases onceS_mem _ _ x hx with h | h
    · exact OX x h
    · exact OY x (List.mem_of_mem_take h)
  have HY : Hid (ys ≠ [] → ∃ g off, q = some ⟨g, off, none⟩ ∧ All g ∧ g < w.heap.size ∧ ∀ i x, ys[i]? = some x → ∃ cs, cs.length = 1 ∧ (∀ j, j < 1 → w.cell? ⟨g, off + i * 1 + j, none⟩ = cs[j]?) ∧ HStr cs x) := hy
  have O0 : Hid (OwnS (w.alloc (.cells #[] 9)) w.heap.size (.slice (some ⟨w.heap.size, 0, none⟩) 0 0) []) := OwnS.fresh
  have BL : Hid (Below w.heap.size w (w.alloc (.cells #[] 9))) := (Below.refl _ _).alloc (Nat.le_refl _) _
  have HC : Hid (∀ a, p = some a → ∀ j u, (strs xs)[j]? = some u → (w.alloc (.cells #[] 9)).cell? (a.add j) = some u) := fun a ha j u hj => by
    have hne : xs ≠ [] := by intro e; rw [e] at hj; simp [strs] at hj
    obtain ⟨g, off, hp, -, hgl, hat⟩ := hx hne
    have hj' := hj
    simp only [strs, List.getElem?_map, Option.map_eq_some_iff] at hj'
    obtain ⟨x, hxj, rfl⟩ := hj'
    obtain ⟨cs, _, hcs, rfl, _⟩ := hat j x hxj
    have h0 := hcs 0 (by omega)
    rw [hp] at ha
    obtain rfl := Option.some.inj ha
    have e1 : (⟨g, off, none⟩ : Addr).add j = ⟨g, off + j * 1 + 0, none⟩ := by simp [Addr.add]
    rw [e1, BL.out.cell (p := ⟨g, _, none⟩) hgl]
    exact h0
  generalize hn : ys.length = n at *
  have HN : Hid (ys.length = n) := hn
  clear hy OX OY hx hn
  cases p with
  | none =>
    have hxs : xs = [] := by
      have := hnil _ _ rfl
      simp only [Value.slice.injEq, true_and] at this
      exact List.length_eq_zero_iff.1 this.1
    have hcz : cap = 0 := by
      have := hnil _ _ rfl
      simp only [Value.slice.injEq, true_and] at this
      exact this.2
    subst hxs hcz
    simp only [List.length_nil] at *
    clear hnil
    go_enter Tryz.func34, Tryz.ntmps34
    go_wp2_with (first | (at_builtin; refine wpList_append_own_none rfl _ _ 44 rfl w.heap.size 9 i 1 Tryz.underlying44 hi _ _ _ rfl O0.out.1 rfl ?_))
    have HO1 := O0
    have HB1 := BL
    go_wp2_with fail
    go_loopw [5, 6] (fun ov iv wr => ∃ k : Nat, k ≤ n ∧ iv = .int .i64 k ∧ Hid (OwnS wr w.heap.size ov (onceS [] (ys.take k))) ∧ Below w.heap.size w wr) (fun _ iv _ => n - (intOf iv).toNat)
    case atStart => exact ⟨0, Nat.zero_le _, rfl, HO1.out, HB1.out⟩
    case round =>
      obtain ⟨k, hk, rfl, ho, hb⟩ := hrel
      have HB : Hid (Below w.heap.size w wr) := hb
      by_cases hlt : k < n
      · obtain ⟨y, hyk⟩ : ∃ y, ys[k]? = some y := ⟨ys[k]'(by rw [HN.out]; exact hlt), List.getElem?_eq_getElem _⟩
        obtain ⟨g, off, rfl, -, hgl, hat⟩ := HY.out (by intro h; rw [h] at hyk; simp at hyk)
        obtain ⟨cs, hcsl, hcs, rfl, -⟩ := hat k y hyk
        have a0 := hcs 0 (by omega)
        rw [← hb.cell (p := ⟨g, _, none⟩) hgl] at a0
        simp at a0
        have hki : (k : Int) < (n : Int) := by omega
        have hk0 : (0 : Int) ≤ (k : Int) := by omega
        have HJ : Hid (onceS [] (ys.take (k + 1)) = if hasS (onceS [] (ys.take k)) y then onceS [] (ys.take k) else onceS [] (ys.take k) ++ [y]) := by
          show _ = _
          rw [List.take_add_one, hyk]
          exact onceS_snoc [] (ys.take k) y
        have lq := LQ.out k
        have oq := OQ.out k
        have SR : Hid (StrR wr u5 (onceS [] (ys.take k))) := ho.out.strR oq
        generalize hJ0 : onceS [] (ys.take k) = J at *
        clear hb hcs hat hcsl oq hJ0
        cases hq : hasS J y with
        | true =>
          have HJ2 : Hid (onceS [] (ys.take (k + 1)) = J) := by show _ = _; rw [HJ.out, hq]; rfl
          go_wp2_with (first | (go_at_call 52; go_must (refine (hasS_any _ _ _ _ SR.out).mono ?_; rintro e w9 ⟨rfl, hw9⟩; rw [hq, hw9]; clear hw9 w9)))
          exact ⟨⟨k + 1, by omega, by go_num, by show OwnS _ _ _ _; rw [HJ2.out]; exact ho.out, HB.out⟩, by simp [intOf]; omega⟩
        | false =>
          have HJ2 : Hid (onceS [] (ys.take (k + 1)) = J ++ [y]) := by show _ = _; rw [HJ.out, hq]; rfl
          have OA : Hid (OwnS (wr.alloc (.cells #[.string y] 9)) w.heap.size u5 J) := ho.out.next ((Below.refl _ _).alloc (Nat.le_refl _) _)
          have N1 : Hid (∀ j u, (strs [y])[j]? = some u → (wr.alloc (.cells #[.string y] 9)).cell? ((⟨wr.heap.size, 0, none⟩ : Addr).add j) = some u) := one_str wr y _ rfl
          have BA : Hid (Below w.heap.size w (wr.alloc (.cells #[.string y] 9))) := HB.out.alloc HB.out.size _
          go_wp2_with (first | (go_at_call 52; go_must (refine (hasS_any _ _ _ _ SR.out).mono ?_; rintro e w9 ⟨rfl, hw9⟩; rw [hq, hw9]; clear hw9 w9)) | (at_builtin; refine wpList_append_own _ rfl _ _ 44 rfl w.heap.size 9 i (.string ⟨#[]⟩) 1 16 Tryz.underlying44 hi hz0 hz1 hz2 rfl (by decide) u5 _ _ rfl OA.out.1 _ 1 1 (strs [y]) rfl rfl N1.out (strs_oneCell _) (by unfold maxLen; omega) (by omega) OA.out.2 ?_))
          intro u2 w2 hown2 hgr2 _
          have HO2 : Hid (OwnS w2 w.heap.size u2 (J ++ [y])) := OwnS.of hown2 (by simp) rfl (Nat.le_trans OA.out.2 hgr2.size)
          have HB2 : Hid (Below w.heap.size w w2) := BA.out.trans (OA.out.below hgr2)
          clear hown2 hgr2
          go_wp2_with fail
          exact ⟨⟨k + 1, by omega, by go_num, by show OwnS _ _ _ _; rw [HJ2.out]; exact HO2.out, HB2.out⟩, by simp [intOf]; omega⟩
      · have HS : Hid (OwnS wr w.heap.size u5 (onceS [] ys)) := by
          have := ho.out
          rwa [List.take_of_length_le (by rw [HN.out]; omega)] at this
        clear hb
        go_wp2_with fail
        go_ret
        exact ⟨u5, rfl, HS.out, HB.out⟩
  | some a =>
    go_enter Tryz.func34, Tryz.ntmps34
    go_wp2_with (first | (at_builtin; refine wpList_append_own _ rfl _ _ 44 rfl w.heap.size 9 i (.string ⟨#[]⟩) 1 16 Tryz.underlying44 hi hz0 hz1 hz2 rfl (by decide) _ _ _ rfl O0.out.1 a xs.length cap (strs xs) rfl (by rw [strs_length]; omega) (HC.out a rfl) (strs_oneCell _) (by unfold maxLen; simp only [List.length_nil]; omega) (by simp only [List.length_nil]; omega) O0.out.2 ?_))
    intro u1 w1 hown1 hgr1 _
    have HO1 : Hid (OwnS w1 w.heap.size u1 xs) := by
      have := OwnS.of (l := []) (m := xs) hown1 (by simp) (by simp [strs]) (Nat.le_trans O0.out.2 hgr1.size)
      show OwnS _ _ _ _
      simpa using this
    have HB1 : Hid (Below w.heap.size w w1) := BL.out.trans (O0.out.below hgr1)
    clear hown1 hgr1
    go_wp2_with fail
    go_loopw [5, 6] (fun ov iv wr => ∃ k : Nat, k ≤ n ∧ iv = .int .i64 k ∧ Hid (OwnS wr w.heap.size ov (onceS xs (ys.take k))) ∧ Below w.heap.size w wr) (fun _ iv _ => n - (intOf iv).toNat)
    case atStart => exact ⟨0, Nat.zero_le _, rfl, HO1.out, HB1.out⟩
    case round =>
      obtain ⟨k, hk, rfl, ho, hb⟩ := hrel
      have HB : Hid (Below w.heap.size w wr) := hb
      by_cases hlt : k < n
      · obtain ⟨y, hyk⟩ : ∃ y, ys[k]? = some y := ⟨ys[k]'(by rw [HN.out]; exact hlt), List.getElem?_eq_getElem _⟩
        obtain ⟨g, off, rfl, -, hgl, hat⟩ := HY.out (by intro h; rw [h] at hyk; simp at hyk)
        obtain ⟨cs, hcsl, hcs, rfl, -⟩ := hat k y hyk
        have a0 := hcs 0 (by omega)
        rw [← hb.cell (p := ⟨g, _, none⟩) hgl] at a0
        simp at a0
        have hki : (k : Int) < (n : Int) := by omega
        have hk0 : (0 : Int) ≤ (k : Int) := by omega
        have HJ : Hid (onceS xs (ys.take (k + 1)) = if hasS (onceS xs (ys.take k)) y then onceS xs (ys.take k) else onceS xs (ys.take k) ++ [y]) := by
          show _ = _
          rw [List.take_add_one, hyk]
          exact onceS_snoc xs (ys.take k) y
        have lq := LQ.out k
        have oq := OQ.out k
        have SR : Hid (StrR wr u5 (onceS xs (ys.take k))) := ho.out.strR oq
        generalize hJ0 : onceS xs (ys.take k) = J at *
        clear hb hcs hat hcsl oq hJ0
        cases hq : hasS J y with
        | true =>
          have HJ2 : Hid (onceS xs (ys.take (k + 1)) = J) := by show _ = _; rw [HJ.out, hq]; rfl
          go_wp2_with (first | (go_at_call 52; go_must (refine (hasS_any _ _ _ _ SR.out).mono ?_; rintro e w9 ⟨rfl, hw9⟩; rw [hq, hw9]; clear hw9 w9)))
          exact ⟨⟨k + 1, by omega, by go_num, by show OwnS _ _ _ _; rw [HJ2.out]; exact ho.out, HB.out⟩, by simp [intOf]; omega⟩
        | false =>
          have HJ2 : Hid (onceS xs (ys.take (k + 1)) = J ++ [y]) := by show _ = _; rw [HJ.out, hq]; rfl
          have OA : Hid (OwnS (wr.alloc (.cells #[.string y] 9)) w.heap.size u5 J) := ho.out.next ((Below.refl _ _).alloc (Nat.le_refl _) _)
          have N1 : Hid (∀ j u, (strs [y])[j]? = some u → (wr.alloc (.cells #[.string y] 9)).cell? ((⟨wr.heap.size, 0, none⟩ : Addr).add j) = some u) := one_str wr y _ rfl
          have BA : Hid (Below w.heap.size w (wr.alloc (.cells #[.string y] 9))) := HB.out.alloc HB.out.size _
          go_wp2_with (first | (go_at_call 52; go_must (refine (hasS_any _ _ _ _ SR.out).mono ?_; rintro e w9 ⟨rfl, hw9⟩; rw [hq, hw9]; clear hw9 w9)) | (at_builtin; refine wpList_append_own _ rfl _ _ 44 rfl w.heap.size 9 i (.string ⟨#[]⟩) 1 16 Tryz.underlying44 hi hz0 hz1 hz2 rfl (by decide) u5 _ _ rfl OA.out.1 _ 1 1 (strs [y]) rfl rfl N1.out (strs_oneCell _) (by unfold maxLen; omega) (by omega) OA.out.2 ?_))
          intro u2 w2 hown2 hgr2 _
          have HO2 : Hid (OwnS w2 w.heap.size u2 (J ++ [y])) := OwnS.of hown2 (by simp) rfl (Nat.le_trans OA.out.2 hgr2.size)
          have HB2 : Hid (Below w.heap.size w w2) := BA.out.trans (OA.out.below hgr2)
          clear hown2 hgr2
          go_wp2_with fail
          exact ⟨⟨k + 1, by omega, by go_num, by show OwnS _ _ _ _; rw [HJ2.out]; exact HO2.out, HB2.out⟩, by simp [intOf]; omega⟩
      · have HS : Hid (OwnS wr w.heap.size u5 (onceS xs ys)) := by
          have := ho.out
          rwa [List.take_of_length_le (by rw [HN.out]; omega)] at this
        clear hb
        go_wp2_with fail
        go_ret
        exact ⟨u5, rfl, HS.out, HB.out⟩
end Go.Proofs.YtpkhblhcdnohmaaGreatDoor
/-
  The specification's chapter 4, by contract: l04PatVars.
-/
namespace Go.Proofs.YtpkhblhcdnohmaaGreatDoor
open Go.ChangeShapes Go.WideShapes Go.ChangeAt Go.RowKit
set_option linter.unusedVariables false

theorem OwnS.base {w : World} {B B' : Nat} {v : Value} {l : List ByteArray} (h : OwnS w B v l) (hB : B' ≤ B) : OwnS w B' v l := by
  refine ⟨⟨h.1.1, ?_⟩, Nat.le_trans hB h.2⟩
  rcases h.1.2 with hn | ⟨g, cap, cur, hv, hb, hr⟩
  · exact .inl hn
  · exact .inr ⟨g, cap, cur, hv, Nat.le_trans hB hb, hr⟩

/-- A function of an expression that answers names, in new memory. -/
def NmC (F : FuncId) (d : Nat) (f : Ex → List ByteArray) : Prop :=
  ∀ (w : World) (cs : List Value) (x : Ex), HEx w All d cs x → wtEx d x ≤ 1048576 → Calls Tryz.prog F #[.agg cs.toArray] w fun e w' => ∃ u, e = .returned u ∧ OwnS w' w.heap.size u (f x) ∧ Below w.heap.size w w'

set_option maxHeartbeats 8000000 in
set_option maxRecDepth 100000 in
theorem patVars_of {d : Nat} (hE : NmC 35 d (patV d)) : NmC 35 (d + 1) (patV (d + 1)) := by
  intro w cs x h hwt
  have hok := h.txts
  obtain ⟨kv, cv, rfl, -, -, hts, hms, f0, -⟩ := h
  obtain ⟨kx, nx, tx, mx, ks, cl⟩ := x
  simp only [Ex.kind, Ex.n, Ex.text, Ex.mod, Ex.kids] at *
  have hw : wtEx (d + 1) (.mk kx nx tx mx ks cl) = tx.size + mx.size + wtS (wtEx d) ks + wtS (wtCl (wtEx d)) cl := rfl
  have wks : wtS (wtEx d) ks ≤ 1048576 := by omega
  obtain ⟨p, cap, rfl, hcl, hcm, hx⟩ := f0
  have hnb : ks.length ≤ 9223372036854775807 := by unfold maxLen at hcm; omega
  obtain ⟨i, hi, hz0, hz1, hz2⟩ := info_parts info_str
  have hpv : patV (d + 1) (.mk kx nx tx mx ks cl) = foldV (patV d) (if kx = 2 then [tx] else []) ks := rfl
  rw [hpv]
  have hl0 : (if kx = 2 then [tx] else ([] : List ByteArray)).length ≤ 1 := by split <;> simp
  have ok0 : ∀ s ∈ (if kx = 2 then [tx] else ([] : List ByteArray)), okS s := fun s hs => by
    split at hs
    · simp at hs; subst hs; exact hts
    · simp at hs
  have LQ : Hid (∀ k, (foldV (patV d) (if kx = 2 then [tx] else []) (ks.take k)).length ≤ 1048577) := fun k => by
    have h1 := foldV_len (patV d) (wtEx d) (ks.take k) (if kx = 2 then [tx] else []) (fun y _ => patV_len d y)
    have h2 : wtS (wtEx d) (ks.take k) ≤ wtS (wtEx d) ks := by
      have h3 := sum_take_le (wtEx d) ks k
      have h4 : (ks.take k).length ≤ ks.length := by rw [List.length_take]; omega
      unfold wtS; omega
    omega
  have OQ : Hid (∀ k, ∀ s ∈ foldV (patV d) (if kx = 2 then [tx] else []) (ks.take k), okS s) := fun k s hs => by
    rcases foldV_mem _ _ _ s hs with h | ⟨y, hy, h⟩
    · exact ok0 s h
    · exact patV_ok d y (hok.2.1 y (List.mem_of_mem_take hy)) s h
  have BX : Hid (∀ k x, ks[k]? = some x → wtEx d x ≤ 1048576 ∧ exS d x ∧ (patV d x).length ≤ 1048577) := fun k x hk => by
    have h1 := sum_take_succ (wtEx d) ks k x hk
    have h2 := sum_take_le (wtEx d) ks (k + 1)
    have h3 := patV_len d x
    have h4 : wtEx d x ≤ 1048576 := by unfold wtS at wks; omega
    exact ⟨h4, hok.2.1 x (List.mem_of_getElem? hk), by omega⟩
  generalize hn : ks.length = n at *
  have HN : Hid (ks.length = n) := hn
  have HX : Hid (ks ≠ [] → ∃ g off, p = some ⟨g, off, none⟩ ∧ All g ∧ g < w.heap.size ∧ ∀ i x, ks[i]? = some x → ∃ cs, cs.length = 6 ∧ (∀ j, j < 6 → w.cell? ⟨g, off + i * 6 + j, none⟩ = cs[j]?) ∧ HEx w All d cs x) := hx
  obtain ⟨W1, hW1⟩ : ∃ W1, W1 = w.alloc (.cells #[.int .i64 kx, .int .i64 nx, .string tx, .string mx, .slice p n cap, cv] 73) := ⟨_, rfl⟩
  have bA : Hid (Blk W1 w.heap.size #[.int .i64 kx, .int .i64 nx, .string tx, .string mx, .slice p n cap, cv] 73) := by show Blk _ _ _ _; rw [hW1]; exact Blk.new
  have B1 : Hid (Below w.heap.size w W1) := by show Below _ _ _; rw [hW1]; exact (Below.refl _ _).alloc (Nat.le_refl _) _
  have hs1 : W1.heap.size = w.heap.size + 1 := by rw [hW1]; simp
  have HW1 : Hid (W1 = w.alloc (.cells #[.int .i64 kx, .int .i64 nx, .string tx, .string mx, .slice p n cap, cv] 73)) := hW1
  have O1 : Hid (OwnS (W1.alloc (.cells #[] 9)) (w.heap.size + 1) (.slice (some ⟨w.heap.size + 1, 0, none⟩) 0 0) []) := by
    have := OwnS.fresh (w := W1)
    rwa [hs1] at this
  have BB : Hid (Below w.heap.size w (W1.alloc (.cells #[] 9))) := B1.out.alloc B1.out.size _
  have bB : Hid (Blk (W1.alloc (.cells #[] 9)) w.heap.size #[.int .i64 kx, .int .i64 nx, .string tx, .string mx, .slice p n cap, cv] 73) := bA.out.alloc
  clear hx hn hok ok0 hw hwt hW1 hpv
  by_cases k2 : kx = 2
  · subst k2
    simp only [if_true] at LQ OQ ⊢
    have O2 : Hid (OwnS ((W1.alloc (.cells #[] 9)).alloc (.cells #[.string tx] 9)) (w.heap.size + 1) (.slice (some ⟨w.heap.size + 1, 0, none⟩) 0 0) []) := O1.out.next ((Below.refl _ _).alloc (Nat.le_refl _) _)
    have N1 : Hid (∀ j u, (strs [tx])[j]? = some u → ((W1.alloc (.cells #[] 9)).alloc (.cells #[.string tx] 9)).cell? ((⟨w.heap.size + 1 + 1, 0, none⟩ : Addr).add j) = some u) := one_str _ tx _ (by simp only [alloc_hs]; omega)
    have B2 : Hid (Below w.heap.size w ((W1.alloc (.cells #[] 9)).alloc (.cells #[.string tx] 9))) := BB.out.alloc BB.out.size _
    have bC : Hid (Blk ((W1.alloc (.cells #[] 9)).alloc (.cells #[.string tx] 9)) w.heap.size #[.int .i64 2, .int .i64 nx, .string tx, .string mx, .slice p n cap, cv] 73) := bB.out.alloc
    have y0 := bB.out.cell 0 _ rfl
    have y2 := bB.out.cell 2 _ rfl
    go_enter Tryz.func35, Tryz.ntmps35
    go_wp2_with (first | (at_builtin; rw [← HW1.out]; refine wpList_append_own _ rfl _ _ 44 rfl (w.heap.size + 1) 9 i (.string ⟨#[]⟩) 1 16 Tryz.underlying44 hi hz0 hz1 hz2 rfl (by decide) (.slice (some ⟨w.heap.size + 1, 0, none⟩) 0 0) _ _ rfl O2.out.1 ⟨w.heap.size + 1 + 1, 0, none⟩ 1 1 (strs [tx]) rfl rfl N1.out (strs_oneCell _) (by unfold maxLen; simp) (by simp) O2.out.2 ?_))
    intro u2 w2 hown2 hgr2 _
    have HO2 : Hid (OwnS w2 w.heap.size u2 [tx]) := by
      have := OwnS.of (l := []) (m := [tx]) hown2 (by simp) rfl (Nat.le_trans O2.out.2 hgr2.size)
      exact OwnS.base (by simpa using this) (by omega)
    have bD : Hid (Blk w2 w.heap.size #[.int .i64 2, .int .i64 nx, .string tx, .string mx, .slice p n cap, cv] 73) := O2.out.blk hgr2 bC.out (by simp [Value.ownBlock])
    have HB2 : Hid (Below w.heap.size w w2) := B2.out.trans ((O2.out.below hgr2).mono (by omega))
    clear hown2 hgr2 y0 y2
    go_wp2_with fail
    go_loopw [3, 4] (fun ov iv wr => ∃ k : Nat, k ≤ n ∧ iv = .int .i64 k ∧ Hid (OwnS wr w.heap.size ov (foldV (patV d) [tx] (ks.take k))) ∧ Hid (Blk wr w.heap.size #[.int .i64 2, .int .i64 nx, .string tx, .string mx, .slice p n cap, cv] 73) ∧ Below w.heap.size w wr) (fun _ iv _ => n - (intOf iv).toNat)
    case atStart => exact ⟨0, Nat.zero_le _, rfl, HO2.out, bD.out, HB2.out⟩
    case round =>
      obtain ⟨k, hk, rfl, ho, hbk, hb⟩ := hrel
      have HB : Hid (Below w.heap.size w wr) := hb
      have xa4 := hbk.out.cell 4 _ rfl
      by_cases hlt : k < n
      · obtain ⟨x, hxk⟩ : ∃ x, ks[k]? = some x := ⟨ks[k]'(by rw [HN.out]; exact hlt), List.getElem?_eq_getElem _⟩
        obtain ⟨g, off, rfl, -, hgl, hat⟩ := HX.out (by intro h; rw [h] at hxk; simp at hxk)
        obtain ⟨cs, hcsl, hcs, r1⟩ := hat k x hxk
        have E1 : ∀ w', Below w.heap.size w w' → HEx w' All d cs x := fun w' hw => r1.mono (SameOn.of_below hw) (fun _ h => h)
        obtain ⟨c0, c1, c2, c3, c4, c5, rfl⟩ := len6 hcsl
        have a0 := hcs 0 (by omega)
        have a1 := hcs 1 (by omega)
        have a2 := hcs 2 (by omega)
        have a3 := hcs 3 (by omega)
        have a4 := hcs 4 (by omega)
        have a5 := hcs 5 (by omega)
        rw [← hb.cell (p := ⟨g, _, none⟩) hgl] at a0 a1 a2 a3 a4 a5
        simp at a0 a1 a2 a3 a4 a5
        have hki : (k : Int) < (n : Int) := by omega
        have hk0 : (0 : Int) ≤ (k : Int) := by omega
        obtain ⟨wx, sx, lx⟩ := BX.out k x hxk
        have HJ : Hid (foldV (patV d) [tx] (ks.take (k + 1)) = onceS (foldV (patV d) [tx] (ks.take k)) (patV d x)) := foldV_snoc _ _ ks k x hxk
        have lq := LQ.out k
        have oq := OQ.out k
        generalize hJ0 : foldV (patV d) [tx] (ks.take k) = J at *
        clear hb hcs hat hcsl r1 hJ0
        go_wp2_with fail
        refine (hE _ _ x (E1 _ HB.out) wx).mono ?_
        rintro e w4 ⟨u4, rfl, ho4, hb4⟩
        have HB4 : Hid (Below w.heap.size w w4) := HB.out.trans (hb4.mono HB.out.size)
        have SV : Hid (StrV w4 u3 J) := (ho.out.next hb4).strV oq
        have SR : Hid (StrR w4 u4 (patV d x)) := ho4.strR (patV_ok d x sx)
        have bk4 : Hid (Blk w4 w.heap.size #[.int .i64 2, .int .i64 nx, .string tx, .string mx, .slice (some ⟨g, off, none⟩) n cap, cv] 73) := hbk.out.next hb4
        clear hb4 ho4 xa4 a0 a1 a2 a3 a4 a5
        go_wp2_with fail
        refine (once_any _ _ _ J (patV d x) SV.out SR.out (by omega)).mono ?_
        rintro e w5 ⟨u5, rfl, ho5, hb5⟩
        have HB5 : Hid (Below w.heap.size w w5) := HB4.out.trans (hb5.mono HB4.out.size)
        have HO5 : Hid (OwnS w5 w.heap.size u5 (onceS J (patV d x))) := ho5.base HB4.out.size
        have bk5 : Hid (Blk w5 w.heap.size #[.int .i64 2, .int .i64 nx, .string tx, .string mx, .slice (some ⟨g, off, none⟩) n cap, cv] 73) := bk4.out.next hb5
        clear hb5 ho5
        go_wp2_with fail
        exact ⟨⟨k + 1, by omega, by go_num, by show OwnS _ _ _ _; rw [HJ.out]; exact HO5.out, bk5.out, HB5.out⟩, by simp [intOf]; omega⟩
      · have HS : Hid (OwnS wr w.heap.size u3 (foldV (patV d) [tx] ks)) := by
          have := ho.out
          rwa [List.take_of_length_le (by rw [HN.out]; omega)] at this
        clear hb
        go_wp2_with fail
        go_ret
        exact ⟨u3, rfl, HS.out, HB.out⟩
  · have L2 : (if kx = 2 then [tx] else ([] : List ByteArray)) = [] := if_neg k2
    simp only [L2] at LQ OQ ⊢
    clear L2
    have k2b : (kx == 2) = false := by simpa using k2
    have O9 : Hid (OwnS (W1.alloc (.cells #[] 9)) w.heap.size (.slice (some ⟨w.heap.size + 1, 0, none⟩) 0 0) []) := O1.out.base (by omega)
    have y0 := bA.out.cell 0 _ rfl
    go_enter Tryz.func35, Tryz.ntmps35
    go_wp2_with fail
    rw [← HW1.out]
    go_loopw [3, 4] (fun ov iv wr => ∃ k : Nat, k ≤ n ∧ iv = .int .i64 k ∧ Hid (OwnS wr w.heap.size ov (foldV (patV d) [] (ks.take k))) ∧ Hid (Blk wr w.heap.size #[.int .i64 kx, .int .i64 nx, .string tx, .string mx, .slice p n cap, cv] 73) ∧ Below w.heap.size w wr) (fun _ iv _ => n - (intOf iv).toNat)
    case atStart => exact ⟨0, Nat.zero_le _, rfl, O9.out, bB.out, BB.out⟩
    case round =>
      obtain ⟨k, hk, rfl, ho, hbk, hb⟩ := hrel
      have HB : Hid (Below w.heap.size w wr) := hb
      have xa4 := hbk.out.cell 4 _ rfl
      by_cases hlt : k < n
      · obtain ⟨x, hxk⟩ : ∃ x, ks[k]? = some x := ⟨ks[k]'(by rw [HN.out]; exact hlt), List.getElem?_eq_getElem _⟩
        obtain ⟨g, off, rfl, -, hgl, hat⟩ := HX.out (by intro h; rw [h] at hxk; simp at hxk)
        obtain ⟨cs, hcsl, hcs, r1⟩ := hat k x hxk
        have E1 : ∀ w', Below w.heap.size w w' → HEx w' All d cs x := fun w' hw => r1.mono (SameOn.of_below hw) (fun _ h => h)
        obtain ⟨c0, c1, c2, c3, c4, c5, rfl⟩ := len6 hcsl
        have a0 := hcs 0 (by omega)
        have a1 := hcs 1 (by omega)
        have a2 := hcs 2 (by omega)
        have a3 := hcs 3 (by omega)
        have a4 := hcs 4 (by omega)
        have a5 := hcs 5 (by omega)
        rw [← hb.cell (p := ⟨g, _, none⟩) hgl] at a0 a1 a2 a3 a4 a5
        simp at a0 a1 a2 a3 a4 a5
        have hki : (k : Int) < (n : Int) := by omega
        have hk0 : (0 : Int) ≤ (k : Int) := by omega
        obtain ⟨wx, sx, lx⟩ := BX.out k x hxk
        have HJ : Hid (foldV (patV d) [] (ks.take (k + 1)) = onceS (foldV (patV d) [] (ks.take k)) (patV d x)) := foldV_snoc _ _ ks k x hxk
        have lq := LQ.out k
        have oq := OQ.out k
        generalize hJ0 : foldV (patV d) [] (ks.take k) = J at *
        clear hb hcs hat hcsl r1 hJ0
        go_wp2_with fail
        refine (hE _ _ x (E1 _ HB.out) wx).mono ?_
        rintro e w4 ⟨u4, rfl, ho4, hb4⟩
        have HB4 : Hid (Below w.heap.size w w4) := HB.out.trans (hb4.mono HB.out.size)
        have SV : Hid (StrV w4 u3 J) := (ho.out.next hb4).strV oq
        have SR : Hid (StrR w4 u4 (patV d x)) := ho4.strR (patV_ok d x sx)
        have bk4 : Hid (Blk w4 w.heap.size #[.int .i64 kx, .int .i64 nx, .string tx, .string mx, .slice (some ⟨g, off, none⟩) n cap, cv] 73) := hbk.out.next hb4
        clear hb4 ho4 xa4 a0 a1 a2 a3 a4 a5
        go_wp2_with fail
        refine (once_any _ _ _ J (patV d x) SV.out SR.out (by omega)).mono ?_
        rintro e w5 ⟨u5, rfl, ho5, hb5⟩
        have HB5 : Hid (Below w.heap.size w w5) := HB4.out.trans (hb5.mono HB4.out.size)
        have HO5 : Hid (OwnS w5 w.heap.size u5 (onceS J (patV d x))) := ho5.base HB4.out.size
        have bk5 : Hid (Blk w5 w.heap.size #[.int .i64 kx, .int .i64 nx, .string tx, .string mx, .slice (some ⟨g, off, none⟩) n cap, cv] 73) := bk4.out.next hb5
        clear hb5 ho5
        go_wp2_with fail
        exact ⟨⟨k + 1, by omega, by go_num, by show OwnS _ _ _ _; rw [HJ.out]; exact HO5.out, bk5.out, HB5.out⟩, by simp [intOf]; omega⟩
      · have HS : Hid (OwnS wr w.heap.size u3 (foldV (patV d) [] ks)) := by
          have := ho.out
          rwa [List.take_of_length_le (by rw [HN.out]; omega)] at this
        clear hb
        go_wp2_with fail
        go_ret
        exact ⟨u3, rfl, HS.out, HB.out⟩

theorem patVars_all : ∀ d, NmC 35 d (patV d)
  | 0 => fun w cs x h _ => h.elim
  | d + 1 => patVars_of (patVars_all d)
end Go.Proofs.YtpkhblhcdnohmaaGreatDoor
/-
  The specification's chapter 4, by contract: Bound.
-/
namespace Go.Proofs.YtpkhblhcdnohmaaGreatDoor
open Go.ChangeShapes Go.WideShapes Go.ChangeAt Go.RowKit
set_option linter.unusedVariables false

theorem bndV_two (d : Nat) (n : Int) (t m : ByteArray) (a b : Ex) (cs : List Cl) : bndV (d + 1) (.mk 9 n t m [a, b] cs) = onceS (bndV d b) (patV d a) := rfl
theorem bndV_else (d : Nat) (k n : Int) (t m : ByteArray) (ks : List Ex) (cs : List Cl) (h : ¬ (k = 9 ∧ ks.length = 2)) : bndV (d + 1) (.mk k n t m ks cs) = foldV (bndV d) [] ks := by
  unfold bndV
  split
  · simp at h
  · rfl
theorem bndV_len : ∀ (d : Nat) (x : Ex), (bndV d x).length ≤ 1 + wtEx d x
  | 0, _ => by simp [bndV]
  | d + 1, .mk k n t m ks cs => by
    have hw : wtEx (d + 1) (.mk k n t m ks cs) = t.size + m.size + wtS (wtEx d) ks + wtS (wtCl (wtEx d)) cs := rfl
    by_cases h : k = 9 ∧ ks.length = 2
    · obtain ⟨rfl, h2⟩ := h
      match ks, h2 with
      | [a, b], _ =>
        have h3 := onceS_length (bndV d b) (patV d a)
        have h4 := bndV_len d b
        have h5 := patV_len d a
        have h6 : wtS (wtEx d) [a, b] = 2 + (wtEx d a + wtEx d b) := by simp [wtS]
        rw [bndV_two, hw]; omega
    · have h1 := foldV_len (bndV d) (wtEx d) ks [] (fun y _ => bndV_len d y)
      rw [bndV_else d k n t m ks cs h, hw]
      simp only [List.length_nil] at h1
      omega
theorem bndV_ok : ∀ (d : Nat) (x : Ex), exS d x → ∀ s ∈ bndV d x, okS s
  | 0, _, h, _, _ => h.elim
  | d + 1, .mk k n t m ks cs, hx, s, hs => by
    by_cases h : k = 9 ∧ ks.length = 2
    · obtain ⟨rfl, h2⟩ := h
      match ks, h2 with
      | [a, b], _ =>
        rw [bndV_two] at hs
        rcases onceS_mem _ _ s hs with h1 | h1
        · exact bndV_ok d b (hx.2.1 b (by simp)) s h1
        · exact patV_ok d a (hx.2.1 a (by simp)) s h1
    · rw [bndV_else d k n t m ks cs h] at hs
      rcases foldV_mem _ _ _ s hs with h1 | ⟨y, hy, h1⟩
      · simp at h1
      · exact bndV_ok d y (hx.2.1 y hy) s h1

set_option maxHeartbeats 8000000 in
set_option maxRecDepth 100000 in
theorem bound_of {d : Nat} (hE : NmC 54 d (bndV d)) : NmC 54 (d + 1) (bndV (d + 1)) := by
  intro w cs x h hwt
  have hok := h.txts
  obtain ⟨kv, cv, rfl, -, -, hts, hms, f0, -⟩ := h
  obtain ⟨kx, nx, tx, mx, ks, cl⟩ := x
  simp only [Ex.kind, Ex.n, Ex.text, Ex.mod, Ex.kids] at *
  have hw : wtEx (d + 1) (.mk kx nx tx mx ks cl) = tx.size + mx.size + wtS (wtEx d) ks + wtS (wtCl (wtEx d)) cl := rfl
  have wks : wtS (wtEx d) ks ≤ 1048576 := by omega
  obtain ⟨p, cap, rfl, hcl, hcm, hx⟩ := f0
  have hnb : ks.length ≤ 9223372036854775807 := by unfold maxLen at hcm; omega
  obtain ⟨i, hi, hz0, hz1, hz2⟩ := info_parts info_str
  have LQ : Hid (∀ k, (foldV (bndV d) [] (ks.take k)).length ≤ 1048577) := fun k => by
    have h1 := foldV_len (bndV d) (wtEx d) (ks.take k) [] (fun y _ => bndV_len d y)
    have h2 : wtS (wtEx d) (ks.take k) ≤ wtS (wtEx d) ks := by
      have h3 := sum_take_le (wtEx d) ks k
      have h4 : (ks.take k).length ≤ ks.length := by rw [List.length_take]; omega
      unfold wtS; omega
    simp only [List.length_nil] at h1
    omega
  have OQ : Hid (∀ k, ∀ s ∈ foldV (bndV d) [] (ks.take k), okS s) := fun k s hs => by
    rcases foldV_mem _ _ _ s hs with h | ⟨y, hy, h⟩
    · simp at h
    · exact bndV_ok d y (hok.2.1 y (List.mem_of_mem_take hy)) s h
  have BX : Hid (∀ k x, ks[k]? = some x → wtEx d x ≤ 1048576 ∧ exS d x ∧ (bndV d x).length ≤ 1048577) := fun k x hk => by
    have h1 := sum_take_succ (wtEx d) ks k x hk
    have h2 := sum_take_le (wtEx d) ks (k + 1)
    have h3 := bndV_len d x
    have h4 : wtEx d x ≤ 1048576 := by unfold wtS at wks; omega
    exact ⟨h4, hok.2.1 x (List.mem_of_getElem? hk), by omega⟩
  by_cases h92 : kx = 9 ∧ ks.length = 2
  · obtain ⟨rfl, hn2⟩ := h92
    obtain ⟨ya, yb, rfl⟩ : ∃ a b, ks = [a, b] := by
      match ks, hn2 with
      | [a, b], _ => exact ⟨a, b, rfl⟩
    rw [bndV_two]
    obtain ⟨wa, sa, -⟩ := BX.out 0 ya rfl
    obtain ⟨wb, sb, lb⟩ := BX.out 1 yb rfl
    have la : (patV d ya).length ≤ 1048577 := by have := patV_len d ya; omega
    obtain ⟨g, off, rfl, -, hgl, hat⟩ := hx (by simp)
    obtain ⟨cs, hcsl, hcs, ra⟩ := hat 0 ya rfl
    obtain ⟨cs', hcsl', hcs', rb⟩ := hat 1 yb rfl
    simp only [List.length_cons, List.length_nil] at *
    obtain ⟨W1, hW1⟩ : ∃ W1, W1 = w.alloc (.cells #[.int .i64 9, .int .i64 nx, .string tx, .string mx, .slice (some ⟨g, off, none⟩) 2 cap, cv] 73) := ⟨_, rfl⟩
    have bA : Hid (Blk W1 w.heap.size #[.int .i64 9, .int .i64 nx, .string tx, .string mx, .slice (some ⟨g, off, none⟩) 2 cap, cv] 73) := by show Blk _ _ _ _; rw [hW1]; exact Blk.new
    have B1 : Hid (Below w.heap.size w W1) := by show Below _ _ _; rw [hW1]; exact (Below.refl _ _).alloc (Nat.le_refl _) _
    have HW1 : Hid (W1 = w.alloc (.cells #[.int .i64 9, .int .i64 nx, .string tx, .string mx, .slice (some ⟨g, off, none⟩) 2 cap, cv] 73)) := hW1
    have EA : ∀ w', Below w.heap.size w w' → HEx w' All d cs ya := fun w' hw => ra.mono (SameOn.of_below hw) (fun _ h => h)
    have EB : ∀ w', Below w.heap.size w w' → HEx w' All d cs' yb := fun w' hw => rb.mono (SameOn.of_below hw) (fun _ h => h)
    obtain ⟨c0, c1, c2, c3, c4, c5, rfl⟩ := len6 hcsl
    obtain ⟨e0, e1, e2, e3, e4, e5, rfl⟩ := len6 hcsl'
    have ca0 := hcs 0 (by omega)
    have cb0 := hcs' 0 (by omega)
    have ca1 := hcs 1 (by omega)
    have cb1 := hcs' 1 (by omega)
    have ca2 := hcs 2 (by omega)
    have cb2 := hcs' 2 (by omega)
    have ca3 := hcs 3 (by omega)
    have cb3 := hcs' 3 (by omega)
    have ca4 := hcs 4 (by omega)
    have cb4 := hcs' 4 (by omega)
    have ca5 := hcs 5 (by omega)
    have cb5 := hcs' 5 (by omega)
    rw [← B1.out.cell (p := ⟨g, _, none⟩) hgl] at ca0 cb0 ca1 cb1 ca2 cb2 ca3 cb3 ca4 cb4 ca5 cb5
    simp at ca0 cb0 ca1 cb1 ca2 cb2 ca3 cb3 ca4 cb4 ca5 cb5
    have x4 := bA.out.cell 4 _ rfl
    clear hx hat hcs hcs' hcsl hcsl' ra rb LQ OQ BX hok hw hwt hW1
    go_enter Tryz.func54, Tryz.ntmps54
    go_wp2_with fail
    rw [← HW1.out]
    go_region_held3 (fun w' => w'.cell? ⟨w.heap.size, 4, none⟩ = some (.slice (some ⟨g, off, none⟩) 2 cap) ∧ w'.cell? ⟨g, off, none⟩ = some c0 ∧ w'.cell? ⟨g, off + 1, none⟩ = some c1 ∧ w'.cell? ⟨g, off + 2, none⟩ = some c2 ∧ w'.cell? ⟨g, off + 3, none⟩ = some c3 ∧ w'.cell? ⟨g, off + 4, none⟩ = some c4 ∧ w'.cell? ⟨g, off + 5, none⟩ = some c5 ∧ w'.cell? ⟨g, off + 6, none⟩ = some e0 ∧ w'.cell? ⟨g, off + 6 + 1, none⟩ = some e1 ∧ w'.cell? ⟨g, off + 6 + 2, none⟩ = some e2 ∧ w'.cell? ⟨g, off + 6 + 3, none⟩ = some e3 ∧ w'.cell? ⟨g, off + 6 + 4, none⟩ = some e4 ∧ w'.cell? ⟨g, off + 6 + 5, none⟩ = some e5)
      (first | go_keep | (go_split_ands; refine ⟨?_, ?_, ?_, ?_, ?_, ?_, ?_, ?_, ?_, ?_, ?_, ?_, ?_⟩ <;> exact cell_next hb (by assumption)))
      (first
        | (go_at_call 54; refine (hE _ _ yb (EB _ (by exact B1.out.drew)) wb).mono ?_; rintro e w4 ⟨u4, rfl, ho4, hb⟩; have K4 : Hid (Below W1.heap.size W1 w4) := ⟨hb.os, hb.tape, hb.output, hb.size, hb.block⟩; have G4 : Hid (OwnS w4 W1.heap.size u4 (bndV d yb)) := ho4; clear ho4)
        | (go_at_call 35; refine (patVars_all d _ _ ya (EA _ (by exact B1.out.trans (K4.out.mono B1.out.size))) wa).mono ?_; rintro e w5 ⟨u5, rfl, ho5, hb⟩; have K5 : Hid (Below w4.heap.size w4 w5) := hb; have G5 : Hid (StrR w5 u5 (patV d ya)) := ho5.strR (patV_ok d ya sa); have G4b : Hid (StrV w5 u4 (bndV d yb)) := (G4.out.next hb).strV (bndV_ok d yb sb); clear ho5)
        | (go_at_call 34; refine (once_any _ _ _ _ _ G4b.out G5.out (by omega)).mono ?_; rintro e w6 ⟨u6, rfl, ho6, hb⟩; have K6 : Hid (Below w5.heap.size w5 w6) := hb; have G6 : Hid (OwnS w6 w5.heap.size u6 (onceS (bndV d yb) (patV d ya))) := ho6; clear ho6))
    go_split_ands
    have BZ : Hid (Below w.heap.size w w5) := (B1.out.trans (K4.out.mono B1.out.size)).trans (K5.out.mono (B1.out.trans (K4.out.mono B1.out.size)).size)
    have BY : Hid (Below w.heap.size w w6) := BZ.out.trans (K6.out.mono BZ.out.size)
    go_wp2_with fail
    go_ret
    exact ⟨u6, rfl, G6.out.base BZ.out.size, BY.out⟩
  · rw [bndV_else d kx nx tx mx ks cl h92]
    generalize hn : ks.length = n at *
    have HN : Hid (ks.length = n) := hn
    have HX : Hid (ks ≠ [] → ∃ g off, p = some ⟨g, off, none⟩ ∧ All g ∧ g < w.heap.size ∧ ∀ i x, ks[i]? = some x → ∃ cs, cs.length = 6 ∧ (∀ j, j < 6 → w.cell? ⟨g, off + i * 6 + j, none⟩ = cs[j]?) ∧ HEx w All d cs x) := hx
    obtain ⟨W1, hW1⟩ : ∃ W1, W1 = w.alloc (.cells #[.int .i64 kx, .int .i64 nx, .string tx, .string mx, .slice p n cap, cv] 73) := ⟨_, rfl⟩
    have bA : Hid (Blk W1 w.heap.size #[.int .i64 kx, .int .i64 nx, .string tx, .string mx, .slice p n cap, cv] 73) := by show Blk _ _ _ _; rw [hW1]; exact Blk.new
    have B1 : Hid (Below w.heap.size w W1) := by show Below _ _ _; rw [hW1]; exact (Below.refl _ _).alloc (Nat.le_refl _) _
    have hs1 : W1.heap.size = w.heap.size + 1 := by rw [hW1]; simp
    have HW1 : Hid (W1 = w.alloc (.cells #[.int .i64 kx, .int .i64 nx, .string tx, .string mx, .slice p n cap, cv] 73)) := hW1
    have O9 : Hid (OwnS (W1.alloc (.cells #[] 9)) w.heap.size (.slice (some ⟨w.heap.size + 1, 0, none⟩) 0 0) []) := by
      have := (OwnS.fresh (w := W1)).base B1.out.size
      rwa [hs1] at this
    have BBB : Hid (Below w.heap.size w (W1.alloc (.cells #[] 9))) := B1.out.alloc B1.out.size _
    have bB : Hid (Blk (W1.alloc (.cells #[] 9)) w.heap.size #[.int .i64 kx, .int .i64 nx, .string tx, .string mx, .slice p n cap, cv] 73) := bA.out.alloc
    clear hx hn hok hw hwt hW1
    by_cases k9 : kx = 9
    · subst k9
      have hn2 : ¬ n = 2 := fun h => h92 ⟨rfl, h⟩
      have hn2b : ((n : Int) == 2) = false := by simp; omega
      clear h92
      go_enter Tryz.func54, Tryz.ntmps54
      go_wp2_with fail
      rw [← HW1.out]
      go_loopw [3, 4] (fun ov iv wr => ∃ k : Nat, k ≤ n ∧ iv = .int .i64 k ∧ Hid (OwnS wr w.heap.size ov (foldV (bndV d) [] (ks.take k))) ∧ Hid (Blk wr w.heap.size #[.int .i64 9, .int .i64 nx, .string tx, .string mx, .slice p n cap, cv] 73) ∧ Below w.heap.size w wr) (fun _ iv _ => n - (intOf iv).toNat)
      case atStart => exact ⟨0, Nat.zero_le _, rfl, O9.out, bB.out, BBB.out⟩
      case round =>
        obtain ⟨k, hk, rfl, ho, hbk, hb⟩ := hrel
        have HB : Hid (Below w.heap.size w wr) := hb
        have xa4 := hbk.out.cell 4 _ rfl
        by_cases hlt : k < n
        · obtain ⟨x, hxk⟩ : ∃ x, ks[k]? = some x := ⟨ks[k]'(by rw [HN.out]; exact hlt), List.getElem?_eq_getElem _⟩
          obtain ⟨g, off, rfl, -, hgl, hat⟩ := HX.out (by intro h; rw [h] at hxk; simp at hxk)
          obtain ⟨cs, hcsl, hcs, r1⟩ := hat k x hxk
          have E1 : ∀ w', Below w.heap.size w w' → HEx w' All d cs x := fun w' hw => r1.mono (SameOn.of_below hw) (fun _ h => h)
          obtain ⟨c0, c1, c2, c3, c4, c5, rfl⟩ := len6 hcsl
          have a0 := hcs 0 (by omega)
          have a1 := hcs 1 (by omega)
          have a2 := hcs 2 (by omega)
          have a3 := hcs 3 (by omega)
          have a4 := hcs 4 (by omega)
          have a5 := hcs 5 (by omega)
          rw [← hb.cell (p := ⟨g, _, none⟩) hgl] at a0 a1 a2 a3 a4 a5
          simp at a0 a1 a2 a3 a4 a5
          have hki : (k : Int) < (n : Int) := by omega
          have hk0 : (0 : Int) ≤ (k : Int) := by omega
          obtain ⟨wx, sx, lx⟩ := BX.out k x hxk
          have HJ : Hid (foldV (bndV d) [] (ks.take (k + 1)) = onceS (foldV (bndV d) [] (ks.take k)) (bndV d x)) := foldV_snoc _ _ ks k x hxk
          have lq := LQ.out k
          have oq := OQ.out k
          generalize hJ0 : foldV (bndV d) [] (ks.take k) = J at *
          clear hb hcs hat hcsl r1 hJ0
          go_wp2_with fail
          refine (hE _ _ x (E1 _ HB.out) wx).mono ?_
          rintro e w4 ⟨u4, rfl, ho4, hb4⟩
          have HB4 : Hid (Below w.heap.size w w4) := HB.out.trans (hb4.mono HB.out.size)
          have SV : Hid (StrV w4 u3 J) := (ho.out.next hb4).strV oq
          have SR : Hid (StrR w4 u4 (bndV d x)) := ho4.strR (bndV_ok d x sx)
          have bk4 : Hid (Blk w4 w.heap.size #[.int .i64 9, .int .i64 nx, .string tx, .string mx, .slice (some ⟨g, off, none⟩) n cap, cv] 73) := hbk.out.next hb4
          clear hb4 ho4 xa4 a0 a1 a2 a3 a4 a5
          go_wp2_with fail
          refine (once_any _ _ _ J (bndV d x) SV.out SR.out (by omega)).mono ?_
          rintro e w5 ⟨u5, rfl, ho5, hb5⟩
          have HB5 : Hid (Below w.heap.size w w5) := HB4.out.trans (hb5.mono HB4.out.size)
          have HO5 : Hid (OwnS w5 w.heap.size u5 (onceS J (bndV d x))) := ho5.base HB4.out.size
          have bk5 : Hid (Blk w5 w.heap.size #[.int .i64 9, .int .i64 nx, .string tx, .string mx, .slice (some ⟨g, off, none⟩) n cap, cv] 73) := bk4.out.next hb5
          clear hb5 ho5
          go_wp2_with fail
          exact ⟨⟨k + 1, by omega, by go_num, by show OwnS _ _ _ _; rw [HJ.out]; exact HO5.out, bk5.out, HB5.out⟩, by simp [intOf]; omega⟩
        · have HS : Hid (OwnS wr w.heap.size u3 (foldV (bndV d) [] ks)) := by
            have := ho.out
            rwa [List.take_of_length_le (by rw [HN.out]; omega)] at this
          clear hb
          go_wp2_with fail
          go_ret
          exact ⟨u3, rfl, HS.out, HB.out⟩
    · have k9b : (kx == 9) = false := by simpa using k9
      clear h92
      go_enter Tryz.func54, Tryz.ntmps54
      go_wp2_with fail
      rw [← HW1.out]
      go_loopw [3, 4] (fun ov iv wr => ∃ k : Nat, k ≤ n ∧ iv = .int .i64 k ∧ Hid (OwnS wr w.heap.size ov (foldV (bndV d) [] (ks.take k))) ∧ Hid (Blk wr w.heap.size #[.int .i64 kx, .int .i64 nx, .string tx, .string mx, .slice p n cap, cv] 73) ∧ Below w.heap.size w wr) (fun _ iv _ => n - (intOf iv).toNat)
      case atStart => exact ⟨0, Nat.zero_le _, rfl, O9.out, bB.out, BBB.out⟩
      case round =>
        obtain ⟨k, hk, rfl, ho, hbk, hb⟩ := hrel
        have HB : Hid (Below w.heap.size w wr) := hb
        have xa4 := hbk.out.cell 4 _ rfl
        by_cases hlt : k < n
        · obtain ⟨x, hxk⟩ : ∃ x, ks[k]? = some x := ⟨ks[k]'(by rw [HN.out]; exact hlt), List.getElem?_eq_getElem _⟩
          obtain ⟨g, off, rfl, -, hgl, hat⟩ := HX.out (by intro h; rw [h] at hxk; simp at hxk)
          obtain ⟨cs, hcsl, hcs, r1⟩ := hat k x hxk
          have E1 : ∀ w', Below w.heap.size w w' → HEx w' All d cs x := fun w' hw => r1.mono (SameOn.of_below hw) (fun _ h => h)
          obtain ⟨c0, c1, c2, c3, c4, c5, rfl⟩ := len6 hcsl
          have a0 := hcs 0 (by omega)
          have a1 := hcs 1 (by omega)
          have a2 := hcs 2 (by omega)
          have a3 := hcs 3 (by omega)
          have a4 := hcs 4 (by omega)
          have a5 := hcs 5 (by omega)
          rw [← hb.cell (p := ⟨g, _, none⟩) hgl] at a0 a1 a2 a3 a4 a5
          simp at a0 a1 a2 a3 a4 a5
          have hki : (k : Int) < (n : Int) := by omega
          have hk0 : (0 : Int) ≤ (k : Int) := by omega
          obtain ⟨wx, sx, lx⟩ := BX.out k x hxk
          have HJ : Hid (foldV (bndV d) [] (ks.take (k + 1)) = onceS (foldV (bndV d) [] (ks.take k)) (bndV d x)) := foldV_snoc _ _ ks k x hxk
          have lq := LQ.out k
          have oq := OQ.out k
          generalize hJ0 : foldV (bndV d) [] (ks.take k) = J at *
          clear hb hcs hat hcsl r1 hJ0
          go_wp2_with fail
          refine (hE _ _ x (E1 _ HB.out) wx).mono ?_
          rintro e w4 ⟨u4, rfl, ho4, hb4⟩
          have HB4 : Hid (Below w.heap.size w w4) := HB.out.trans (hb4.mono HB.out.size)
          have SV : Hid (StrV w4 u3 J) := (ho.out.next hb4).strV oq
          have SR : Hid (StrR w4 u4 (bndV d x)) := ho4.strR (bndV_ok d x sx)
          have bk4 : Hid (Blk w4 w.heap.size #[.int .i64 kx, .int .i64 nx, .string tx, .string mx, .slice (some ⟨g, off, none⟩) n cap, cv] 73) := hbk.out.next hb4
          clear hb4 ho4 xa4 a0 a1 a2 a3 a4 a5
          go_wp2_with fail
          refine (once_any _ _ _ J (bndV d x) SV.out SR.out (by omega)).mono ?_
          rintro e w5 ⟨u5, rfl, ho5, hb5⟩
          have HB5 : Hid (Below w.heap.size w w5) := HB4.out.trans (hb5.mono HB4.out.size)
          have HO5 : Hid (OwnS w5 w.heap.size u5 (onceS J (bndV d x))) := ho5.base HB4.out.size
          have bk5 : Hid (Blk w5 w.heap.size #[.int .i64 kx, .int .i64 nx, .string tx, .string mx, .slice (some ⟨g, off, none⟩) n cap, cv] 73) := bk4.out.next hb5
          clear hb5 ho5
          go_wp2_with fail
          exact ⟨⟨k + 1, by omega, by go_num, by show OwnS _ _ _ _; rw [HJ.out]; exact HO5.out, bk5.out, HB5.out⟩, by simp [intOf]; omega⟩
        · have HS : Hid (OwnS wr w.heap.size u3 (foldV (bndV d) [] ks)) := by
            have := ho.out
            rwa [List.take_of_length_le (by rw [HN.out]; omega)] at this
          clear hb
          go_wp2_with fail
          go_ret
          exact ⟨u3, rfl, HS.out, HB.out⟩
theorem bound_all : ∀ d, NmC 54 d (bndV d)
  | 0 => fun w cs x h _ => h.elim
  | d + 1 => bound_of (bound_all d)
end Go.Proofs.YtpkhblhcdnohmaaGreatDoor
/-
  The specification's l04List: what is free in a list of expressions, over l04Free's contract.
-/
namespace Go.Proofs.YtpkhblhcdnohmaaGreatDoor
open Go.ChangeShapes Go.WideShapes Go.ChangeAt Go.RowKit
set_option linter.unusedVariables false
set_option maxRecDepth 100000

def FrC (d : Nat) : Prop := ∀ (w : World) (cs : List Value) (x : Ex) (bv : Value) (B : List ByteArray), HEx w All d cs x → StrV w bv B → wtEx d x ≤ 1048576 → B.length + wtEx d x ≤ 4194304 →
    Calls Tryz.prog 53 #[.agg cs.toArray, bv] w fun e w' => ∃ u, e = .returned u ∧ OwnS w' w.heap.size u (freeV d x B) ∧ Below w.heap.size w w'
def LsC (d : Nat) : Prop := ∀ (w : World) (v : Value) (ks : List Ex) (bv : Value) (B : List ByteArray), Rows w All 6 (HEx w All d) v ks → StrV w bv B → wtS (wtEx d) ks ≤ 1048576 → B.length + wtS (wtEx d) ks ≤ 4194304 →
    Calls Tryz.prog 37 #[v, bv] w fun e w' => ∃ u, e = .returned u ∧ OwnS w' w.heap.size u (listV (freeV d) (bndV d) B ks) ∧ Below w.heap.size w w'

theorem StrV.below {w w' : World} {v : Value} {xs : List ByteArray} (h : StrV w v xs) (hb : Below w.heap.size w w') : StrV w' v xs := h.next (SameOn.of_below hb)
theorem wtS_kid {d : Nat} {ks : List Ex} {k : Nat} {y : Ex} (h : ks[k]? = some y) : wtS (wtEx d) (ks.take k) + 1 + wtEx d y ≤ wtS (wtEx d) ks ∧ k ≤ ks.length := by
  have h1 := sum_take_succ (wtEx d) ks k y h
  have h2 := sum_take_le (wtEx d) ks (k + 1)
  have h3 := (List.getElem?_eq_some_iff.1 h).1
  have h4 : (ks.take k).length = k := by rw [List.length_take]; omega
  unfold wtS
  omega

set_option maxHeartbeats 8000000 in
theorem list_of {d : Nat} (hF : FrC d) : LsC d := by
  intro w v ks bv B hr hB hwt hbt
  have OB := hB.1.okS
  have EXS : Hid (∀ y ∈ ks, exS d y) := fun y hy => by
    obtain ⟨cs, h⟩ := rows_mem' hr y hy
    exact h.txts
  obtain ⟨p, cap, rfl, hcl, hcm, hx⟩ := hr
  have hnb : ks.length ≤ 9223372036854775807 := by unfold maxLen at hcm; omega
  have HX : Hid (ks ≠ [] → ∃ g off, p = some ⟨g, off, none⟩ ∧ All g ∧ g < w.heap.size ∧ ∀ i x, ks[i]? = some x → ∃ cs, cs.length = 6 ∧ (∀ j, j < 6 → w.cell? ⟨g, off + i * 6 + j, none⟩ = cs[j]?) ∧ HEx w All d cs x) := hx
  have HSB : Hid (StrV w bv B) := hB
  have HWT : Hid (wtS (wtEx d) ks ≤ 1048576) := hwt
  have HBT : Hid (B.length + wtS (wtEx d) ks ≤ 4194304) := hbt
  have HOB : Hid (∀ s ∈ B, okS s) := OB
  clear hx hB hwt hbt OB
  generalize hn : ks.length = n at *
  have HN : Hid (ks.length = n) := hn
  clear hn
  go_enter Tryz.func37, Tryz.ntmps37
  go_wp2_with fail
  have BA : Below w.heap.size w (w.alloc (.cells #[] 9)) := (Below.refl _ _).alloc (Nat.le_refl _) _
  go_loopw [1, 5, 6] (fun bu ov iv wr => ∃ k : Nat, k ≤ n ∧ iv = .int .i64 k ∧ Hid (OwnS wr w.heap.size ov (listV (freeV d) (bndV d) B (ks.take k))) ∧ Hid (StrV wr bu (foldV (bndV d) B (ks.take k))) ∧ Hid (Below w.heap.size w wr)) (fun _ _ iv _ => n - (intOf iv).toNat)
  case atStart => exact ⟨0, Nat.zero_le _, rfl, OwnS.fresh, HSB.out.below BA, BA⟩
  case round =>
    clear BA
    obtain ⟨k, hk, rfl, HO, HS, HB⟩ := hrel
    by_cases hlt : k < n
    · obtain ⟨x, hxk⟩ : ∃ x, ks[k]? = some x := ⟨ks[k]'(by rw [HN.out]; exact hlt), List.getElem?_eq_getElem _⟩
      obtain ⟨g, off, rfl, -, hgl, hat⟩ := HX.out (by intro h; rw [h] at hxk; simp at hxk)
      obtain ⟨cs, hcsl, hcs, r1⟩ := hat k x hxk
      have E1 : Hid (∀ w', Below w.heap.size w w' → HEx w' All d cs x) := fun w' hw => r1.mono (SameOn.of_below hw) (fun _ h => h)
      have C1 : Hid (∀ w', Below w.heap.size w w' → ∀ j, j < 6 → w'.cell? ⟨g, off + k * 6 + j, none⟩ = cs[j]?) := fun w' hw j hj => (hw.cell (p := ⟨g, _, none⟩) hgl).trans (hcs j hj)
      obtain ⟨c0, c1, c2, c3, c4, c5, rfl⟩ := len6 hcsl
      have a0 := C1.out wr HB.out 0 (by omega)
      have a1 := C1.out wr HB.out 1 (by omega)
      have a2 := C1.out wr HB.out 2 (by omega)
      have a3 := C1.out wr HB.out 3 (by omega)
      have a4 := C1.out wr HB.out 4 (by omega)
      have a5 := C1.out wr HB.out 5 (by omega)
      simp at a0 a1 a2 a3 a4 a5
      have hki : (k : Int) < (n : Int) := by omega
      have hk0 : (0 : Int) ≤ (k : Int) := by omega
      obtain ⟨wk, -⟩ := wtS_kid (d := d) hxk
      have lb := foldV_len (bndV d) (wtEx d) (ks.take k) B (fun y _ => bndV_len d y)
      have lo := listV_len d B (ks.take k)
      have ex := EXS.out x (List.mem_of_getElem? hxk)
      have hw1 := HWT.out
      have hb1 := HBT.out
      have wx : wtEx d x ≤ 1048576 := by omega
      have lf := freeV_len d x (foldV (bndV d) B (ks.take k))
      have ln := bndV_len d x
      have HJ : Hid (listV (freeV d) (bndV d) B (ks.take (k + 1)) = onceS (listV (freeV d) (bndV d) B (ks.take k)) (freeV d x (foldV (bndV d) B (ks.take k)))) := listV_snoc _ _ B ks k x hxk
      have HJB : Hid (foldV (bndV d) B (ks.take (k + 1)) = onceS (foldV (bndV d) B (ks.take k)) (bndV d x)) := foldV_snoc _ _ ks k x hxk
      have OJ : Hid (∀ s ∈ listV (freeV d) (bndV d) B (ks.take k), okS s) := fun s hs => by
        obtain ⟨y, hy, B', h⟩ := listV_mem hs
        exact freeV_ok d y B' (EXS.out y (List.mem_of_mem_take hy)) s h
      have OF : Hid (∀ B', ∀ s ∈ freeV d x B', okS s) := fun B' s hs => freeV_ok d x B' ex s hs
      have ON : Hid (∀ s ∈ bndV d x, okS s) := fun s hs => bndV_ok d x ex s hs
      have OS : Hid (∀ s ∈ onceS (foldV (bndV d) B (ks.take k)) (bndV d x), okS s) := fun s hs => by
        rcases onceS_mem _ _ s hs with h | h
        · exact HS.out.1.okS s h
        · exact ON.out s h
      generalize foldV (bndV d) B (ks.take k) = FB at *
      generalize listV (freeV d) (bndV d) B (ks.take k) = LJ at *
      have lb1 : FB.length + wtEx d x ≤ 4194304 := by omega
      have lo1 : LJ.length ≤ 1048576 := by omega
      clear hcs hat hcsl r1 hw1 hb1 lb lo wk
      go_wp2_with fail
      refine (hF _ _ x _ FB (E1.out _ HB.out) HS.out wx (by omega)).mono ?_
      rintro e w4 ⟨u4, rfl, ho4, hb4⟩
      have HB4 : Hid (Below w.heap.size w w4) := HB.out.trans (hb4.mono HB.out.size)
      have SV : Hid (StrV w4 u5 LJ) := (HO.out.next hb4).strV OJ.out
      have SR : Hid (StrR w4 u4 (freeV d x FB)) := ho4.strR (OF.out FB)
      have SB4 : Hid (StrV w4 u1 FB) := HS.out.below hb4
      clear hb4 ho4 a0 a1 a2 a3 a4 a5
      go_wp2_with fail
      refine (once_any _ _ _ LJ (freeV d x FB) SV.out SR.out (by omega)).mono ?_
      rintro e w5 ⟨u6', rfl, ho5, hb5⟩
      have HB5 : Hid (Below w.heap.size w w5) := HB4.out.trans (hb5.mono HB4.out.size)
      have HO5 : Hid (OwnS w5 w.heap.size u6' (onceS LJ (freeV d x FB))) := ho5.base HB4.out.size
      have SB5 : Hid (StrV w5 u1 FB) := SB4.out.below hb5
      clear hb5 ho5
      have a0 := C1.out w5 HB5.out 0 (by omega)
      have a1 := C1.out w5 HB5.out 1 (by omega)
      have a2 := C1.out w5 HB5.out 2 (by omega)
      have a3 := C1.out w5 HB5.out 3 (by omega)
      have a4 := C1.out w5 HB5.out 4 (by omega)
      have a5 := C1.out w5 HB5.out 5 (by omega)
      simp at a0 a1 a2 a3 a4 a5
      go_wp2_with fail
      refine (bound_all d _ _ x (E1.out _ HB5.out) wx).mono ?_
      rintro e w6 ⟨u7', rfl, ho6, hb6⟩
      have HB6 : Hid (Below w.heap.size w w6) := HB5.out.trans (hb6.mono HB5.out.size)
      have SV6 : Hid (StrV w6 u1 FB) := SB5.out.below hb6
      have SR6 : Hid (StrR w6 u7' (bndV d x)) := ho6.strR ON.out
      have HO6 : Hid (OwnS w6 w.heap.size u6' (onceS LJ (freeV d x FB))) := HO5.out.next hb6
      clear hb6 ho6 a0 a1 a2 a3 a4 a5
      go_wp2_with fail
      refine (once_any _ _ _ FB (bndV d x) SV6.out SR6.out (by omega)).mono ?_
      rintro e w7 ⟨u8', rfl, ho7, hb7⟩
      have HB7 : Hid (Below w.heap.size w w7) := HB6.out.trans (hb7.mono HB6.out.size)
      have SV7 : Hid (StrV w7 u8' (onceS FB (bndV d x))) := ho7.strV OS.out
      have HO7 : Hid (OwnS w7 w.heap.size u6' (onceS LJ (freeV d x FB))) := HO6.out.next hb7
      clear hb7 ho7
      go_wp2_with fail
      exact ⟨⟨k + 1, by omega, by go_num, by show OwnS _ _ _ _; rw [HJ.out]; exact HO7.out, by show StrV _ _ _; rw [HJB.out]; exact SV7.out, HB7.out⟩, by simp [intOf]; omega⟩
    · have HS' : Hid (OwnS wr w.heap.size u5 (listV (freeV d) (bndV d) B ks)) := by
        have := HO.out
        rwa [List.take_of_length_le (by rw [HN.out]; omega)] at this
      go_wp2_with fail
      go_ret
      exact ⟨_, rfl, HS'.out, HB.out⟩
end Go.Proofs.YtpkhblhcdnohmaaGreatDoor
/-
  The specification's l04Free: what is free in an expression, with some names bound ahead.
-/
namespace Go.Proofs.YtpkhblhcdnohmaaGreatDoor
open Go.ChangeShapes Go.WideShapes Go.ChangeAt Go.RowKit
set_option linter.unusedVariables false
set_option maxRecDepth 100000

/-- The one text that '[]string{s}' makes. -/
theorem OwnS.one {w : World} {s : ByteArray} : OwnS (w.alloc (.cells #[.string s] 9)) w.heap.size (.slice (some ⟨w.heap.size, 0, none⟩) 1 1) [s] := by
  refine ⟨⟨by simp [strs], .inr ⟨w.heap.size, 1, #[.string s], rfl, Nat.le_refl _, ?_, Nat.le_refl _, by unfold maxLen; omega, rfl, rfl⟩⟩, by simp⟩
  exact Blk.new (w := w) (cs := #[.string s]) (t := 9)

set_option maxHeartbeats 8000000 in
theorem free_var {d : Nat} (w : World) (cs : List Value) (nx : Int) (tx mx : ByteArray) (ks : List Ex) (cl : List Cl) (bv : Value) (B : List ByteArray) (h : HEx w All (d + 1) cs (.mk 2 nx tx mx ks cl)) (hB : StrV w bv B) :
    Calls Tryz.prog 53 #[.agg cs.toArray, bv] w fun e w' => ∃ u, e = .returned u ∧ OwnS w' w.heap.size u (freeV (d + 1) (.mk 2 nx tx mx ks cl) B) ∧ Below w.heap.size w w' := by
  rw [freeV_var]
  obtain ⟨kv, cv, rfl, -, -, hts, hms, f0, f1⟩ := h
  simp only [Ex.kind, Ex.n, Ex.text, Ex.mod, Ex.kids, Ex.clauses] at *
  obtain ⟨p, cap, rfl, -⟩ := f0
  obtain ⟨pc, capc, rfl, -⟩ := f1
  have BA : Below w.heap.size w (w.alloc (.cells #[.int .i64 2, .int .i64 nx, .string tx, .string mx, .slice p ks.length cap, .slice pc cl.length capc] 73)) := (Below.refl _ _).alloc (Nat.le_refl _) _
  have SB : Hid (StrV (w.alloc (.cells #[.int .i64 2, .int .i64 nx, .string tx, .string mx, .slice p ks.length cap, .slice pc cl.length capc] 73)) bv B) := hB.below BA
  have HBA : Hid (Below w.heap.size w (w.alloc (.cells #[.int .i64 2, .int .i64 nx, .string tx, .string mx, .slice p ks.length cap, .slice pc cl.length capc] 73))) := BA
  have bA : Hid (Blk (w.alloc (.cells #[.int .i64 2, .int .i64 nx, .string tx, .string mx, .slice p ks.length cap, .slice pc cl.length capc] 73)) w.heap.size #[.int .i64 2, .int .i64 nx, .string tx, .string mx, .slice p ks.length cap, .slice pc cl.length capc] 73) := Blk.new
  clear BA hB
  by_cases hh : hasS B tx = true
  · rw [if_pos hh]
    go_enter Tryz.func53, Tryz.ntmps53
    go_wp2_with fail
    refine (hasS_any _ _ B tx SB.out.1).mono ?_
    rintro e w1 ⟨rfl, rfl⟩
    rw [hh]
    go_wp2_with fail
    go_ret
    exact ⟨_, rfl, by have := (OwnS.fresh (w := w.alloc (.cells #[.int .i64 2, .int .i64 nx, .string tx, .string mx, .slice p ks.length cap, .slice pc cl.length capc] 73))).base HBA.out.size; rwa [alloc_hs] at this, HBA.out.alloc HBA.out.size _⟩
  · rw [if_neg hh]
    have hh' : hasS B tx = false := by simpa using hh
    go_enter Tryz.func53, Tryz.ntmps53
    go_wp2_with fail
    refine (hasS_any _ _ B tx SB.out.1).mono ?_
    rintro e w1 ⟨rfl, rfl⟩
    rw [hh']
    go_wp2_with fail
    go_ret
    exact ⟨_, rfl, by have := (OwnS.one (w := w.alloc (.cells #[.int .i64 2, .int .i64 nx, .string tx, .string mx, .slice p ks.length cap, .slice pc cl.length capc] 73)) (s := tx)).base HBA.out.size; rwa [alloc_hs] at this, HBA.out.alloc HBA.out.size _⟩

set_option maxHeartbeats 8000000 in
theorem free_two {d : Nat} (hF : FrC d) (w : World) (cs : List Value) (nx : Int) (tx mx : ByteArray) (ya yb : Ex) (cl : List Cl) (bv : Value) (B : List ByteArray) (h : HEx w All (d + 1) cs (.mk 9 nx tx mx [ya, yb] cl)) (hB : StrV w bv B) (hwt : wtEx (d + 1) (.mk 9 nx tx mx [ya, yb] cl) ≤ 1048576) (hbt : B.length + wtEx (d + 1) (.mk 9 nx tx mx [ya, yb] cl) ≤ 4194304) :
    Calls Tryz.prog 53 #[.agg cs.toArray, bv] w fun e w' => ∃ u, e = .returned u ∧ OwnS w' w.heap.size u (freeV (d + 1) (.mk 9 nx tx mx [ya, yb] cl) B) ∧ Below w.heap.size w w' := by
  rw [freeV_two]
  have hw : wtEx (d + 1) (.mk 9 nx tx mx [ya, yb] cl) = tx.size + mx.size + wtS (wtEx d) [ya, yb] + wtS (wtCl (wtEx d)) cl := rfl
  have h6 : wtS (wtEx d) [ya, yb] = 2 + (wtEx d ya + wtEx d yb) := by simp [wtS]
  have wb : wtEx d yb ≤ 1048576 := by omega
  have wb2 : B.length + wtEx d yb ≤ 4194304 := by omega
  clear hw h6 hwt hbt
  obtain ⟨kv, cv, rfl, -, -, hts, hms, f0, f1⟩ := h
  simp only [Ex.kind, Ex.n, Ex.text, Ex.mod, Ex.kids, Ex.clauses] at *
  obtain ⟨p, cap, rfl, -, -, hx⟩ := f0
  obtain ⟨pc, capc, rfl, -⟩ := f1
  obtain ⟨g, off, rfl, -, hgl, hat⟩ := hx (by simp)
  obtain ⟨cs, hcsl, hcs, rb⟩ := hat 1 yb rfl
  simp only [List.length_cons, List.length_nil] at *
  have bA : Hid (Blk (w.alloc (.cells #[.int .i64 9, .int .i64 nx, .string tx, .string mx, .slice (some ⟨g, off, none⟩) 2 cap, .slice pc cl.length capc] 73)) w.heap.size #[.int .i64 9, .int .i64 nx, .string tx, .string mx, .slice (some ⟨g, off, none⟩) 2 cap, .slice pc cl.length capc] 73) := Blk.new
  have B1 : Hid (Below w.heap.size w (w.alloc (.cells #[.int .i64 9, .int .i64 nx, .string tx, .string mx, .slice (some ⟨g, off, none⟩) 2 cap, .slice pc cl.length capc] 73))) := (Below.refl _ _).alloc (Nat.le_refl _) _
  have EB : Hid (HEx (w.alloc (.cells #[.int .i64 9, .int .i64 nx, .string tx, .string mx, .slice (some ⟨g, off, none⟩) 2 cap, .slice pc cl.length capc] 73)) All d cs yb) := rb.mono (SameOn.of_below B1.out) (fun _ h => h)
  have SB : Hid (StrV (w.alloc (.cells #[.int .i64 9, .int .i64 nx, .string tx, .string mx, .slice (some ⟨g, off, none⟩) 2 cap, .slice pc cl.length capc] 73)) bv B) := hB.below B1.out
  obtain ⟨c0, c1, c2, c3, c4, c5, rfl⟩ := len6 hcsl
  have a0 := (B1.out.cell (p := ⟨g, _, none⟩) hgl).trans (hcs 0 (by omega))
  have a1 := (B1.out.cell (p := ⟨g, _, none⟩) hgl).trans (hcs 1 (by omega))
  have a2 := (B1.out.cell (p := ⟨g, _, none⟩) hgl).trans (hcs 2 (by omega))
  have a3 := (B1.out.cell (p := ⟨g, _, none⟩) hgl).trans (hcs 3 (by omega))
  have a4 := (B1.out.cell (p := ⟨g, _, none⟩) hgl).trans (hcs 4 (by omega))
  have a5 := (B1.out.cell (p := ⟨g, _, none⟩) hgl).trans (hcs 5 (by omega))
  simp at a0 a1 a2 a3 a4 a5
  have x4 := bA.out.cell 4 _ rfl
  clear hx hat hcs hcsl rb hB
  go_enter Tryz.func53, Tryz.ntmps53
  go_wp2_with fail
  refine (hF _ _ yb _ B EB.out SB.out wb wb2).mono ?_
  rintro e w2 ⟨u2, rfl, ho2, hb2⟩
  have HO : Hid (OwnS w2 w.heap.size u2 (freeV d yb B)) := ho2.base B1.out.size
  have HB : Hid (Below w.heap.size w w2) := B1.out.trans (hb2.mono B1.out.size)
  clear ho2 hb2
  go_wp2_with fail
  go_ret
  exact ⟨_, rfl, HO.out, HB.out⟩

set_option maxHeartbeats 32000000 in
theorem free_else {d : Nat} (hL : LsC d) (w : World) (cs : List Value) (kx nx : Int) (tx mx : ByteArray) (ks : List Ex) (cl : List Cl) (bv : Value) (B : List ByteArray) (h2 : kx ≠ 2) (h92 : ¬ (kx = 9 ∧ ks.length = 2)) (h : HEx w All (d + 1) cs (.mk kx nx tx mx ks cl)) (hB : StrV w bv B) (hwt : wtEx (d + 1) (.mk kx nx tx mx ks cl) ≤ 1048576) (hbt : B.length + wtEx (d + 1) (.mk kx nx tx mx ks cl) ≤ 4194304) :
    Calls Tryz.prog 53 #[.agg cs.toArray, bv] w fun e w' => ∃ u, e = .returned u ∧ OwnS w' w.heap.size u (freeV (d + 1) (.mk kx nx tx mx ks cl) B) ∧ Below w.heap.size w w' := by
  rw [freeV_else d kx nx tx mx ks cl B h2 h92]
  have hok := h.txts
  have hw : wtEx (d + 1) (.mk kx nx tx mx ks cl) = tx.size + mx.size + wtS (wtEx d) ks + wtS (wtCl (wtEx d)) cl := rfl
  have wks : wtS (wtEx d) ks ≤ 1048576 := by omega
  have wkb : B.length + wtS (wtEx d) ks ≤ 4194304 := by omega
  have lfb := foldV_len (bndV d) (wtEx d) ks B (fun y _ => bndV_len d y)
  -- what has been gathered
  have GQ : Hid (∀ i, Got (d + 1) (.mk kx nx tx mx ks cl) ((cl.take i).foldl (clF (freeV d) (bndV d) (patV d) (foldV (bndV d) B ks)) (listV (freeV d) (bndV d) B ks))) := fun i => by
    refine ⟨clF_nd _ _ _ _ _ _ (listV_nd _ _ _ _), fun s hs => ?_, fun s hs => ?_⟩
    · rcases clF_mem _ _ _ _ _ _ s hs with h | ⟨c, hc, y, hy, B', h⟩
      · obtain ⟨y, hy, B', h⟩ := listV_mem h
        exact varL_kid hy (freeV_sub d y B' s h)
      · exact varL_cl (List.mem_of_mem_take hc) (.inr hy) (freeV_sub d y B' s h)
    · rcases clF_mem _ _ _ _ _ _ s hs with h | ⟨c, hc, y, hy, B', h⟩
      · obtain ⟨y, hy, B', h⟩ := listV_mem h
        exact freeV_ok d y B' (hok.2.1 y hy) s h
      · exact freeV_ok d y B' ((hok.2.2 c (List.mem_of_mem_take hc)).2 y hy) s h
  have LQ : Hid (∀ i, ((cl.take i).foldl (clF (freeV d) (bndV d) (patV d) (foldV (bndV d) B ks)) (listV (freeV d) (bndV d) B ks)).length ≤ 1048577) := fun i => (GQ.out i).len hwt
  -- how the kids and the clauses are bounded
  have BK : Hid (∀ (j : Nat) y, ks[j]? = some y → wtEx d y ≤ 1048576 ∧ exS d y ∧ (foldV (bndV d) B (ks.take j)).length ≤ 4194304) := fun j y hj => by
    obtain ⟨h1, -⟩ := wtS_kid (d := d) hj
    have h3 := foldV_len (bndV d) (wtEx d) (ks.take j) B (fun y _ => bndV_len d y)
    exact ⟨by omega, hok.2.1 y (List.mem_of_getElem? hj), by omega⟩
  have BC : Hid (∀ (i : Nat) c, cl[i]? = some c → wtS (wtEx d) c.1 ≤ 1048576 ∧ wtS (wtEx d) c.2 ≤ 1048576 ∧ (foldV (bndV d) B ks).length + wtS (wtEx d) c.1 + wtS (wtEx d) c.2 ≤ 4194304 ∧ (∀ y ∈ c.1, exS d y) ∧ ∀ y ∈ c.2, exS d y) := fun i c hi => by
    have h1 := sum_take_succ (wtCl (wtEx d)) cl i c hi
    have h3 := sum_take_le (wtCl (wtEx d)) cl (i + 1)
    have hc : wtCl (wtEx d) c = wtS (wtEx d) c.1 + wtS (wtEx d) c.2 := rfl
    have h4 : wtCl (wtEx d) c ≤ wtS (wtCl (wtEx d)) cl := by unfold wtS; omega
    have hm := List.mem_of_getElem? hi
    exact ⟨by omega, by omega, by omega, (hok.2.2 c hm).1, (hok.2.2 c hm).2⟩
  have OB := hB.1.okS
  have HOB : Hid (∀ s ∈ B, okS s) := OB
  obtain ⟨kv, cv, rfl, -, -, hts, hms, f0, f1⟩ := h
  simp only [Ex.kind, Ex.n, Ex.text, Ex.mod, Ex.kids, Ex.clauses] at *
  have F0 : Hid (Rows w All 6 (HEx w All d) kv ks) := f0
  obtain ⟨p, cap, rfl, hcl, hcm, hx⟩ := f0
  obtain ⟨pc, capc, rfl, hcl', hcm', hxc⟩ := f1
  have hnb : ks.length ≤ 9223372036854775807 := by unfold maxLen at hcm; omega
  have hnc : cl.length ≤ 9223372036854775807 := by unfold maxLen at hcm'; omega
  have HX : Hid (ks ≠ [] → ∃ g off, p = some ⟨g, off, none⟩ ∧ All g ∧ g < w.heap.size ∧ ∀ i x, ks[i]? = some x → ∃ cs, cs.length = 6 ∧ (∀ j, j < 6 → w.cell? ⟨g, off + i * 6 + j, none⟩ = cs[j]?) ∧ HEx w All d cs x) := hx
  have HXC : Hid (cl ≠ [] → ∃ g off, pc = some ⟨g, off, none⟩ ∧ All g ∧ g < w.heap.size ∧ ∀ i x, cl[i]? = some x → ∃ cs, cs.length = 2 ∧ (∀ j, j < 2 → w.cell? ⟨g, off + i * 2 + j, none⟩ = cs[j]?) ∧ HCl w All (HEx w All d) cs x) := hxc
  have HSB : Hid (StrV w bv B) := hB
  clear hx hxc hok hw hwt hbt hB OB lfb
  generalize hn : ks.length = n at *
  have HN : Hid (ks.length = n) := hn
  generalize hm : cl.length = nc at *
  have HNC : Hid (cl.length = nc) := hm
  clear hn hm
  have h2b : (kx == 2) = false := by simpa using h2
  by_cases k9 : kx = 9
  · subst k9
    have hn2 : ¬ n = 2 := fun h => h92 ⟨rfl, h⟩
    have hn2b : ((n : Int) == 2) = false := by simp; omega
    clear h92 h2 h2b
    have bA : Hid (Blk (w.alloc (.cells #[.int .i64 9, .int .i64 nx, .string tx, .string mx, .slice p n cap, .slice pc nc capc] 73)) w.heap.size #[.int .i64 9, .int .i64 nx, .string tx, .string mx, .slice p n cap, .slice pc nc capc] 73) := Blk.new
    have BA : Hid (Below w.heap.size w (w.alloc (.cells #[.int .i64 9, .int .i64 nx, .string tx, .string mx, .slice p n cap, .slice pc nc capc] 73))) := (Below.refl _ _).alloc (Nat.le_refl _) _
    go_enter Tryz.func53, Tryz.ntmps53
    go_wp2_with fail
    refine (hL _ _ ks _ B (Rows.mono F0.out (SameOn.of_below BA.out) (fun _ h => h) (fun _ _ _ h => h.mono (SameOn.of_below BA.out) (fun _ h => h))) (HSB.out.below BA.out) wks wkb).mono ?_
    rintro e w1 ⟨uo, rfl, ho1, hb1⟩
    have O1 : Hid (OwnS w1 w.heap.size uo (listV (freeV d) (bndV d) B ks)) := ho1.base BA.out.size
    have B1 : Hid (Below w.heap.size w w1) := BA.out.trans (hb1.mono BA.out.size)
    have b1 : Hid (Blk w1 w.heap.size #[.int .i64 9, .int .i64 nx, .string tx, .string mx, .slice p n cap, .slice pc nc capc] 73) := bA.out.next hb1
    have S1 : Hid (StrV w1 bv B) := HSB.out.below B1.out
    clear ho1 hb1 bA BA F0
    go_wp2_with fail
    go_loopw [1, 6] (fun bu iv wr => ∃ k : Nat, k ≤ n ∧ iv = .int .i64 k ∧ Hid (StrV wr bu (foldV (bndV d) B (ks.take k))) ∧ Hid (OwnS wr w.heap.size uo (listV (freeV d) (bndV d) B ks)) ∧ Hid (Blk wr w.heap.size #[.int .i64 9, .int .i64 nx, .string tx, .string mx, .slice p n cap, .slice pc nc capc] 73) ∧ Hid (Below w.heap.size w wr)) (fun _ iv _ => n - (intOf iv).toNat)
    case atStart => exact ⟨0, Nat.zero_le _, rfl, S1.out, O1.out, b1.out, B1.out⟩
    case round =>
      obtain ⟨k, hk, rfl, hs, ho, hbk, HB⟩ := hrel
      clear O1 b1 B1 S1
      have xa4 := hbk.out.cell 4 _ rfl
      have xa5 := hbk.out.cell 5 _ rfl
      by_cases hlt : k < n
      · obtain ⟨x, hxk⟩ : ∃ x, ks[k]? = some x := ⟨ks[k]'(by rw [HN.out]; exact hlt), List.getElem?_eq_getElem _⟩
        obtain ⟨g, off, rfl, -, hgl, hat⟩ := HX.out (by intro h; rw [h] at hxk; simp at hxk)
        obtain ⟨cs, hcsl, hcs, r1⟩ := hat k x hxk
        have E1 : ∀ w', Below w.heap.size w w' → HEx w' All d cs x := fun w' hw => r1.mono (SameOn.of_below hw) (fun _ h => h)
        obtain ⟨c0, c1, c2, c3, c4, c5, rfl⟩ := len6 hcsl
        have a0 := hcs 0 (by omega)
        have a1 := hcs 1 (by omega)
        have a2 := hcs 2 (by omega)
        have a3 := hcs 3 (by omega)
        have a4 := hcs 4 (by omega)
        have a5 := hcs 5 (by omega)
        rw [← HB.out.cell (p := ⟨g, _, none⟩) hgl] at a0 a1 a2 a3 a4 a5
        simp at a0 a1 a2 a3 a4 a5
        have hki : (k : Int) < (n : Int) := by omega
        have hk0 : (0 : Int) ≤ (k : Int) := by omega
        obtain ⟨wx, ex, lq⟩ := BK.out k x hxk
        have lx := bndV_len d x
        have HJ : Hid (foldV (bndV d) B (ks.take (k + 1)) = onceS (foldV (bndV d) B (ks.take k)) (bndV d x)) := foldV_snoc _ _ ks k x hxk
        have ON : Hid (∀ s ∈ bndV d x, okS s) := fun s hs => bndV_ok d x ex s hs
        have OS : Hid (∀ s ∈ onceS (foldV (bndV d) B (ks.take k)) (bndV d x), okS s) := fun s hs' => by
          rcases onceS_mem _ _ s hs' with h | h
          · exact hs.out.1.okS s h
          · exact ON.out s h
        generalize foldV (bndV d) B (ks.take k) = J at *
        clear hcs hat hcsl r1
        go_wp2_with fail
        refine (bound_all d _ _ x (E1 _ HB.out) wx).mono ?_
        rintro e w4 ⟨u4', rfl, ho4, hb4⟩
        have HB4 : Hid (Below w.heap.size w w4) := HB.out.trans (hb4.mono HB.out.size)
        have SV : Hid (StrV w4 u1 J) := hs.out.below hb4
        have SR : Hid (StrR w4 u4' (bndV d x)) := ho4.strR ON.out
        have HO4 : Hid (OwnS w4 w.heap.size uo (listV (freeV d) (bndV d) B ks)) := ho.out.next hb4
        have bk4 : Hid (Blk w4 w.heap.size #[.int .i64 9, .int .i64 nx, .string tx, .string mx, .slice (some ⟨g, off, none⟩) n cap, .slice pc nc capc] 73) := hbk.out.next hb4
        clear hb4 ho4 xa4 xa5 a0 a1 a2 a3 a4 a5
        go_wp2_with fail
        refine (once_any _ _ _ J (bndV d x) SV.out SR.out (by omega)).mono ?_
        rintro e w5 ⟨u5', rfl, ho5, hb5⟩
        have HB5 : Hid (Below w.heap.size w w5) := HB4.out.trans (hb5.mono HB4.out.size)
        have SV5 : Hid (StrV w5 u5' (onceS J (bndV d x))) := ho5.strV OS.out
        have HO5 : Hid (OwnS w5 w.heap.size uo (listV (freeV d) (bndV d) B ks)) := HO4.out.next hb5
        have bk5 : Hid (Blk w5 w.heap.size #[.int .i64 9, .int .i64 nx, .string tx, .string mx, .slice (some ⟨g, off, none⟩) n cap, .slice pc nc capc] 73) := bk4.out.next hb5
        clear hb5 ho5
        go_wp2_with fail
        exact ⟨⟨k + 1, by omega, by go_num, by show StrV _ _ _; rw [HJ.out]; exact SV5.out, HO5.out, bk5.out, HB5.out⟩, by simp [intOf]; omega⟩
      · have HS : Hid (StrV wr u1 (foldV (bndV d) B ks)) := by
          have := hs.out
          rwa [List.take_of_length_le (by rw [HN.out]; omega)] at this
        clear hs
        have HS0 := HS
        have ho0 := ho
        have hbk0 := hbk
        have HB0 := HB
        clear HS ho hbk HB
        go_wp2_with fail
        go_loopw [5, 7] (fun ov iv wr => ∃ i : Nat, i ≤ nc ∧ iv = .int .i64 i ∧ Hid (OwnS wr w.heap.size ov ((cl.take i).foldl (clF (freeV d) (bndV d) (patV d) (foldV (bndV d) B ks)) (listV (freeV d) (bndV d) B ks))) ∧ Hid (StrV wr u1 (foldV (bndV d) B ks)) ∧ Hid (Blk wr w.heap.size #[.int .i64 9, .int .i64 nx, .string tx, .string mx, .slice p n cap, .slice pc nc capc] 73) ∧ Hid (Below w.heap.size w wr)) (fun _ iv _ => nc - (intOf iv).toNat)
        case atStart => exact ⟨0, Nat.zero_le _, rfl, ho0.out, HS0.out, hbk0.out, HB0.out⟩
        case round =>
          clear HS0 ho0 hbk0 HB0 xa4 xa5
          obtain ⟨i, hi, rfl, hoi, hsi, hbi, HBi⟩ := hrel
          have xa5 := hbi.out.cell 5 _ rfl
          by_cases hlt : i < nc
          · obtain ⟨c, hci⟩ : ∃ c, cl[i]? = some c := ⟨cl[i]'(by rw [HNC.out]; exact hlt), List.getElem?_eq_getElem _⟩
            obtain ⟨gc, oc, rfl, -, hgcl, hatc⟩ := HXC.out (by intro h; rw [h] at hci; simp at hci)
            obtain ⟨csc, hcsl2, hcsc, pv, bdv, rfl, rp, rb⟩ := hatc i c hci
            obtain ⟨wc1, wc2, wc3, ec1, ec2⟩ := BC.out i c hci
            have RB : Hid (∀ w', Below w.heap.size w w' → Rows w' All 6 (HEx w' All d) bdv c.2) := fun w' hw => Rows.mono rb (SameOn.of_below hw) (fun _ h => h) (fun _ _ _ h => h.mono (SameOn.of_below hw) (fun _ h => h))
            obtain ⟨pp, capp, rfl, hclp, hcmp, hxp⟩ := rp
            obtain ⟨pb, capb, rfl, -⟩ := id rb
            have hnp : c.1.length ≤ 9223372036854775807 := by unfold maxLen at hcmp; omega
            have HXP : Hid (c.1 ≠ [] → ∃ g off, pp = some ⟨g, off, none⟩ ∧ All g ∧ g < w.heap.size ∧ ∀ i x, c.1[i]? = some x → ∃ cs, cs.length = 6 ∧ (∀ j, j < 6 → w.cell? ⟨g, off + i * 6 + j, none⟩ = cs[j]?) ∧ HEx w All d cs x) := hxp
            have HC0 : Hid (w.cell? ⟨gc, oc + i * 2, none⟩ = some (.slice pp c.1.length capp)) := by show _ = _; simpa using hcsc 0 (by omega)
            have HC1 : Hid (w.cell? ⟨gc, oc + i * 2 + 1, none⟩ = some (.slice pb c.2.length capb)) := by show _ = _; simpa using hcsc 1 (by omega)
            have HCI : Hid ((cl.take (i + 1)).foldl (clF (freeV d) (bndV d) (patV d) (foldV (bndV d) B ks)) (listV (freeV d) (bndV d) B ks) = onceS ((cl.take i).foldl (clF (freeV d) (bndV d) (patV d) (foldV (bndV d) B ks)) (listV (freeV d) (bndV d) B ks)) (listV (freeV d) (bndV d) (foldV (patV d) (foldV (bndV d) B ks) c.1) c.2)) := clF_snoc _ _ _ _ _ cl i c hci
            have lq := LQ.out i
            have OJ : Hid (∀ s ∈ (cl.take i).foldl (clF (freeV d) (bndV d) (patV d) (foldV (bndV d) B ks)) (listV (freeV d) (bndV d) B ks), okS s) := (GQ.out i).ok
            have BP : Hid (∀ (j : Nat) y, c.1[j]? = some y → wtEx d y ≤ 1048576 ∧ exS d y ∧ (foldV (patV d) (foldV (bndV d) B ks) (c.1.take j)).length ≤ 4194304) := fun j y hj => by
              obtain ⟨h1, -⟩ := wtS_kid (d := d) hj
              have h3 := foldV_len (patV d) (wtEx d) (c.1.take j) (foldV (bndV d) B ks) (fun y _ => patV_len d y)
              exact ⟨by omega, ec1 y (List.mem_of_getElem? hj), by omega⟩
            have LIN : Hid ((foldV (patV d) (foldV (bndV d) B ks) c.1).length + wtS (wtEx d) c.2 ≤ 4194304) := by
              have h3 := foldV_len (patV d) (wtEx d) c.1 (foldV (bndV d) B ks) (fun y _ => patV_len d y)
              show _ ≤ _
              omega
            have LBD : Hid (∀ B', (listV (freeV d) (bndV d) B' c.2).length ≤ 1048576) := fun B' => Nat.le_trans (listV_len d B' c.2) wc2
            have OBD : Hid (∀ B', ∀ s ∈ listV (freeV d) (bndV d) B' c.2, okS s) := fun B' s hs => by
              obtain ⟨y, hy, B2, h⟩ := listV_mem hs
              exact freeV_ok d y B2 (ec2 y hy) s h
            have hii : (i : Int) < (nc : Int) := by omega
            have hi0 : (0 : Int) ≤ (i : Int) := by omega
            have xc0 := (HBi.out.cell (p := ⟨gc, oc + i * 2, none⟩) hgcl).trans HC0.out
            have xc1 := (HBi.out.cell (p := ⟨gc, oc + i * 2 + 1, none⟩) hgcl).trans HC1.out
            generalize hnp0 : c.1.length = np at *
            have HNP : Hid (c.1.length = np) := hnp0
            generalize (cl.take i).foldl (clF (freeV d) (bndV d) (patV d) (foldV (bndV d) B ks)) (listV (freeV d) (bndV d) B ks) = OI at *
            generalize hFB : foldV (bndV d) B ks = FB at *
            have HFB : Hid (foldV (bndV d) B ks = FB) := hFB
            have HSI := hsi
            have HOI := hoi
            have HBI2 := hbi
            have HBB := HBi
            clear hcsc hcsl2 hatc hxp rb hnp0 hFB hsi hoi hbi HBi wc1 wc3 ec1 ec2 hclp hcmp
            go_wp2_with fail
            clear xc0 xc1 xa5
            go_loopw [8, 9] (fun bu iv wr => ∃ k : Nat, k ≤ np ∧ iv = .int .i64 k ∧ Hid (StrV wr bu (foldV (patV d) FB (c.1.take k))) ∧ Hid (OwnS wr w.heap.size u5 OI) ∧ Hid (StrV wr u1 FB) ∧ Hid (Blk wr w.heap.size #[.int .i64 9, .int .i64 nx, .string tx, .string mx, .slice p n cap, .slice (some ⟨gc, oc, none⟩) nc capc] 73) ∧ Hid (Below w.heap.size w wr)) (fun _ iv _ => np - (intOf iv).toNat)
            case atStart => exact ⟨0, Nat.zero_le _, rfl, HSI.out, HOI.out, HSI.out, HBI2.out, HBB.out⟩
            case round =>
              clear HSI HOI HBI2 HBB
              obtain ⟨k, hk, rfl, hs, ho, hsf, hbk, HB⟩ := hrel
              have xa5 := hbk.out.cell 5 _ rfl
              have xc0 := (HB.out.cell (p := ⟨gc, oc + i * 2, none⟩) hgcl).trans HC0.out
              have xc1 := (HB.out.cell (p := ⟨gc, oc + i * 2 + 1, none⟩) hgcl).trans HC1.out
              by_cases hlk : k < np
              · obtain ⟨x, hxk⟩ : ∃ x, c.1[k]? = some x := ⟨c.1[k]'(by rw [HNP.out]; exact hlk), List.getElem?_eq_getElem _⟩
                obtain ⟨g, off, rfl, -, hgl, hat⟩ := HXP.out (by intro h; rw [h] at hxk; simp at hxk)
                obtain ⟨cs, hcsl, hcs, r1⟩ := hat k x hxk
                have E1 : ∀ w', Below w.heap.size w w' → HEx w' All d cs x := fun w' hw => r1.mono (SameOn.of_below hw) (fun _ h => h)
                obtain ⟨c0, c1, c2, c3, c4, c5, rfl⟩ := len6 hcsl
                have a0 := hcs 0 (by omega)
                have a1 := hcs 1 (by omega)
                have a2 := hcs 2 (by omega)
                have a3 := hcs 3 (by omega)
                have a4 := hcs 4 (by omega)
                have a5 := hcs 5 (by omega)
                rw [← HB.out.cell (p := ⟨g, _, none⟩) hgl] at a0 a1 a2 a3 a4 a5
                simp at a0 a1 a2 a3 a4 a5
                have hki : (k : Int) < (np : Int) := by omega
                have hk0 : (0 : Int) ≤ (k : Int) := by omega
                obtain ⟨wx, ex, lj⟩ := BP.out k x hxk
                have lx := patV_len d x
                have HJ : Hid (foldV (patV d) FB (c.1.take (k + 1)) = onceS (foldV (patV d) FB (c.1.take k)) (patV d x)) := foldV_snoc _ _ c.1 k x hxk
                have ON : Hid (∀ s ∈ patV d x, okS s) := fun s hs => patV_ok d x ex s hs
                have OS : Hid (∀ s ∈ onceS (foldV (patV d) FB (c.1.take k)) (patV d x), okS s) := fun s hs' => by
                  rcases onceS_mem _ _ s hs' with h | h
                  · exact hs.out.1.okS s h
                  · exact ON.out s h
                generalize foldV (patV d) FB (c.1.take k) = J at *
                clear hcs hat hcsl r1
                go_wp2_with fail
                refine (patVars_all d _ _ x (E1 _ HB.out) wx).mono ?_
                rintro e w4 ⟨u4', rfl, ho4, hb4⟩
                have HB4 : Hid (Below w.heap.size w w4) := HB.out.trans (hb4.mono HB.out.size)
                have SV : Hid (StrV w4 u8 J) := hs.out.below hb4
                have SR : Hid (StrR w4 u4' (patV d x)) := ho4.strR ON.out
                have HO4 : Hid (OwnS w4 w.heap.size u5 OI) := ho.out.next hb4
                have SF4 : Hid (StrV w4 u1 FB) := hsf.out.below hb4
                have bk4 : Hid (Blk w4 w.heap.size #[.int .i64 9, .int .i64 nx, .string tx, .string mx, .slice p n cap, .slice (some ⟨gc, oc, none⟩) nc capc] 73) := hbk.out.next hb4
                clear hb4 ho4 xa5 xc0 xc1 a0 a1 a2 a3 a4 a5
                go_wp2_with fail
                refine (once_any _ _ _ J (patV d x) SV.out SR.out (by omega)).mono ?_
                rintro e w5 ⟨u5', rfl, ho5, hb5⟩
                have HB5 : Hid (Below w.heap.size w w5) := HB4.out.trans (hb5.mono HB4.out.size)
                have SV5 : Hid (StrV w5 u5' (onceS J (patV d x))) := ho5.strV OS.out
                have HO5 : Hid (OwnS w5 w.heap.size u5 OI) := HO4.out.next hb5
                have SF5 : Hid (StrV w5 u1 FB) := SF4.out.below hb5
                have bk5 : Hid (Blk w5 w.heap.size #[.int .i64 9, .int .i64 nx, .string tx, .string mx, .slice p n cap, .slice (some ⟨gc, oc, none⟩) nc capc] 73) := bk4.out.next hb5
                clear hb5 ho5
                go_wp2_with fail
                exact ⟨⟨k + 1, by omega, by go_num, by show StrV _ _ _; rw [HJ.out]; exact SV5.out, HO5.out, SF5.out, bk5.out, HB5.out⟩, by simp [intOf]; omega⟩
              · have HIN : Hid (StrV wr u8 (foldV (patV d) FB c.1)) := by
                  have := hs.out
                  rwa [List.take_of_length_le (by rw [HNP.out]; omega)] at this
                clear hs
                go_wp2_with fail
                refine (hL _ _ c.2 _ (foldV (patV d) FB c.1) (RB.out _ HB.out) HIN.out wc2 LIN.out).mono ?_
                rintro e w4 ⟨u4', rfl, ho4, hb4⟩
                have HB4 : Hid (Below w.heap.size w w4) := HB.out.trans (hb4.mono HB.out.size)
                have SV : Hid (StrV w4 u5 OI) := (ho.out.next hb4).strV OJ.out
                have SR : Hid (StrR w4 u4' (listV (freeV d) (bndV d) (foldV (patV d) FB c.1) c.2)) := ho4.strR (OBD.out _)
                have lbd := LBD.out (foldV (patV d) FB c.1)
                have SF4 : Hid (StrV w4 u1 FB) := hsf.out.below hb4
                have bk4 : Hid (Blk w4 w.heap.size #[.int .i64 9, .int .i64 nx, .string tx, .string mx, .slice p n cap, .slice (some ⟨gc, oc, none⟩) nc capc] 73) := hbk.out.next hb4
                clear hb4 ho4 xa5 xc0 xc1
                go_wp2_with fail
                refine (once_any _ _ _ OI _ SV.out SR.out (by omega)).mono ?_
                rintro e w5 ⟨u5', rfl, ho5, hb5⟩
                have HB5 : Hid (Below w.heap.size w w5) := HB4.out.trans (hb5.mono HB4.out.size)
                have HO5 : Hid (OwnS w5 w.heap.size u5' (onceS OI (listV (freeV d) (bndV d) (foldV (patV d) FB c.1) c.2))) := ho5.base HB4.out.size
                have SF5 : Hid (StrV w5 u1 FB) := SF4.out.below hb5
                have bk5 : Hid (Blk w5 w.heap.size #[.int .i64 9, .int .i64 nx, .string tx, .string mx, .slice p n cap, .slice (some ⟨gc, oc, none⟩) nc capc] 73) := bk4.out.next hb5
                clear hb5 ho5
                go_wp2_with fail
                exact ⟨⟨i + 1, by omega, by go_num, by show OwnS _ _ _ _; rw [HCI.out]; exact HO5.out, SF5.out, bk5.out, HB5.out⟩, by simp [intOf]; omega⟩
          · have HF : Hid (OwnS wr w.heap.size u5 (cl.foldl (clF (freeV d) (bndV d) (patV d) (foldV (bndV d) B ks)) (listV (freeV d) (bndV d) B ks))) := by
              have := hoi.out
              rwa [List.take_of_length_le (by rw [HNC.out]; omega)] at this
            clear hoi
            go_wp2_with fail
            go_ret
            exact ⟨_, rfl, HF.out, HBi.out⟩
  · have k9b : (kx == 9) = false := by simpa using k9
    clear h92 h2 k9
    have bA : Hid (Blk (w.alloc (.cells #[.int .i64 kx, .int .i64 nx, .string tx, .string mx, .slice p n cap, .slice pc nc capc] 73)) w.heap.size #[.int .i64 kx, .int .i64 nx, .string tx, .string mx, .slice p n cap, .slice pc nc capc] 73) := Blk.new
    have BA : Hid (Below w.heap.size w (w.alloc (.cells #[.int .i64 kx, .int .i64 nx, .string tx, .string mx, .slice p n cap, .slice pc nc capc] 73))) := (Below.refl _ _).alloc (Nat.le_refl _) _
    go_enter Tryz.func53, Tryz.ntmps53
    go_wp2_with fail
    refine (hL _ _ ks _ B (Rows.mono F0.out (SameOn.of_below BA.out) (fun _ h => h) (fun _ _ _ h => h.mono (SameOn.of_below BA.out) (fun _ h => h))) (HSB.out.below BA.out) wks wkb).mono ?_
    rintro e w1 ⟨uo, rfl, ho1, hb1⟩
    have O1 : Hid (OwnS w1 w.heap.size uo (listV (freeV d) (bndV d) B ks)) := ho1.base BA.out.size
    have B1 : Hid (Below w.heap.size w w1) := BA.out.trans (hb1.mono BA.out.size)
    have b1 : Hid (Blk w1 w.heap.size #[.int .i64 kx, .int .i64 nx, .string tx, .string mx, .slice p n cap, .slice pc nc capc] 73) := bA.out.next hb1
    have S1 : Hid (StrV w1 bv B) := HSB.out.below B1.out
    clear ho1 hb1 bA BA F0
    go_wp2_with fail
    go_loopw [1, 6] (fun bu iv wr => ∃ k : Nat, k ≤ n ∧ iv = .int .i64 k ∧ Hid (StrV wr bu (foldV (bndV d) B (ks.take k))) ∧ Hid (OwnS wr w.heap.size uo (listV (freeV d) (bndV d) B ks)) ∧ Hid (Blk wr w.heap.size #[.int .i64 kx, .int .i64 nx, .string tx, .string mx, .slice p n cap, .slice pc nc capc] 73) ∧ Hid (Below w.heap.size w wr)) (fun _ iv _ => n - (intOf iv).toNat)
    case atStart => exact ⟨0, Nat.zero_le _, rfl, S1.out, O1.out, b1.out, B1.out⟩
    case round =>
      obtain ⟨k, hk, rfl, hs, ho, hbk, HB⟩ := hrel
      clear O1 b1 B1 S1
      have xa4 := hbk.out.cell 4 _ rfl
      have xa5 := hbk.out.cell 5 _ rfl
      by_cases hlt : k < n
      · obtain ⟨x, hxk⟩ : ∃ x, ks[k]? = some x := ⟨ks[k]'(by rw [HN.out]; exact hlt), List.getElem?_eq_getElem _⟩
        obtain ⟨g, off, rfl, -, hgl, hat⟩ := HX.out (by intro h; rw [h] at hxk; simp at hxk)
        obtain ⟨cs, hcsl, hcs, r1⟩ := hat k x hxk
        have E1 : ∀ w', Below w.heap.size w w' → HEx w' All d cs x := fun w' hw => r1.mono (SameOn.of_below hw) (fun _ h => h)
        obtain ⟨c0, c1, c2, c3, c4, c5, rfl⟩ := len6 hcsl
        have a0 := hcs 0 (by omega)
        have a1 := hcs 1 (by omega)
        have a2 := hcs 2 (by omega)
        have a3 := hcs 3 (by omega)
        have a4 := hcs 4 (by omega)
        have a5 := hcs 5 (by omega)
        rw [← HB.out.cell (p := ⟨g, _, none⟩) hgl] at a0 a1 a2 a3 a4 a5
        simp at a0 a1 a2 a3 a4 a5
        have hki : (k : Int) < (n : Int) := by omega
        have hk0 : (0 : Int) ≤ (k : Int) := by omega
        obtain ⟨wx, ex, lq⟩ := BK.out k x hxk
        have lx := bndV_len d x
        have HJ : Hid (foldV (bndV d) B (ks.take (k + 1)) = onceS (foldV (bndV d) B (ks.take k)) (bndV d x)) := foldV_snoc _ _ ks k x hxk
        have ON : Hid (∀ s ∈ bndV d x, okS s) := fun s hs => bndV_ok d x ex s hs
        have OS : Hid (∀ s ∈ onceS (foldV (bndV d) B (ks.take k)) (bndV d x), okS s) := fun s hs' => by
          rcases onceS_mem _ _ s hs' with h | h
          · exact hs.out.1.okS s h
          · exact ON.out s h
        generalize foldV (bndV d) B (ks.take k) = J at *
        clear hcs hat hcsl r1
        go_wp2_with fail
        refine (bound_all d _ _ x (E1 _ HB.out) wx).mono ?_
        rintro e w4 ⟨u4', rfl, ho4, hb4⟩
        have HB4 : Hid (Below w.heap.size w w4) := HB.out.trans (hb4.mono HB.out.size)
        have SV : Hid (StrV w4 u1 J) := hs.out.below hb4
        have SR : Hid (StrR w4 u4' (bndV d x)) := ho4.strR ON.out
        have HO4 : Hid (OwnS w4 w.heap.size uo (listV (freeV d) (bndV d) B ks)) := ho.out.next hb4
        have bk4 : Hid (Blk w4 w.heap.size #[.int .i64 kx, .int .i64 nx, .string tx, .string mx, .slice (some ⟨g, off, none⟩) n cap, .slice pc nc capc] 73) := hbk.out.next hb4
        clear hb4 ho4 xa4 xa5 a0 a1 a2 a3 a4 a5
        go_wp2_with fail
        refine (once_any _ _ _ J (bndV d x) SV.out SR.out (by omega)).mono ?_
        rintro e w5 ⟨u5', rfl, ho5, hb5⟩
        have HB5 : Hid (Below w.heap.size w w5) := HB4.out.trans (hb5.mono HB4.out.size)
        have SV5 : Hid (StrV w5 u5' (onceS J (bndV d x))) := ho5.strV OS.out
        have HO5 : Hid (OwnS w5 w.heap.size uo (listV (freeV d) (bndV d) B ks)) := HO4.out.next hb5
        have bk5 : Hid (Blk w5 w.heap.size #[.int .i64 kx, .int .i64 nx, .string tx, .string mx, .slice (some ⟨g, off, none⟩) n cap, .slice pc nc capc] 73) := bk4.out.next hb5
        clear hb5 ho5
        go_wp2_with fail
        exact ⟨⟨k + 1, by omega, by go_num, by show StrV _ _ _; rw [HJ.out]; exact SV5.out, HO5.out, bk5.out, HB5.out⟩, by simp [intOf]; omega⟩
      · have HS : Hid (StrV wr u1 (foldV (bndV d) B ks)) := by
          have := hs.out
          rwa [List.take_of_length_le (by rw [HN.out]; omega)] at this
        clear hs
        have HS0 := HS
        have ho0 := ho
        have hbk0 := hbk
        have HB0 := HB
        clear HS ho hbk HB
        go_wp2_with fail
        go_loopw [5, 7] (fun ov iv wr => ∃ i : Nat, i ≤ nc ∧ iv = .int .i64 i ∧ Hid (OwnS wr w.heap.size ov ((cl.take i).foldl (clF (freeV d) (bndV d) (patV d) (foldV (bndV d) B ks)) (listV (freeV d) (bndV d) B ks))) ∧ Hid (StrV wr u1 (foldV (bndV d) B ks)) ∧ Hid (Blk wr w.heap.size #[.int .i64 kx, .int .i64 nx, .string tx, .string mx, .slice p n cap, .slice pc nc capc] 73) ∧ Hid (Below w.heap.size w wr)) (fun _ iv _ => nc - (intOf iv).toNat)
        case atStart => exact ⟨0, Nat.zero_le _, rfl, ho0.out, HS0.out, hbk0.out, HB0.out⟩
        case round =>
          clear HS0 ho0 hbk0 HB0 xa4 xa5
          obtain ⟨i, hi, rfl, hoi, hsi, hbi, HBi⟩ := hrel
          have xa5 := hbi.out.cell 5 _ rfl
          by_cases hlt : i < nc
          · obtain ⟨c, hci⟩ : ∃ c, cl[i]? = some c := ⟨cl[i]'(by rw [HNC.out]; exact hlt), List.getElem?_eq_getElem _⟩
            obtain ⟨gc, oc, rfl, -, hgcl, hatc⟩ := HXC.out (by intro h; rw [h] at hci; simp at hci)
            obtain ⟨csc, hcsl2, hcsc, pv, bdv, rfl, rp, rb⟩ := hatc i c hci
            obtain ⟨wc1, wc2, wc3, ec1, ec2⟩ := BC.out i c hci
            have RB : Hid (∀ w', Below w.heap.size w w' → Rows w' All 6 (HEx w' All d) bdv c.2) := fun w' hw => Rows.mono rb (SameOn.of_below hw) (fun _ h => h) (fun _ _ _ h => h.mono (SameOn.of_below hw) (fun _ h => h))
            obtain ⟨pp, capp, rfl, hclp, hcmp, hxp⟩ := rp
            obtain ⟨pb, capb, rfl, -⟩ := id rb
            have hnp : c.1.length ≤ 9223372036854775807 := by unfold maxLen at hcmp; omega
            have HXP : Hid (c.1 ≠ [] → ∃ g off, pp = some ⟨g, off, none⟩ ∧ All g ∧ g < w.heap.size ∧ ∀ i x, c.1[i]? = some x → ∃ cs, cs.length = 6 ∧ (∀ j, j < 6 → w.cell? ⟨g, off + i * 6 + j, none⟩ = cs[j]?) ∧ HEx w All d cs x) := hxp
            have HC0 : Hid (w.cell? ⟨gc, oc + i * 2, none⟩ = some (.slice pp c.1.length capp)) := by show _ = _; simpa using hcsc 0 (by omega)
            have HC1 : Hid (w.cell? ⟨gc, oc + i * 2 + 1, none⟩ = some (.slice pb c.2.length capb)) := by show _ = _; simpa using hcsc 1 (by omega)
            have HCI : Hid ((cl.take (i + 1)).foldl (clF (freeV d) (bndV d) (patV d) (foldV (bndV d) B ks)) (listV (freeV d) (bndV d) B ks) = onceS ((cl.take i).foldl (clF (freeV d) (bndV d) (patV d) (foldV (bndV d) B ks)) (listV (freeV d) (bndV d) B ks)) (listV (freeV d) (bndV d) (foldV (patV d) (foldV (bndV d) B ks) c.1) c.2)) := clF_snoc _ _ _ _ _ cl i c hci
            have lq := LQ.out i
            have OJ : Hid (∀ s ∈ (cl.take i).foldl (clF (freeV d) (bndV d) (patV d) (foldV (bndV d) B ks)) (listV (freeV d) (bndV d) B ks), okS s) := (GQ.out i).ok
            have BP : Hid (∀ (j : Nat) y, c.1[j]? = some y → wtEx d y ≤ 1048576 ∧ exS d y ∧ (foldV (patV d) (foldV (bndV d) B ks) (c.1.take j)).length ≤ 4194304) := fun j y hj => by
              obtain ⟨h1, -⟩ := wtS_kid (d := d) hj
              have h3 := foldV_len (patV d) (wtEx d) (c.1.take j) (foldV (bndV d) B ks) (fun y _ => patV_len d y)
              exact ⟨by omega, ec1 y (List.mem_of_getElem? hj), by omega⟩
            have LIN : Hid ((foldV (patV d) (foldV (bndV d) B ks) c.1).length + wtS (wtEx d) c.2 ≤ 4194304) := by
              have h3 := foldV_len (patV d) (wtEx d) c.1 (foldV (bndV d) B ks) (fun y _ => patV_len d y)
              show _ ≤ _
              omega
            have LBD : Hid (∀ B', (listV (freeV d) (bndV d) B' c.2).length ≤ 1048576) := fun B' => Nat.le_trans (listV_len d B' c.2) wc2
            have OBD : Hid (∀ B', ∀ s ∈ listV (freeV d) (bndV d) B' c.2, okS s) := fun B' s hs => by
              obtain ⟨y, hy, B2, h⟩ := listV_mem hs
              exact freeV_ok d y B2 (ec2 y hy) s h
            have hii : (i : Int) < (nc : Int) := by omega
            have hi0 : (0 : Int) ≤ (i : Int) := by omega
            have xc0 := (HBi.out.cell (p := ⟨gc, oc + i * 2, none⟩) hgcl).trans HC0.out
            have xc1 := (HBi.out.cell (p := ⟨gc, oc + i * 2 + 1, none⟩) hgcl).trans HC1.out
            generalize hnp0 : c.1.length = np at *
            have HNP : Hid (c.1.length = np) := hnp0
            generalize (cl.take i).foldl (clF (freeV d) (bndV d) (patV d) (foldV (bndV d) B ks)) (listV (freeV d) (bndV d) B ks) = OI at *
            generalize hFB : foldV (bndV d) B ks = FB at *
            have HFB : Hid (foldV (bndV d) B ks = FB) := hFB
            have HSI := hsi
            have HOI := hoi
            have HBI2 := hbi
            have HBB := HBi
            clear hcsc hcsl2 hatc hxp rb hnp0 hFB hsi hoi hbi HBi wc1 wc3 ec1 ec2 hclp hcmp
            go_wp2_with fail
            clear xc0 xc1 xa5
            go_loopw [8, 9] (fun bu iv wr => ∃ k : Nat, k ≤ np ∧ iv = .int .i64 k ∧ Hid (StrV wr bu (foldV (patV d) FB (c.1.take k))) ∧ Hid (OwnS wr w.heap.size u5 OI) ∧ Hid (StrV wr u1 FB) ∧ Hid (Blk wr w.heap.size #[.int .i64 kx, .int .i64 nx, .string tx, .string mx, .slice p n cap, .slice (some ⟨gc, oc, none⟩) nc capc] 73) ∧ Hid (Below w.heap.size w wr)) (fun _ iv _ => np - (intOf iv).toNat)
            case atStart => exact ⟨0, Nat.zero_le _, rfl, HSI.out, HOI.out, HSI.out, HBI2.out, HBB.out⟩
            case round =>
              clear HSI HOI HBI2 HBB
              obtain ⟨k, hk, rfl, hs, ho, hsf, hbk, HB⟩ := hrel
              have xa5 := hbk.out.cell 5 _ rfl
              have xc0 := (HB.out.cell (p := ⟨gc, oc + i * 2, none⟩) hgcl).trans HC0.out
              have xc1 := (HB.out.cell (p := ⟨gc, oc + i * 2 + 1, none⟩) hgcl).trans HC1.out
              by_cases hlk : k < np
              · obtain ⟨x, hxk⟩ : ∃ x, c.1[k]? = some x := ⟨c.1[k]'(by rw [HNP.out]; exact hlk), List.getElem?_eq_getElem _⟩
                obtain ⟨g, off, rfl, -, hgl, hat⟩ := HXP.out (by intro h; rw [h] at hxk; simp at hxk)
                obtain ⟨cs, hcsl, hcs, r1⟩ := hat k x hxk
                have E1 : ∀ w', Below w.heap.size w w' → HEx w' All d cs x := fun w' hw => r1.mono (SameOn.of_below hw) (fun _ h => h)
                obtain ⟨c0, c1, c2, c3, c4, c5, rfl⟩ := len6 hcsl
                have a0 := hcs 0 (by omega)
                have a1 := hcs 1 (by omega)
                have a2 := hcs 2 (by omega)
                have a3 := hcs 3 (by omega)
                have a4 := hcs 4 (by omega)
                have a5 := hcs 5 (by omega)
                rw [← HB.out.cell (p := ⟨g, _, none⟩) hgl] at a0 a1 a2 a3 a4 a5
                simp at a0 a1 a2 a3 a4 a5
                have hki : (k : Int) < (np : Int) := by omega
                have hk0 : (0 : Int) ≤ (k : Int) := by omega
                obtain ⟨wx, ex, lj⟩ := BP.out k x hxk
                have lx := patV_len d x
                have HJ : Hid (foldV (patV d) FB (c.1.take (k + 1)) = onceS (foldV (patV d) FB (c.1.take k)) (patV d x)) := foldV_snoc _ _ c.1 k x hxk
                have ON : Hid (∀ s ∈ patV d x, okS s) := fun s hs => patV_ok d x ex s hs
                have OS : Hid (∀ s ∈ onceS (foldV (patV d) FB (c.1.take k)) (patV d x), okS s) := fun s hs' => by
                  rcases onceS_mem _ _ s hs' with h | h
                  · exact hs.out.1.okS s h
                  · exact ON.out s h
                generalize foldV (patV d) FB (c.1.take k) = J at *
                clear hcs hat hcsl r1
                go_wp2_with fail
                refine (patVars_all d _ _ x (E1 _ HB.out) wx).mono ?_
                rintro e w4 ⟨u4', rfl, ho4, hb4⟩
                have HB4 : Hid (Below w.heap.size w w4) := HB.out.trans (hb4.mono HB.out.size)
                have SV : Hid (StrV w4 u8 J) := hs.out.below hb4
                have SR : Hid (StrR w4 u4' (patV d x)) := ho4.strR ON.out
                have HO4 : Hid (OwnS w4 w.heap.size u5 OI) := ho.out.next hb4
                have SF4 : Hid (StrV w4 u1 FB) := hsf.out.below hb4
                have bk4 : Hid (Blk w4 w.heap.size #[.int .i64 kx, .int .i64 nx, .string tx, .string mx, .slice p n cap, .slice (some ⟨gc, oc, none⟩) nc capc] 73) := hbk.out.next hb4
                clear hb4 ho4 xa5 xc0 xc1 a0 a1 a2 a3 a4 a5
                go_wp2_with fail
                refine (once_any _ _ _ J (patV d x) SV.out SR.out (by omega)).mono ?_
                rintro e w5 ⟨u5', rfl, ho5, hb5⟩
                have HB5 : Hid (Below w.heap.size w w5) := HB4.out.trans (hb5.mono HB4.out.size)
                have SV5 : Hid (StrV w5 u5' (onceS J (patV d x))) := ho5.strV OS.out
                have HO5 : Hid (OwnS w5 w.heap.size u5 OI) := HO4.out.next hb5
                have SF5 : Hid (StrV w5 u1 FB) := SF4.out.below hb5
                have bk5 : Hid (Blk w5 w.heap.size #[.int .i64 kx, .int .i64 nx, .string tx, .string mx, .slice p n cap, .slice (some ⟨gc, oc, none⟩) nc capc] 73) := bk4.out.next hb5
                clear hb5 ho5
                go_wp2_with fail
                exact ⟨⟨k + 1, by omega, by go_num, by show StrV _ _ _; rw [HJ.out]; exact SV5.out, HO5.out, SF5.out, bk5.out, HB5.out⟩, by simp [intOf]; omega⟩
              · have HIN : Hid (StrV wr u8 (foldV (patV d) FB c.1)) := by
                  have := hs.out
                  rwa [List.take_of_length_le (by rw [HNP.out]; omega)] at this
                clear hs
                go_wp2_with fail
                refine (hL _ _ c.2 _ (foldV (patV d) FB c.1) (RB.out _ HB.out) HIN.out wc2 LIN.out).mono ?_
                rintro e w4 ⟨u4', rfl, ho4, hb4⟩
                have HB4 : Hid (Below w.heap.size w w4) := HB.out.trans (hb4.mono HB.out.size)
                have SV : Hid (StrV w4 u5 OI) := (ho.out.next hb4).strV OJ.out
                have SR : Hid (StrR w4 u4' (listV (freeV d) (bndV d) (foldV (patV d) FB c.1) c.2)) := ho4.strR (OBD.out _)
                have lbd := LBD.out (foldV (patV d) FB c.1)
                have SF4 : Hid (StrV w4 u1 FB) := hsf.out.below hb4
                have bk4 : Hid (Blk w4 w.heap.size #[.int .i64 kx, .int .i64 nx, .string tx, .string mx, .slice p n cap, .slice (some ⟨gc, oc, none⟩) nc capc] 73) := hbk.out.next hb4
                clear hb4 ho4 xa5 xc0 xc1
                go_wp2_with fail
                refine (once_any _ _ _ OI _ SV.out SR.out (by omega)).mono ?_
                rintro e w5 ⟨u5', rfl, ho5, hb5⟩
                have HB5 : Hid (Below w.heap.size w w5) := HB4.out.trans (hb5.mono HB4.out.size)
                have HO5 : Hid (OwnS w5 w.heap.size u5' (onceS OI (listV (freeV d) (bndV d) (foldV (patV d) FB c.1) c.2))) := ho5.base HB4.out.size
                have SF5 : Hid (StrV w5 u1 FB) := SF4.out.below hb5
                have bk5 : Hid (Blk w5 w.heap.size #[.int .i64 kx, .int .i64 nx, .string tx, .string mx, .slice p n cap, .slice (some ⟨gc, oc, none⟩) nc capc] 73) := bk4.out.next hb5
                clear hb5 ho5
                go_wp2_with fail
                exact ⟨⟨i + 1, by omega, by go_num, by show OwnS _ _ _ _; rw [HCI.out]; exact HO5.out, SF5.out, bk5.out, HB5.out⟩, by simp [intOf]; omega⟩
          · have HF : Hid (OwnS wr w.heap.size u5 (cl.foldl (clF (freeV d) (bndV d) (patV d) (foldV (bndV d) B ks)) (listV (freeV d) (bndV d) B ks))) := by
              have := hoi.out
              rwa [List.take_of_length_le (by rw [HNC.out]; omega)] at this
            clear hoi
            go_wp2_with fail
            go_ret
            exact ⟨_, rfl, HF.out, HBi.out⟩

theorem free_of {d : Nat} (hF : FrC d) : FrC (d + 1) := by
  intro w cs x bv B h hB hwt hbt
  obtain ⟨kx, nx, tx, mx, ks, cl⟩ := x
  by_cases h2 : kx = 2
  · subst h2
    exact free_var w cs nx tx mx ks cl bv B h hB
  · by_cases h92 : kx = 9 ∧ ks.length = 2
    · obtain ⟨rfl, hl⟩ := h92
      match ks, hl with
      | [ya, yb], _ => exact free_two hF w cs nx tx mx ya yb cl bv B h hB hwt hbt
    · exact free_else (list_of hF) w cs kx nx tx mx ks cl bv B h2 h92 h hB hwt hbt
theorem free_all : ∀ d, FrC d
  | 0 => fun w cs x bv B h _ _ _ => h.elim
  | d + 1 => free_of (free_all d)
theorem list_all (d : Nat) : LsC d := list_of (free_all d)
end Go.Proofs.YtpkhblhcdnohmaaGreatDoor
/-
  The specification's l04Sorted: names, ascending, each once.
-/
namespace Go.Proofs.YtpkhblhcdnohmaaGreatDoor
open Go.ChangeShapes Go.WideShapes Go.ChangeAt Go.RowKit
set_option linter.unusedVariables false
set_option maxRecDepth 100000

theorem step_append_own {P : Program} (w : World) {ops : Array Oper} {o : Oper} {a : Act} {K : Act → World → Prop} {Q : Exit → Act → World → Prop} {E : Prop} (hgd : o.guard = none) (s x : Operand) (t : TypeId)
    (ho : o.op = .call { callee := .builtin .append, args := #[s, x], argTypes := #[t, t] })
    (base : Nat) (e : TypeId) (i : TypeInfo) (z : Value) (size bytes : Nat) (ht : P.underlying t = some (.slice e)) (hi : P.info? e = some i) (hz : i.zero = some z)
    (hsize : i.size = size) (hby : i.bytes = bytes) (hzs : z.cells.size = size) (hsz : 0 < size)
    (v : Value) (n : Nat) (xs : List Value) (hs : a.eval s = v) (hown : w.ownsRow base e size v n xs)
    (ad : Addr) (m c : Nat) (news : List Value) (hx : a.eval x = .slice (some ad) m c) (hl : news.length = m * size) (hnews : ∀ j u, news[j]? = some u → w.cell? (ad.add j) = some u) (h1 : ∀ u ∈ news, u.oneCell' = true)
    (h63 : n + m ≤ maxLen) (hbytes : (n + m) * bytes ≤ 140737488355328) (hbase : base ≤ w.heap.size)
    (h : ∀ v' w', w'.ownsRow base e size v' (n + m) (xs ++ news) → w.grownBy w' v.ownBlock → (v' = .slice none 0 0 ↔ v = .slice none 0 0 ∧ m = 0) → K (a.put o.dst v') w') :
    if Region.wanted o (yielded ops a.tmps) = true then Oper.wp P o a w K Q else E := by
  have hw : Region.wanted o (yielded ops a.tmps) = true := by simp [Region.wanted, hgd]
  rw [if_pos hw]
  exact wp_append_own w s x t ho base e i z size bytes ht hi hz hsize hby hzs hsz v n xs hs hown ad m c news hx hl hnews h1 h63 hbytes hbase h

def ltS (a b : ByteArray) : Bool := Op.bytesLess a.toList b.toList
/-- One more name among ascending ones. -/
def insS : List ByteArray → ByteArray → List ByteArray
  | [], s => [s]
  | x :: xs, s => if ltS x s then x :: insS xs s else if x.toList = s.toList then x :: xs else s :: x :: xs
def sortS (l : List ByteArray) : List ByteArray := l.foldl insS []
theorem insS_at : ∀ (l : List ByteArray) (s : ByteArray) (k : Nat), k ≤ l.length → (∀ j x, j < k → l[j]? = some x → ltS x s = true) → (∀ x, l[k]? = some x → ltS x s = false) →
    insS l s = (match l[k]? with | some x => if x.toList = s.toList then l else l.take k ++ s :: l.drop k | none => l.take k ++ s :: l.drop k)
  | [], s, k, hk, h1, h2 => by
    obtain rfl : k = 0 := by simpa using hk
    rfl
  | x :: xs, s, 0, hk, h1, h2 => by
    have h := h2 x rfl
    simp only [insS, h, Bool.false_eq_true, if_false, List.getElem?_cons_zero]
    split <;> rfl
  | x :: xs, s, k + 1, hk, h1, h2 => by
    have h := h1 0 x (by omega) rfl
    have ih := insS_at xs s k (by simpa using hk) (fun j y hj hy => h1 (j + 1) y (by omega) (by simpa using hy)) (fun y hy => h2 y (by simpa using hy))
    simp only [insS, h, if_true, List.getElem?_cons_succ]
    rw [ih]
    cases hk : xs[k]? with
    | none => rfl
    | some y =>
      simp only
      split <;> rfl
theorem insS_length (l : List ByteArray) (s : ByteArray) : (insS l s).length ≤ l.length + 1 := by
  induction l with
  | nil => simp [insS]
  | cons x xs ih =>
    unfold insS
    split
    · simp only [List.length_cons]; omega
    · split <;> simp
theorem insS_mem (l : List ByteArray) (s : ByteArray) : ∀ y ∈ insS l s, y = s ∨ y ∈ l := by
  induction l with
  | nil => intro y hy; simp [insS] at hy; exact .inl hy
  | cons x xs ih =>
    intro y hy
    unfold insS at hy
    split at hy
    · rcases List.mem_cons.1 hy with rfl | hy
      · exact .inr (by simp)
      · rcases ih y hy with h | h
        · exact .inl h
        · exact .inr (by simp [h])
    · split at hy
      · exact .inr hy
      · rcases List.mem_cons.1 hy with rfl | hy
        · exact .inl rfl
        · exact .inr hy
theorem sortS_snoc (l : List ByteArray) (k : Nat) (s : ByteArray) (h : l[k]? = some s) : sortS (l.take (k + 1)) = insS (sortS (l.take k)) s := by
  unfold sortS; rw [List.take_add_one, h]; simp
theorem sortS_len (l : List ByteArray) : ∀ k, (sortS (l.take k)).length ≤ k := by
  intro k
  induction k with
  | zero => simp [sortS]
  | succ k ih =>
    cases h : l[k]? with
    | none =>
      rw [List.take_of_length_le (by have := List.getElem?_eq_none_iff.1 h; omega)] at *
      omega
    | some s => rw [sortS_snoc l k s h]; have := insS_length (sortS (l.take k)) s; omega
theorem sortS_mem (l : List ByteArray) : ∀ k, ∀ y ∈ sortS (l.take k), y ∈ l := by
  intro k
  induction k with
  | zero => intro y hy; simp [sortS] at hy
  | succ k ih =>
    intro y hy
    cases h : l[k]? with
    | none =>
      refine ih y ?_
      rwa [List.take_of_length_le (by have := List.getElem?_eq_none_iff.1 h; omega), ← List.take_of_length_le (l := l) (i := k) (by have := List.getElem?_eq_none_iff.1 h; omega)] at hy
    | some s =>
      rw [sortS_snoc l k s h] at hy
      rcases insS_mem _ _ y hy with rfl | hy
      · exact List.mem_of_getElem? h
      · exact ih y hy
end Go.Proofs.YtpkhblhcdnohmaaGreatDoor
/-
  The specification's l04Sorted, walked.
-/
namespace Go.Proofs.YtpkhblhcdnohmaaGreatDoor
open Go.ChangeShapes Go.WideShapes Go.ChangeAt Go.RowKit
set_option linter.unusedVariables false
set_option maxRecDepth 100000

theorem OwnS.form {w : World} {B : Nat} {v : Value} {l : List ByteArray} (h : OwnS w B v l) (hn : v ≠ .slice none 0 0) : ∃ g cap, v = .slice (some ⟨g, 0, none⟩) l.length cap ∧ l.length ≤ cap ∧ cap ≤ maxLen ∧ B ≤ g ∧ g < w.heap.size := by
  rcases h.1.2 with ⟨hv, _⟩ | ⟨g, cap, cur, hv, hB, hg, h1, h2, _⟩
  · exact absurd hv hn
  · exact ⟨g, cap, hv, h1, h2, hB, (Array.getElem?_eq_some_iff.1 hg).1⟩
theorem OwnS.cellS {w : World} {B g n cap : Nat} {l : List ByteArray} (h : OwnS w B (.slice (some ⟨g, 0, none⟩) n cap) l) (hn : l.length = n) (k : Nat) (x : ByteArray) (hk : l[k]? = some x) : w.cell? ⟨g, k, none⟩ = some (.string x) := by
  subst hn
  exact (h.1.cellAt k (by have := (List.getElem?_eq_some_iff.1 hk).1; omega)).trans (by simp [strs, hk])
theorem lit0_owns {W : World} {B b : Nat} (h : W.heap[b]? = some (.cells #[] 9)) (hB : B ≤ b) : W.ownsRow B 9 1 (.slice (some ⟨b, 0, none⟩) 0 0) 0 [] :=
  ⟨rfl, .inr ⟨b, 0, #[], rfl, hB, h, Nat.le_refl _, Nat.zero_le _, rfl, rfl⟩⟩
theorem lit_at1 (W : World) (o o' : Obj) : ((W.alloc o).alloc o').drew.heap[W.heap.size + 1]? = some o' := by
  show ((W.heap.push o).push o')[W.heap.size + 1]? = some o'
  have : (W.heap.push o).size = W.heap.size + 1 := by simp
  rw [← this, Array.getElem?_push_size]
theorem lit1_at (W : World) (s : ByteArray) (o : Obj) (b : Nat) (hb : b = W.heap.size + 1) : ((W.alloc o).alloc (.cells #[.string s] 9)).drew.cell? ⟨b, 0, none⟩ = some (.string s) := by
  subst hb
  exact Blk.cell (cs := #[.string s]) (t := 9) (lit_at1 W o _) 0 _ rfl
theorem lit1_old (W : World) (s : ByteArray) (o : Obj) : ((W.alloc (.cells #[.string s] 9)).alloc o).drew.cell? ⟨W.heap.size, 0, none⟩ = some (.string s) :=
  Blk.cell (cs := #[.string s]) (t := 9) ((Blk.new (w := W)).alloc (o := o)) 0 _ rfl
theorem one_at {W : World} {b : Nat} {s : ByteArray} (h : W.cell? ⟨b, 0, none⟩ = some (.string s)) : ∀ j u, (strs [s])[j]? = some u → W.cell? ((⟨b, 0, none⟩ : Addr).add j) = some u := by
  intro j u hj
  match j, hj with
  | 0, hj => simp [strs] at hj; subst hj; exact h
theorem news_of {W W0 : World} {B g n cap : Nat} {J : List ByteArray} (h : OwnS W0 B (.slice (some ⟨g, 0, none⟩) n cap) J) (hn : J.length = n) (he : W.heap[g]? = W0.heap[g]?) (a : Nat) : ∀ j u, (strs (J.take a))[j]? = some u → W.cell? ((⟨g, 0, none⟩ : Addr).add j) = some u := by
  intro j u hj
  have ea : (⟨g, 0, none⟩ : Addr).add j = ⟨g, j, none⟩ := by cases j <;> simp [Addr.add]
  rw [ea, World.cell?_of_block he]
  simp only [strs, List.map_take, List.getElem?_take] at hj
  split at hj
  · rw [List.getElem?_map, Option.map_eq_some_iff] at hj
    obtain ⟨x, hx, rfl⟩ := hj
    exact h.cellS hn j x hx
  · cases hj
theorem news_from {W W0 : World} {B g n cap : Nat} {J : List ByteArray} (h : OwnS W0 B (.slice (some ⟨g, 0, none⟩) n cap) J) (hn : J.length = n) (he : W.heap[g]? = W0.heap[g]?) (a oa : Nat) (ho : a < J.length → oa = a) : ∀ j u, (strs (J.drop a))[j]? = some u → W.cell? ((⟨g, oa, none⟩ : Addr).add j) = some u := by
  intro j u hj
  simp only [strs, List.map_drop, List.getElem?_drop, List.getElem?_map, Option.map_eq_some_iff] at hj
  obtain ⟨x, hx, rfl⟩ := hj
  have hlt := (List.getElem?_eq_some_iff.1 hx).1
  obtain rfl := ho (by omega)
  have ea : (⟨g, oa, none⟩ : Addr).add j = ⟨g, oa + j, none⟩ := by cases j <;> simp [Addr.add]
  rw [ea, World.cell?_of_block he]
  exact h.cellS hn (oa + j) x hx
theorem own_nextS {w w' : World} {B c n : Nat} {e : TypeId} {v : Value} {xs : List Value} (h : w.ownsRow B e c v n xs) (hb : Below w.heap.size w w') : w'.ownsRow B e c v n xs := by
  refine ⟨h.1, ?_⟩
  rcases h.2 with hn | ⟨g, cap, cur, hv, hB, hg, hr⟩
  · exact .inl hn
  · exact .inr ⟨g, cap, cur, hv, hB, (hb.block g (Array.getElem?_eq_some_iff.1 hg).1).trans hg, hr⟩
theorem below_own {N : Nat} {a b c : World} {v : Value} {e : TypeId} {k n : Nat} {xs : List Value} (h : Below N a b) (hN : N ≤ a.heap.size) (ho : b.ownsRow N e k v n xs) (hg : b.grownBy c v.ownBlock) : Below N a c := by
  refine ⟨hg.os.trans h.os, hg.tape.trans h.tape, hg.output.trans h.output, Nat.le_trans h.size hg.size, fun j hj => ?_⟩
  refine (hg.block j (Nat.lt_of_lt_of_le hj (Nat.le_trans hN h.size)) (fun e => ?_)).trans (h.block j hj)
  rcases ho.2 with hn | ⟨g', cap', cur, hv', hB, hg', _⟩
  · rw [hn.1] at e; cases e
  · rw [hv'] at e
    simp [Value.ownBlock] at e
    omega

set_option maxHeartbeats 16000000 in
theorem sorted_any (w : World) (v : Value) (xs : List ByteArray) (h : StrR w v xs) (hl : xs.length ≤ 2097152) :
    Calls Tryz.prog 36 #[v] w fun e w' => ∃ u, e = .returned u ∧ OwnS w' w.heap.size u (sortS xs) ∧ Below w.heap.size w w' := by
  obtain ⟨i0, hi, hz0, hz1, hz2⟩ := info_parts info_str
  obtain ⟨p, cap, rfl, hcl, hcm, hx⟩ := h
  have HX : Hid (∀ k x, xs[k]? = some x → ∃ g off, p = some ⟨g, off, none⟩ ∧ g < w.heap.size ∧ w.cell? ⟨g, off + k, none⟩ = some (.string x)) := fun k x hk => by
    obtain ⟨g, off, e, _, hg, hat⟩ := hx (by intro e; rw [e] at hk; simp at hk)
    obtain ⟨cs, _, hcs, rfl, _⟩ := hat k x hk
    have := hcs 0 (by decide)
    simp only [Nat.mul_one, Nat.add_zero, List.getElem?_cons_zero] at this
    exact ⟨g, off, e, hg, this⟩
  clear hx
  have O0 : Hid (OwnS (w.alloc (.cells #[] 9)) w.heap.size (.slice (some ⟨w.heap.size, 0, none⟩) 0 0) []) := OwnS.fresh
  have B0 : Hid (Below w.heap.size w (w.alloc (.cells #[] 9))) := (Below.refl _ _).alloc (Nat.le_refl _) _
  generalize hn : xs.length = n at *
  have HN : Hid (xs.length = n) := hn
  clear hn
  go_enter Tryz.func36, Tryz.ntmps36
  go_wp2_with fail
  go_loopw [3, 4] (fun ov iv wr => ∃ k : Nat, k ≤ n ∧ iv = .int .i64 k ∧ Hid (OwnS wr w.heap.size ov (sortS (xs.take k)) ∧ ov ≠ .slice none 0 0) ∧ Hid (Below w.heap.size w wr)) (fun _ iv _ => n - (intOf iv).toNat)
  case atStart => exact ⟨0, Nat.zero_le _, rfl, ⟨O0.out, by simp⟩, B0.out⟩
  case round =>
    clear O0 B0
    obtain ⟨k, hk, rfl, ho, HB⟩ := hrel
    obtain ⟨g3, c3, hu3, hc3, hc3', hB3, hg3⟩ := OwnS.form ho.out.1 ho.out.2
    subst hu3
    by_cases hlt : k < n
    · obtain ⟨s, hsk⟩ : ∃ s, xs[k]? = some s := ⟨xs[k]'(by rw [HN.out]; exact hlt), List.getElem?_eq_getElem _⟩
      obtain ⟨gx, ox, rfl, hgx, cx⟩ := HX.out k s hsk
      have hjl := sortS_len xs k
      have HJ : Hid (sortS (xs.take (k + 1)) = insS (sortS (xs.take k)) s) := sortS_snoc xs k s hsk
      generalize hJ : sortS (xs.take k) = J at *
      have HO : Hid (OwnS wr w.heap.size (.slice (some ⟨g3, 0, none⟩) J.length c3) J) := ho.out.1
      have HCX : Hid (w.cell? ⟨gx, ox + k, none⟩ = some (.string s)) := cx
      generalize hm : J.length = m at *
      have HM : Hid (J.length = m) := hm
      clear ho cx hJ hm
      go_wp2_with fail
      go_loopw [5] (fun av wq => ∃ (a q : Nat), a ≤ m ∧ av = .int .i64 a ∧ wq = wr.drewN q ∧ Hid (∀ j x, j < a → J[j]? = some x → ltS x s = true)) (fun av _ => m - (intOf av).toNat)
      case atStart => exact ⟨0, 0, Nat.zero_le _, rfl, rfl, fun j x hj => by omega⟩
      case round =>
        obtain ⟨a, q, ha, rfl, rfl, HA⟩ := hrel
        have cx : wr.cell? ⟨gx, ox + k, none⟩ = some (.string s) := (HB.out.cell (p := ⟨gx, _, none⟩) hgx).trans HCX.out
        by_cases hlm : a < m
        · obtain ⟨y, hya⟩ : ∃ y, J[a]? = some y := ⟨J[a]'(by rw [HM.out]; exact hlm), List.getElem?_eq_getElem _⟩
          have cy : wr.cell? ⟨g3, a, none⟩ = some (.string y) := HO.out.cellS HM.out a y hya
          cases hys : Op.bytesLess y.toList s.toList with
          | true =>
            go_wp2_with fail
            go_quiet (fail)
            go_wp2_with fail
            refine ⟨⟨a + 1, q + nq, by omega, by go_num, rfl, fun j x hj hx => ?_⟩, by simp [intOf]; omega⟩
            by_cases hja : j < a
            · exact HA.out j x hja hx
            · obtain rfl : j = a := by omega
              obtain rfl : y = x := Option.some.inj (hya.symm.trans hx)
              exact hys
          | false =>
            go_wp2_with fail
            go_quiet (fail)
            go_wp2_with fail
            have cxA : ((wr.drewN q).drewN nq).cell? ⟨gx, ox + k, none⟩ = some (.string s) := cx
            have cyA : ((wr.drewN q).drewN nq).cell? ⟨g3, a, none⟩ = some (.string y) := cy
            have HOA : Hid (OwnS ((wr.drewN q).drewN nq) w.heap.size (.slice (some ⟨g3, 0, none⟩) m c3) J) := HO.out
            have HBA : Hid (Below w.heap.size w ((wr.drewN q).drewN nq)) := below_drewN (below_drewN HB.out q) nq
            clear cx cy HO HB hg3
            generalize (wr.drewN q).drewN nq = wA at cxA cyA HOA HBA ⊢
            have hne : ((a : Int) == (m : Int)) = false := by simp; omega
            have hne2 : (a == m) = false := by simp; omega
            have HIN : Hid (insS J s = if y.toList = s.toList then J else J.take a ++ s :: J.drop a) := by
              have := insS_at J s a (by rw [HM.out]; exact ha) HA.out (fun x hx => by obtain rfl : y = x := Option.some.inj (hya.symm.trans hx); exact hys)
              rw [hya] at this
              exact this
            cases hyq : (y.toList == s.toList) with
            | true =>
              have HIJ : Hid (sortS (xs.take (k + 1)) = J) := by
                show _ = _
                rw [HJ.out, HIN.out, if_pos (beq_iff_eq.1 hyq)]
              go_quiet (fail)
              go_wp2_with fail
              exact ⟨⟨k + 1, by omega, by go_num, ⟨by rw [HIJ.out]; exact HOA.out, by simp⟩, below_drewN HBA.out nq⟩, by simp [intOf]; omega⟩
            | false =>
              go_quiet (fail)
              go_wp2_with fail
              have hac : a ≤ c3 := by omega
              have LT : Hid ((strs (J.take a)).length = a * 1) := by show _ = _; rw [strs_length, List.length_take, HM.out]; omega
              have LD : Hid ((strs (J.drop a)).length = (m - a) * 1) := by show _ = _; rw [strs_length, List.length_drop, HM.out]; omega
              have HOW : Hid (OwnS (wA.drewN nq) w.heap.size (.slice (some ⟨g3, 0, none⟩) m c3) J) := HOA.out
              have HBW : Hid (Below w.heap.size w (wA.drewN nq)) := below_drewN HBA.out nq
              have cxW : (wA.drewN nq).cell? ⟨gx, ox + k, none⟩ = some (.string s) := cxA
              clear cxA cyA HOA HBA
              generalize wA.drewN nq = W0 at HOW HBW cxW ⊢
              have hg3W : g3 < W0.heap.size := (HOW.out.off rfl).2
              have hgxW : gx < W0.heap.size := Nat.lt_of_lt_of_le hgx HBW.out.size
              obtain ⟨oa, hoe, hoa⟩ : ∃ oa, oa = a ∧ (a < J.length → oa = a) := ⟨_, rfl, (fun _ => rfl)⟩
              go_region_held_law (fun w' => w'.cell? ⟨gx, ox + k, none⟩ = some (.string s))
                (first | assumption | go_keep | (go_split_ands; exact cell_next ((Below.refl _ _).alloc (Nat.le_refl _) _) (by assumption)))
                (first
                  | (refine step_append_own (W0.alloc (.cells #[] 9)).drew (by rfl) _ _ _ (by rfl) W0.heap.size 9 i0 (.string ⟨#[]⟩) 1 16 Tryz.underlying44 hi hz0 hz1 hz2 rfl (by decide) (.slice (some ⟨W0.heap.size, 0, none⟩) 0 0) 0 [] (by rfl) (lit0_owns (W := (W0.alloc (.cells #[] 9)).drew) (b := W0.heap.size) (Blk.new (w := W0)) (by simp)) ⟨g3, 0, none⟩ a c3 (strs (J.take a)) (by rfl) LT.out (news_of HOW.out HM.out (((Below.refl W0.heap.size W0).alloc (Nat.le_refl _) (.cells #[] 9)).drew.block g3 hg3W) a) (strs_oneCell _) (by unfold maxLen; omega) (by omega) ((Below.refl W0.heap.size W0).alloc (Nat.le_refl _) (.cells #[] 9)).drew.size ?_; intro v1 w1 hown1 hgr1 hv1; have O1 : Hid (w1.ownsRow W0.heap.size 9 1 v1 (0 + a) ([] ++ strs (J.take a))) := hown1; have K1 : Hid (Below W0.heap.size W0 w1) := below_own ((Below.refl W0.heap.size W0).alloc (Nat.le_refl _) (.cells #[] 9)).drew (Nat.le_refl _) (lit0_owns (W := (W0.alloc (.cells #[] 9)).drew) (b := W0.heap.size) (Blk.new (w := W0)) (by simp)) hgr1; have cx1 := cell_next K1.out cxW)
                  | (refine step_append_own ((W0.alloc (.cells #[] 9)).alloc (.cells #[.string s] 9)).drew (by rfl) _ _ _ (by rfl) W0.heap.size 9 i0 (.string ⟨#[]⟩) 1 16 Tryz.underlying44 hi hz0 hz1 hz2 rfl (by decide) (.slice (some ⟨W0.heap.size, 0, none⟩) 0 0) 0 [] (by rfl) (lit0_owns (W := ((W0.alloc (.cells #[] 9)).alloc (.cells #[.string s] 9)).drew) (b := W0.heap.size) ((Blk.new (w := W0)).alloc) (by simp)) ⟨g3, 0, none⟩ a c3 (strs (J.take a)) (by rfl) LT.out (news_of HOW.out HM.out ((((Below.refl W0.heap.size W0).alloc (Nat.le_refl _) (.cells #[] 9)).alloc (by simp) (.cells #[.string s] 9)).drew.block g3 hg3W) a) (strs_oneCell _) (by unfold maxLen; omega) (by omega) (((Below.refl W0.heap.size W0).alloc (Nat.le_refl _) (.cells #[] 9)).alloc (by simp) (.cells #[.string s] 9)).drew.size ?_; intro v1 w1 hown1 hgr1 hv1; have O1 : Hid (w1.ownsRow W0.heap.size 9 1 v1 (0 + a) ([] ++ strs (J.take a))) := hown1; have K1 : Hid (Below W0.heap.size W0 w1) := below_own (((Below.refl W0.heap.size W0).alloc (Nat.le_refl _) (.cells #[] 9)).alloc (by simp) (.cells #[.string s] 9)).drew (Nat.le_refl _) (lit0_owns (W := ((W0.alloc (.cells #[] 9)).alloc (.cells #[.string s] 9)).drew) (b := W0.heap.size) ((Blk.new (w := W0)).alloc) (by simp)) hgr1; have cx1 := cell_next K1.out cxW; have N1 : Hid (w1.cell? ⟨W0.heap.size + 1, 0, none⟩ = some (.string s)) := (World.cell?_of_block (hgr1.block (W0.heap.size + 1) (by simp) (by simp [Value.ownBlock]))).trans (lit1_at W0 s _ _ rfl))
                  | (refine step_append_own ((W0.alloc (.cells #[.string s] 9)).alloc (.cells #[] 9)).drew (by rfl) _ _ _ (by rfl) W0.heap.size 9 i0 (.string ⟨#[]⟩) 1 16 Tryz.underlying44 hi hz0 hz1 hz2 rfl (by decide) (.slice (some ⟨(W0.heap.size + 1), 0, none⟩) 0 0) 0 [] (by rfl) (lit0_owns (W := ((W0.alloc (.cells #[.string s] 9)).alloc (.cells #[] 9)).drew) (b := (W0.heap.size + 1)) (lit_at1 W0 _ _) (by simp)) ⟨g3, 0, none⟩ a c3 (strs (J.take a)) (by rfl) LT.out (news_of HOW.out HM.out ((((Below.refl W0.heap.size W0).alloc (Nat.le_refl _) (.cells #[.string s] 9)).alloc (by simp) (.cells #[] 9)).drew.block g3 hg3W) a) (strs_oneCell _) (by unfold maxLen; omega) (by omega) (((Below.refl W0.heap.size W0).alloc (Nat.le_refl _) (.cells #[.string s] 9)).alloc (by simp) (.cells #[] 9)).drew.size ?_; intro v1 w1 hown1 hgr1 hv1; have O1 : Hid (w1.ownsRow W0.heap.size 9 1 v1 (0 + a) ([] ++ strs (J.take a))) := hown1; have K1 : Hid (Below W0.heap.size W0 w1) := below_own (((Below.refl W0.heap.size W0).alloc (Nat.le_refl _) (.cells #[.string s] 9)).alloc (by simp) (.cells #[] 9)).drew (Nat.le_refl _) (lit0_owns (W := ((W0.alloc (.cells #[.string s] 9)).alloc (.cells #[] 9)).drew) (b := (W0.heap.size + 1)) (lit_at1 W0 _ _) (by simp)) hgr1; have cx1 := cell_next K1.out cxW; have N1 : Hid (w1.cell? ⟨W0.heap.size, 0, none⟩ = some (.string s)) := (World.cell?_of_block (hgr1.block W0.heap.size (by simp; omega) (by simp [Value.ownBlock]))).trans (lit1_old W0 s _))
                  | (refine step_append_own (w1.alloc (.cells #[.string s] 9)) (by rfl) _ _ _ (by rfl) W0.heap.size 9 i0 (.string ⟨#[]⟩) 1 16 Tryz.underlying44 hi hz0 hz1 hz2 rfl (by decide) v1 (0 + a) ([] ++ strs (J.take a)) (by rfl) (own_nextS O1.out ((Below.refl _ _).alloc (Nat.le_refl _) (.cells #[.string s] 9))) ⟨w1.heap.size, 0, none⟩ 1 1 (strs [s]) (by rfl) (by rfl) (one_str w1 s _ rfl) (strs_oneCell _) (by unfold maxLen; omega) (by omega) (K1.out.alloc K1.out.size (.cells #[.string s] 9)).size ?_; intro v2 w2 hown2 hgr2 hv2; have K2 : Hid (Below W0.heap.size W0 w2) := below_own (K1.out.alloc K1.out.size (.cells #[.string s] 9)) (Nat.le_refl _) (own_nextS O1.out ((Below.refl _ _).alloc (Nat.le_refl _) (.cells #[.string s] 9))) hgr2; have O2 : Hid (w2.ownsRow W0.heap.size 9 1 v2 (0 + a + 1) ([] ++ strs (J.take a) ++ strs [s])) := hown2; have cx2 := cell_next K2.out cxW)
                  | (refine step_append_own w1 (by rfl) _ _ _ (by rfl) W0.heap.size 9 i0 (.string ⟨#[]⟩) 1 16 Tryz.underlying44 hi hz0 hz1 hz2 rfl (by decide) v1 (0 + a) ([] ++ strs (J.take a)) (by rfl) O1.out ⟨(W0.heap.size + 1), 0, none⟩ 1 1 (strs [s]) (by rfl) (by rfl) (one_at N1.out) (strs_oneCell _) (by unfold maxLen; omega) (by omega) K1.out.size ?_; intro v2 w2 hown2 hgr2 hv2; have K2 : Hid (Below W0.heap.size W0 w2) := below_own K1.out (Nat.le_refl _) O1.out hgr2; have O2 : Hid (w2.ownsRow W0.heap.size 9 1 v2 (0 + a + 1) ([] ++ strs (J.take a) ++ strs [s])) := hown2; have cx2 := cell_next K2.out cxW)
                  | (refine step_append_own w1 (by rfl) _ _ _ (by rfl) W0.heap.size 9 i0 (.string ⟨#[]⟩) 1 16 Tryz.underlying44 hi hz0 hz1 hz2 rfl (by decide) v1 (0 + a) ([] ++ strs (J.take a)) (by rfl) O1.out ⟨W0.heap.size, 0, none⟩ 1 1 (strs [s]) (by rfl) (by rfl) (one_at N1.out) (strs_oneCell _) (by unfold maxLen; omega) (by omega) K1.out.size ?_; intro v2 w2 hown2 hgr2 hv2; have K2 : Hid (Below W0.heap.size W0 w2) := below_own K1.out (Nat.le_refl _) O1.out hgr2; have O2 : Hid (w2.ownsRow W0.heap.size 9 1 v2 (0 + a + 1) ([] ++ strs (J.take a) ++ strs [s])) := hown2; have cx2 := cell_next K2.out cxW)
                  | (refine step_append_own w2 (by rfl) _ _ _ (by rfl) W0.heap.size 9 i0 (.string ⟨#[]⟩) 1 16 Tryz.underlying44 hi hz0 hz1 hz2 rfl (by decide) v2 (0 + a + 1) ([] ++ strs (J.take a) ++ strs [s]) (by rfl) O2.out ⟨g3, oa, none⟩ (m - a) (c3 - a) (strs (J.drop a)) (by first | rfl | (simp [Act.eval, Act.put, hoe]; omega) | (simp [Act.eval, Act.put, hoe]; split <;> rfl)) LD.out (news_from HOW.out HM.out (K2.out.block g3 hg3W) a oa hoa) (strs_oneCell _) (by unfold maxLen; omega) (by omega) K2.out.size ?_; intro v3 w3 hown3 hgr3 hv3; have K3 : Hid (Below W0.heap.size W0 w3) := below_own K2.out (Nat.le_refl _) O2.out hgr3; have O3 : Hid (w3.ownsRow W0.heap.size 9 1 v3 (0 + a + 1 + (m - a)) ([] ++ strs (J.take a) ++ strs [s] ++ strs (J.drop a))) := hown3; have cx3 := cell_next K3.out cxW))
              all_goals
                go_split_ands
                have HO9 : Hid (OwnS w3 w.heap.size v3 (sortS (xs.take (k + 1))) ∧ v3 ≠ .slice none 0 0) := by
                  have h1 : sortS (xs.take (k + 1)) = J.take a ++ s :: J.drop a := by rw [HJ.out]; exact (HIN.out.trans (if_neg (by intro e; rw [e] at hyq; simp at hyq)))
                  have h2 := O3.out
                  have h3 : ([] ++ strs (J.take a) ++ strs [s] ++ strs (J.drop a)) = strs (J.take a ++ s :: J.drop a) := by simp [strs]
                  have h4 : 0 + a + 1 + (m - a) = (J.take a ++ s :: J.drop a).length := by
                    rw [List.length_append, List.length_cons, List.length_take, List.length_drop, HM.out]; omega
                  rw [h3, h4] at h2
                  refine ⟨?_, fun e => ?_⟩
                  · rw [h1]; exact OwnS.base ⟨h2, K3.out.size⟩ HBW.out.size
                  · have h5 := h2.2
                    rw [e] at h5
                    rcases h5 with ⟨_, h6⟩ | ⟨g', cap', cur, h6, _⟩
                    · simp at h6
                    · simp at h6
                have HB9 : Hid (Below w.heap.size w w3) := HBW.out.trans (K3.out.mono HBW.out.size)
                clear O1 O2 O3 K1 K2 K3 hown1 hown2 hown3 hgr1 hgr2 hgr3 hv1 hv2 hv3 cx1 cx2 cx3
                go_wp2_with fail
                exact ⟨⟨k + 1, by omega, by go_num, HO9.out, HB9.out⟩, by simp [intOf]; omega⟩
        · obtain rfl : m = a := by omega
          have heq : ((m : Int) == (m : Int)) = true := by simp
          have HIN : Hid (insS J s = J.take m ++ s :: J.drop m) := by
            have hnone : J[m]? = none := List.getElem?_eq_none (by rw [HM.out]; exact Nat.le_refl _)
            have := insS_at J s m (by rw [HM.out]; exact Nat.le_refl _) HA.out (fun x hx => by rw [hnone] at hx; cases hx)
            rw [hnone] at this
            exact this
          clear heq ha hlm
          go_wp2_with fail
          go_quiet (fail)
          go_wp2_with fail
          have cxA : ((wr.drewN q).drewN nq).cell? ⟨gx, ox + k, none⟩ = some (.string s) := cx
          have HOA : Hid (OwnS ((wr.drewN q).drewN nq) w.heap.size (.slice (some ⟨g3, 0, none⟩) m c3) J) := HO.out
          have HBA : Hid (Below w.heap.size w ((wr.drewN q).drewN nq)) := below_drewN (below_drewN HB.out q) nq
          clear cx HO HB hg3
          generalize (wr.drewN q).drewN nq = wA at cxA HOA HBA ⊢
          go_quiet (fail)
          go_wp2_with fail
          have hac : m ≤ c3 := by omega
          have LT : Hid ((strs (J.take m)).length = m * 1) := by show _ = _; rw [strs_length, List.length_take, HM.out]; omega
          have LD : Hid ((strs (J.drop m)).length = (m - m) * 1) := by show _ = _; rw [strs_length, List.length_drop, HM.out]; omega
          have HOW : Hid (OwnS (wA.drewN nq) w.heap.size (.slice (some ⟨g3, 0, none⟩) m c3) J) := HOA.out
          have HBW : Hid (Below w.heap.size w (wA.drewN nq)) := below_drewN HBA.out nq
          have cxW : (wA.drewN nq).cell? ⟨gx, ox + k, none⟩ = some (.string s) := cxA
          clear cxA HOA HBA
          generalize wA.drewN nq = W0 at HOW HBW cxW ⊢
          have hg3W : g3 < W0.heap.size := (HOW.out.off rfl).2
          have hgxW : gx < W0.heap.size := Nat.lt_of_lt_of_le hgx HBW.out.size
          obtain ⟨oa, hoe, hoa⟩ : ∃ oa, oa = (if c3 = m then 0 else m) ∧ (m < J.length → oa = m) := ⟨_, rfl, (fun h => absurd h (by rw [HM.out]; omega))⟩
          go_region_held_law (fun w' => w'.cell? ⟨gx, ox + k, none⟩ = some (.string s))
            (first | assumption | go_keep | (go_split_ands; exact cell_next ((Below.refl _ _).alloc (Nat.le_refl _) _) (by assumption)))
            (first
              | (refine step_append_own (W0.alloc (.cells #[] 9)).drew (by rfl) _ _ _ (by rfl) W0.heap.size 9 i0 (.string ⟨#[]⟩) 1 16 Tryz.underlying44 hi hz0 hz1 hz2 rfl (by decide) (.slice (some ⟨W0.heap.size, 0, none⟩) 0 0) 0 [] (by rfl) (lit0_owns (W := (W0.alloc (.cells #[] 9)).drew) (b := W0.heap.size) (Blk.new (w := W0)) (by simp)) ⟨g3, 0, none⟩ m c3 (strs (J.take m)) (by rfl) LT.out (news_of HOW.out HM.out (((Below.refl W0.heap.size W0).alloc (Nat.le_refl _) (.cells #[] 9)).drew.block g3 hg3W) m) (strs_oneCell _) (by unfold maxLen; omega) (by omega) ((Below.refl W0.heap.size W0).alloc (Nat.le_refl _) (.cells #[] 9)).drew.size ?_; intro v1 w1 hown1 hgr1 hv1; have O1 : Hid (w1.ownsRow W0.heap.size 9 1 v1 (0 + m) ([] ++ strs (J.take m))) := hown1; have K1 : Hid (Below W0.heap.size W0 w1) := below_own ((Below.refl W0.heap.size W0).alloc (Nat.le_refl _) (.cells #[] 9)).drew (Nat.le_refl _) (lit0_owns (W := (W0.alloc (.cells #[] 9)).drew) (b := W0.heap.size) (Blk.new (w := W0)) (by simp)) hgr1; have cx1 := cell_next K1.out cxW)
              | (refine step_append_own ((W0.alloc (.cells #[] 9)).alloc (.cells #[.string s] 9)).drew (by rfl) _ _ _ (by rfl) W0.heap.size 9 i0 (.string ⟨#[]⟩) 1 16 Tryz.underlying44 hi hz0 hz1 hz2 rfl (by decide) (.slice (some ⟨W0.heap.size, 0, none⟩) 0 0) 0 [] (by rfl) (lit0_owns (W := ((W0.alloc (.cells #[] 9)).alloc (.cells #[.string s] 9)).drew) (b := W0.heap.size) ((Blk.new (w := W0)).alloc) (by simp)) ⟨g3, 0, none⟩ m c3 (strs (J.take m)) (by rfl) LT.out (news_of HOW.out HM.out ((((Below.refl W0.heap.size W0).alloc (Nat.le_refl _) (.cells #[] 9)).alloc (by simp) (.cells #[.string s] 9)).drew.block g3 hg3W) m) (strs_oneCell _) (by unfold maxLen; omega) (by omega) (((Below.refl W0.heap.size W0).alloc (Nat.le_refl _) (.cells #[] 9)).alloc (by simp) (.cells #[.string s] 9)).drew.size ?_; intro v1 w1 hown1 hgr1 hv1; have O1 : Hid (w1.ownsRow W0.heap.size 9 1 v1 (0 + m) ([] ++ strs (J.take m))) := hown1; have K1 : Hid (Below W0.heap.size W0 w1) := below_own (((Below.refl W0.heap.size W0).alloc (Nat.le_refl _) (.cells #[] 9)).alloc (by simp) (.cells #[.string s] 9)).drew (Nat.le_refl _) (lit0_owns (W := ((W0.alloc (.cells #[] 9)).alloc (.cells #[.string s] 9)).drew) (b := W0.heap.size) ((Blk.new (w := W0)).alloc) (by simp)) hgr1; have cx1 := cell_next K1.out cxW; have N1 : Hid (w1.cell? ⟨W0.heap.size + 1, 0, none⟩ = some (.string s)) := (World.cell?_of_block (hgr1.block (W0.heap.size + 1) (by simp) (by simp [Value.ownBlock]))).trans (lit1_at W0 s _ _ rfl))
              | (refine step_append_own ((W0.alloc (.cells #[.string s] 9)).alloc (.cells #[] 9)).drew (by rfl) _ _ _ (by rfl) W0.heap.size 9 i0 (.string ⟨#[]⟩) 1 16 Tryz.underlying44 hi hz0 hz1 hz2 rfl (by decide) (.slice (some ⟨(W0.heap.size + 1), 0, none⟩) 0 0) 0 [] (by rfl) (lit0_owns (W := ((W0.alloc (.cells #[.string s] 9)).alloc (.cells #[] 9)).drew) (b := (W0.heap.size + 1)) (lit_at1 W0 _ _) (by simp)) ⟨g3, 0, none⟩ m c3 (strs (J.take m)) (by rfl) LT.out (news_of HOW.out HM.out ((((Below.refl W0.heap.size W0).alloc (Nat.le_refl _) (.cells #[.string s] 9)).alloc (by simp) (.cells #[] 9)).drew.block g3 hg3W) m) (strs_oneCell _) (by unfold maxLen; omega) (by omega) (((Below.refl W0.heap.size W0).alloc (Nat.le_refl _) (.cells #[.string s] 9)).alloc (by simp) (.cells #[] 9)).drew.size ?_; intro v1 w1 hown1 hgr1 hv1; have O1 : Hid (w1.ownsRow W0.heap.size 9 1 v1 (0 + m) ([] ++ strs (J.take m))) := hown1; have K1 : Hid (Below W0.heap.size W0 w1) := below_own (((Below.refl W0.heap.size W0).alloc (Nat.le_refl _) (.cells #[.string s] 9)).alloc (by simp) (.cells #[] 9)).drew (Nat.le_refl _) (lit0_owns (W := ((W0.alloc (.cells #[.string s] 9)).alloc (.cells #[] 9)).drew) (b := (W0.heap.size + 1)) (lit_at1 W0 _ _) (by simp)) hgr1; have cx1 := cell_next K1.out cxW; have N1 : Hid (w1.cell? ⟨W0.heap.size, 0, none⟩ = some (.string s)) := (World.cell?_of_block (hgr1.block W0.heap.size (by simp; omega) (by simp [Value.ownBlock]))).trans (lit1_old W0 s _))
              | (refine step_append_own (w1.alloc (.cells #[.string s] 9)) (by rfl) _ _ _ (by rfl) W0.heap.size 9 i0 (.string ⟨#[]⟩) 1 16 Tryz.underlying44 hi hz0 hz1 hz2 rfl (by decide) v1 (0 + m) ([] ++ strs (J.take m)) (by rfl) (own_nextS O1.out ((Below.refl _ _).alloc (Nat.le_refl _) (.cells #[.string s] 9))) ⟨w1.heap.size, 0, none⟩ 1 1 (strs [s]) (by rfl) (by rfl) (one_str w1 s _ rfl) (strs_oneCell _) (by unfold maxLen; omega) (by omega) (K1.out.alloc K1.out.size (.cells #[.string s] 9)).size ?_; intro v2 w2 hown2 hgr2 hv2; have K2 : Hid (Below W0.heap.size W0 w2) := below_own (K1.out.alloc K1.out.size (.cells #[.string s] 9)) (Nat.le_refl _) (own_nextS O1.out ((Below.refl _ _).alloc (Nat.le_refl _) (.cells #[.string s] 9))) hgr2; have O2 : Hid (w2.ownsRow W0.heap.size 9 1 v2 (0 + m + 1) ([] ++ strs (J.take m) ++ strs [s])) := hown2; have cx2 := cell_next K2.out cxW)
              | (refine step_append_own w1 (by rfl) _ _ _ (by rfl) W0.heap.size 9 i0 (.string ⟨#[]⟩) 1 16 Tryz.underlying44 hi hz0 hz1 hz2 rfl (by decide) v1 (0 + m) ([] ++ strs (J.take m)) (by rfl) O1.out ⟨(W0.heap.size + 1), 0, none⟩ 1 1 (strs [s]) (by rfl) (by rfl) (one_at N1.out) (strs_oneCell _) (by unfold maxLen; omega) (by omega) K1.out.size ?_; intro v2 w2 hown2 hgr2 hv2; have K2 : Hid (Below W0.heap.size W0 w2) := below_own K1.out (Nat.le_refl _) O1.out hgr2; have O2 : Hid (w2.ownsRow W0.heap.size 9 1 v2 (0 + m + 1) ([] ++ strs (J.take m) ++ strs [s])) := hown2; have cx2 := cell_next K2.out cxW)
              | (refine step_append_own w1 (by rfl) _ _ _ (by rfl) W0.heap.size 9 i0 (.string ⟨#[]⟩) 1 16 Tryz.underlying44 hi hz0 hz1 hz2 rfl (by decide) v1 (0 + m) ([] ++ strs (J.take m)) (by rfl) O1.out ⟨W0.heap.size, 0, none⟩ 1 1 (strs [s]) (by rfl) (by rfl) (one_at N1.out) (strs_oneCell _) (by unfold maxLen; omega) (by omega) K1.out.size ?_; intro v2 w2 hown2 hgr2 hv2; have K2 : Hid (Below W0.heap.size W0 w2) := below_own K1.out (Nat.le_refl _) O1.out hgr2; have O2 : Hid (w2.ownsRow W0.heap.size 9 1 v2 (0 + m + 1) ([] ++ strs (J.take m) ++ strs [s])) := hown2; have cx2 := cell_next K2.out cxW)
              | (refine step_append_own w2 (by rfl) _ _ _ (by rfl) W0.heap.size 9 i0 (.string ⟨#[]⟩) 1 16 Tryz.underlying44 hi hz0 hz1 hz2 rfl (by decide) v2 (0 + m + 1) ([] ++ strs (J.take m) ++ strs [s]) (by rfl) O2.out ⟨g3, oa, none⟩ (m - m) (c3 - m) (strs (J.drop m)) (by first | rfl | (simp [Act.eval, Act.put, hoe]; omega) | (simp [Act.eval, Act.put, hoe]; split <;> rfl)) LD.out (news_from HOW.out HM.out (K2.out.block g3 hg3W) m oa hoa) (strs_oneCell _) (by unfold maxLen; omega) (by omega) K2.out.size ?_; intro v3 w3 hown3 hgr3 hv3; have K3 : Hid (Below W0.heap.size W0 w3) := below_own K2.out (Nat.le_refl _) O2.out hgr3; have O3 : Hid (w3.ownsRow W0.heap.size 9 1 v3 (0 + m + 1 + (m - m)) ([] ++ strs (J.take m) ++ strs [s] ++ strs (J.drop m))) := hown3; have cx3 := cell_next K3.out cxW))
          all_goals
            go_split_ands
            have HO9 : Hid (OwnS w3 w.heap.size v3 (sortS (xs.take (k + 1))) ∧ v3 ≠ .slice none 0 0) := by
              have h1 : sortS (xs.take (k + 1)) = J.take m ++ s :: J.drop m := by rw [HJ.out]; exact HIN.out
              have h2 := O3.out
              have h3 : ([] ++ strs (J.take m) ++ strs [s] ++ strs (J.drop m)) = strs (J.take m ++ s :: J.drop m) := by simp [strs]
              have h4 : 0 + m + 1 + (m - m) = (J.take m ++ s :: J.drop m).length := by
                rw [List.length_append, List.length_cons, List.length_take, List.length_drop, HM.out]; omega
              rw [h3, h4] at h2
              refine ⟨?_, fun e => ?_⟩
              · rw [h1]; exact OwnS.base ⟨h2, K3.out.size⟩ HBW.out.size
              · have h5 := h2.2
                rw [e] at h5
                rcases h5 with ⟨_, h6⟩ | ⟨g', cap', cur, h6, _⟩
                · simp at h6
                · simp at h6
            have HB9 : Hid (Below w.heap.size w w3) := HBW.out.trans (K3.out.mono HBW.out.size)
            clear O1 O2 O3 K1 K2 K3 hown1 hown2 hown3 hgr1 hgr2 hgr3 hv1 hv2 hv3 cx1 cx2 cx3
            go_wp2_with fail
            exact ⟨⟨k + 1, by omega, by go_num, HO9.out, HB9.out⟩, by simp [intOf]; omega⟩
    · have HS : Hid (OwnS wr w.heap.size (.slice (some ⟨g3, 0, none⟩) (sortS (xs.take k)).length c3) (sortS xs)) := by
        have := ho.out.1
        rw [List.take_of_length_le (by rw [HN.out]; omega)] at this ⊢
        exact this
      clear ho
      go_wp2_with fail
      go_ret
      exact ⟨_, rfl, HS.out, HB.out⟩
end Go.Proofs.YtpkhblhcdnohmaaGreatDoor
/-
  The specification's ClauseFree.
-/
namespace Go.Proofs.YtpkhblhcdnohmaaGreatDoor
open Go.ChangeShapes Go.WideShapes Go.ChangeAt Go.RowKit
set_option linter.unusedVariables false
set_option maxRecDepth 100000

/-- What is free in a clause. -/
def cfV (d : Nat) (c : Cl) : List ByteArray := listV (freeV d) (bndV d) (foldV (patV d) [] c.1) c.2
theorem cfV_len (d : Nat) (c : Cl) : (cfV d c).length ≤ wtS (wtEx d) c.2 := listV_len d _ _

set_option maxHeartbeats 8000000 in
theorem specClauseFree_any (w : World) (d : Nat) (cs : List Value) (c : Cl) (h : HCl w All (HEx w All d) cs c) (hw : wtCl (wtEx d) c ≤ 1048576) :
    Calls Tryz.prog 16 #[.agg cs.toArray] w fun e w' => ∃ u, e = .returned u ∧ OwnS w' w.heap.size u (sortS (cfV d c)) ∧ Below w.heap.size w w' := by
  obtain ⟨pv, bdv, rfl, rp, rb⟩ := h
  have hc : wtCl (wtEx d) c = wtS (wtEx d) c.1 + wtS (wtEx d) c.2 := rfl
  have wc2 : wtS (wtEx d) c.2 ≤ 1048576 := by omega
  have EP : Hid (∀ y ∈ c.1, exS d y) := fun y hy => by
    obtain ⟨cs, h⟩ := rows_mem' rp y hy
    exact h.txts
  have EB : Hid (∀ y ∈ c.2, exS d y) := fun y hy => by
    obtain ⟨cs, h⟩ := rows_mem' rb y hy
    exact h.txts
  have RB : Hid (∀ w', Below w.heap.size w w' → Rows w' All 6 (HEx w' All d) bdv c.2) := fun w' hw => Rows.mono rb (SameOn.of_below hw) (fun _ h => h) (fun _ _ _ h => h.mono (SameOn.of_below hw) (fun _ h => h))
  obtain ⟨pp, capp, rfl, hclp, hcmp, hxp⟩ := rp
  obtain ⟨pb, capb, rfl, -⟩ := id rb
  have hnp : c.1.length ≤ 9223372036854775807 := by unfold maxLen at hcmp; omega
  have HXP : Hid (c.1 ≠ [] → ∃ g off, pp = some ⟨g, off, none⟩ ∧ All g ∧ g < w.heap.size ∧ ∀ i x, c.1[i]? = some x → ∃ cs, cs.length = 6 ∧ (∀ j, j < 6 → w.cell? ⟨g, off + i * 6 + j, none⟩ = cs[j]?) ∧ HEx w All d cs x) := hxp
  have BP : Hid (∀ (j : Nat) y, c.1[j]? = some y → wtEx d y ≤ 1048576 ∧ exS d y ∧ (foldV (patV d) [] (c.1.take j)).length ≤ 1048576) := fun j y hj => by
    obtain ⟨h1, -⟩ := wtS_kid (d := d) hj
    have h3 := foldV_len (patV d) (wtEx d) (c.1.take j) [] (fun y _ => patV_len d y)
    simp only [List.length_nil] at h3
    exact ⟨by omega, EP.out y (List.mem_of_getElem? hj), by omega⟩
  have LIN : Hid ((foldV (patV d) [] c.1).length + wtS (wtEx d) c.2 ≤ 4194304) := by
    have h3 := foldV_len (patV d) (wtEx d) c.1 [] (fun y _ => patV_len d y)
    simp only [List.length_nil] at h3
    show _ ≤ _
    omega
  have LC : Hid ((cfV d c).length ≤ 2097152) := by have := cfV_len d c; show _ ≤ _; omega
  have OC : Hid (∀ s ∈ cfV d c, okS s) := fun s hs => by
    obtain ⟨y, hy, B2, h⟩ := listV_mem hs
    exact freeV_ok d y B2 (EB.out y hy) s h
  generalize hnp0 : c.1.length = np at *
  have HNP : Hid (c.1.length = np) := hnp0
  have bA : Hid (Blk ((w.alloc (.cells #[.slice pp np capp, .slice pb c.2.length capb] 48)).alloc (.cells #[] 9)) w.heap.size #[.slice pp np capp, .slice pb c.2.length capb] 48) := Blk.new.alloc
  have BA : Below w.heap.size w (w.alloc (.cells #[.slice pp np capp, .slice pb c.2.length capb] 48)) := (Below.refl _ _).alloc (Nat.le_refl _) _
  have BB : Hid (Below w.heap.size w ((w.alloc (.cells #[.slice pp np capp, .slice pb c.2.length capb] 48)).alloc (.cells #[] 9))) := BA.alloc BA.size _
  have O0 : Hid (OwnS ((w.alloc (.cells #[.slice pp np capp, .slice pb c.2.length capb] 48)).alloc (.cells #[] 9)) w.heap.size (.slice (some ⟨w.heap.size + 1, 0, none⟩) 0 0) []) := by
    have := (OwnS.fresh (w := w.alloc (.cells #[.slice pp np capp, .slice pb c.2.length capb] 48))).base BA.size
    rwa [alloc_hs] at this
  clear hxp rb hnp0 hw hc BA EP EB hclp hcmp
  go_enter Tryz.func16, Tryz.ntmps16
  go_wp2_with fail
  go_loopw [3, 4] (fun bu iv wr => ∃ k : Nat, k ≤ np ∧ iv = .int .i64 k ∧ Hid (StrV wr bu (foldV (patV d) [] (c.1.take k))) ∧ Hid (Blk wr w.heap.size #[.slice pp np capp, .slice pb c.2.length capb] 48) ∧ Hid (Below w.heap.size w wr)) (fun _ iv _ => np - (intOf iv).toNat)
  case atStart => exact ⟨0, Nat.zero_le _, rfl, O0.out.strV (fun s hs => by cases hs), bA.out, BB.out⟩
  case round =>
    clear O0 bA BB
    obtain ⟨k, hk, rfl, hs, hbk, HB⟩ := hrel
    have xa0 := hbk.out.cell 0 _ rfl
    have xa1 := hbk.out.cell 1 _ rfl
    by_cases hlk : k < np
    · obtain ⟨x, hxk⟩ : ∃ x, c.1[k]? = some x := ⟨c.1[k]'(by rw [HNP.out]; exact hlk), List.getElem?_eq_getElem _⟩
      obtain ⟨g, off, rfl, -, hgl, hat⟩ := HXP.out (by intro h; rw [h] at hxk; simp at hxk)
      obtain ⟨cs, hcsl, hcs, r1⟩ := hat k x hxk
      have E1 : ∀ w', Below w.heap.size w w' → HEx w' All d cs x := fun w' hw => r1.mono (SameOn.of_below hw) (fun _ h => h)
      obtain ⟨c0, c1, c2, c3, c4, c5, rfl⟩ := len6 hcsl
      have a0 := hcs 0 (by omega)
      have a1 := hcs 1 (by omega)
      have a2 := hcs 2 (by omega)
      have a3 := hcs 3 (by omega)
      have a4 := hcs 4 (by omega)
      have a5 := hcs 5 (by omega)
      rw [← HB.out.cell (p := ⟨g, _, none⟩) hgl] at a0 a1 a2 a3 a4 a5
      simp at a0 a1 a2 a3 a4 a5
      have hki : (k : Int) < (np : Int) := by omega
      have hk0 : (0 : Int) ≤ (k : Int) := by omega
      obtain ⟨wx, ex, lj⟩ := BP.out k x hxk
      have lx := patV_len d x
      have HJ : Hid (foldV (patV d) [] (c.1.take (k + 1)) = onceS (foldV (patV d) [] (c.1.take k)) (patV d x)) := foldV_snoc _ _ c.1 k x hxk
      have ON : Hid (∀ s ∈ patV d x, okS s) := fun s hs => patV_ok d x ex s hs
      have OS : Hid (∀ s ∈ onceS (foldV (patV d) [] (c.1.take k)) (patV d x), okS s) := fun s hs' => by
        rcases onceS_mem _ _ s hs' with h | h
        · exact hs.out.1.okS s h
        · exact ON.out s h
      generalize foldV (patV d) [] (c.1.take k) = J at *
      clear hcs hat hcsl r1
      go_wp2_with fail
      refine (patVars_all d _ _ x (E1 _ HB.out) wx).mono ?_
      rintro e w4 ⟨u4', rfl, ho4, hb4⟩
      have HB4 : Hid (Below w.heap.size w w4) := HB.out.trans (hb4.mono HB.out.size)
      have SV : Hid (StrV w4 u3 J) := hs.out.below hb4
      have SR : Hid (StrR w4 u4' (patV d x)) := ho4.strR ON.out
      have bk4 : Hid (Blk w4 w.heap.size #[.slice (some ⟨g, off, none⟩) np capp, .slice pb c.2.length capb] 48) := hbk.out.next hb4
      clear hb4 ho4 xa0 xa1 a0 a1 a2 a3 a4 a5
      go_wp2_with fail
      refine (once_any _ _ _ J (patV d x) SV.out SR.out (by omega)).mono ?_
      rintro e w5 ⟨u5', rfl, ho5, hb5⟩
      have HB5 : Hid (Below w.heap.size w w5) := HB4.out.trans (hb5.mono HB4.out.size)
      have SV5 : Hid (StrV w5 u5' (onceS J (patV d x))) := ho5.strV OS.out
      have bk5 : Hid (Blk w5 w.heap.size #[.slice (some ⟨g, off, none⟩) np capp, .slice pb c.2.length capb] 48) := bk4.out.next hb5
      clear hb5 ho5
      go_wp2_with fail
      exact ⟨⟨k + 1, by omega, by go_num, by show StrV _ _ _; rw [HJ.out]; exact SV5.out, bk5.out, HB5.out⟩, by simp [intOf]; omega⟩
    · have HIN : Hid (StrV wr u3 (foldV (patV d) [] c.1)) := by
        have := hs.out
        rwa [List.take_of_length_le (by rw [HNP.out]; omega)] at this
      clear hs
      go_wp2_with fail
      refine (list_all d _ _ c.2 _ (foldV (patV d) [] c.1) (RB.out _ HB.out) HIN.out wc2 LIN.out).mono ?_
      rintro e w4 ⟨u4', rfl, ho4, hb4⟩
      have HB4 : Hid (Below w.heap.size w w4) := HB.out.trans (hb4.mono HB.out.size)
      have SR : Hid (StrR w4 u4' (cfV d c)) := ho4.strR OC.out
      clear hb4 ho4 xa0 xa1
      go_wp2_with fail
      refine (sorted_any _ _ (cfV d c) SR.out LC.out).mono ?_
      rintro e w5 ⟨u5', rfl, ho5, hb5⟩
      have HB5 : Hid (Below w.heap.size w w5) := HB4.out.trans (hb5.mono HB4.out.size)
      have HO5 : Hid (OwnS w5 w.heap.size u5' (sortS (cfV d c))) := ho5.base HB4.out.size
      clear hb5 ho5
      go_wp2_with fail
      go_ret
      exact ⟨_, rfl, HO5.out, HB5.out⟩
end Go.Proofs.YtpkhblhcdnohmaaGreatDoor
/-
  The specification's ModuleOk, by contract: an expression's own parts.
-/
namespace Go.Proofs.YtpkhblhcdnohmaaGreatDoor
open Go.ChangeShapes Go.WideShapes Go.ChangeAt Go.RowKit
set_option linter.unusedVariables false

set_option maxHeartbeats 1000000 in
theorem l01Has_any (w : World) (g cap : Nat) (ss : List ByteArray) (s : ByteArray) (hl : ss.length ≤ 1000) (h : ∀ i x, ss[i]? = some x → w.cell? ⟨g, i, none⟩ = some (.string x)) :
    Calls Tryz.prog 52 #[.slice (some ⟨g, 0, none⟩) ss.length cap, .string s] w fun e w' => e = .returned (.bool (ss.any fun x => x.toList == s.toList)) ∧ w' = w := by
  have HH : Hid (∀ i x, ss[i]? = some x → w.cell? ⟨g, i, none⟩ = some (.string x)) := h
  generalize hn : ss.length = n at *
  have HN : Hid (ss.length = n) := hn
  clear h hn
  go_enter Tryz.func52, Tryz.ntmps52
  go_wp2
  go_loop [5] (fun iv => ∃ k : Nat, k ≤ n ∧ iv = .int .i64 k ∧ Hid ((ss.take k).any (fun x => x.toList == s.toList) = false)) (fun iv => n - (intOf iv).toNat)
  case atStart => exact ⟨0, Nat.zero_le _, rfl, by show _ = _; simp⟩
  case round =>
    obtain ⟨k, hk, rfl, hno⟩ := hrel
    by_cases hlt : k < n
    · obtain ⟨x, hxk⟩ : ∃ x, ss[k]? = some x := ⟨ss[k]'(by rw [HN.out]; exact hlt), List.getElem?_eq_getElem _⟩
      have a0 := HH.out k x hxk
      have hki : (k : Int) < (n : Int) := by omega
      have hk0 : (0 : Int) ≤ (k : Int) := by omega
      cases hq : (x.toList == s.toList) with
      | true =>
        have HS : Hid ((ss.any fun x => x.toList == s.toList) = true) := anyT_at _ ss k x hxk hq
        go_wp2
        go_ret
        exact ⟨by rw [HS.out]; rfl, rfl⟩
      | false =>
        have HS : Hid ((ss.take (k + 1)).any (fun x => x.toList == s.toList) = false) := anyT_succ _ ss k x hxk hno.out hq
        go_wp2
        go_round
        case rel => exact ⟨k + 1, by omega, by go_num, HS⟩
        case measure => simp [intOf]; omega
    · have HS : Hid ((ss.any fun x => x.toList == s.toList) = false) := by
        have := hno.out
        rwa [List.take_of_length_le (by rw [HN.out]; omega)] at this
      go_wp2
      go_ret
      exact ⟨by rw [HS.out]; rfl, rfl⟩

/-- The five signs. -/
def opsL : List ByteArray := [⟨#[61, 61]⟩, ⟨#[60]⟩, ⟨#[43]⟩, ⟨#[45]⟩, ⟨#[42]⟩]
theorem opsL_any (t : ByteArray) : (opsL.any fun x => x.toList == t.toList) = opB t := by
  have h : ∀ l : List UInt8, (l == t.toList) = (t.toList == l) := fun l => by rw [Bool.eq_iff_iff]; simp; exact eq_comm
  have e0 : (⟨#[61, 61]⟩ : ByteArray).toList = [61, 61] := by rw [ByteArray.toList_eq]
  have e1 : (⟨#[60]⟩ : ByteArray).toList = [60] := by rw [ByteArray.toList_eq]
  have e2 : (⟨#[43]⟩ : ByteArray).toList = [43] := by rw [ByteArray.toList_eq]
  have e3 : (⟨#[45]⟩ : ByteArray).toList = [45] := by rw [ByteArray.toList_eq]
  have e4 : (⟨#[42]⟩ : ByteArray).toList = [42] := by rw [ByteArray.toList_eq]
  simp only [opsL, List.any_cons, List.any_nil, Bool.or_false, opB, e0, e1, e2, e3, e4, h, Bool.or_assoc]
end Go.Proofs.YtpkhblhcdnohmaaGreatDoor
/-
  The specification's ModuleOk, by contract: l02Plain.
-/
namespace Go.Proofs.YtpkhblhcdnohmaaGreatDoor
open Go.ChangeShapes Go.WideShapes Go.ChangeAt Go.RowKit
set_option linter.unusedVariables false

theorem ops_at (W : World) (g : Nat) (hg : g = W.heap.size) : ∀ i x, opsL[i]? = some x → (W.alloc (.cells #[.string ⟨#[61, 61]⟩, .string ⟨#[60]⟩, .string ⟨#[43]⟩, .string ⟨#[45]⟩, .string ⟨#[42]⟩] 9)).cell? ⟨g, i, none⟩ = some (.string x) := by
  subst hg
  intro i x h
  match i, h with
  | 0, h => simp [opsL] at h; subst h; exact cell_new W _ _ 0 _ rfl
  | 1, h => simp [opsL] at h; subst h; exact cell_new W _ _ 1 _ rfl
  | 2, h => simp [opsL] at h; subst h; exact cell_new W _ _ 2 _ rfl
  | 3, h => simp [opsL] at h; subst h; exact cell_new W _ _ 3 _ rfl
  | 4, h => simp [opsL] at h; subst h; exact cell_new W _ _ 4 _ rfl
  | i + 5, h => simp [opsL] at h

set_option maxHeartbeats 8000000 in
set_option maxRecDepth 100000 in
theorem plainS_any (k n : Int) (t m : ByteArray) (p q : Option Addr) (nk c nc c' : Nat) (w : World) (hts : t.size ≤ maxLen) (hms : m.size ≤ maxLen) (hnk : nk ≤ 9223372036854775807) (hnc : nc ≤ 9223372036854775807) :
    Calls Tryz.prog 71 #[.agg #[.int .i64 k, .int .i64 n, .string t, .string m, .slice p nk c, .slice q nc c']] w fun e w' => e = .returned (.bool (plainB k n t m nk nc)) ∧ Below w.heap.size w w' := by
  by_cases c1 : ¬ k = 0 ∧ ¬ n = 0
  · obtain ⟨c1a, c1b⟩ := c1
    have HS : Hid (plainB k n t m nk nc = false) := by
      show _ = _
      simp [plainB, numB, c1a, c1b]
    have BL : Hid (Below w.heap.size w (w.alloc (.cells #[.int .i64 k, .int .i64 n, .string t, .string m, .slice p nk c, .slice q nc c'] 73))) := (Below.refl _ _).alloc (Nat.le_refl _) _
    go_enter Tryz.func71, Tryz.ntmps71
    go_wp2
    go_ret
    exact ⟨by rw [HS.out]; rfl, by first | exact BL.out | exact BL.out.alloc BL.out.size _⟩
  by_cases c2 : ¬ k = 8 ∧ ¬ m.toList = []
  · obtain ⟨c2a, c2b⟩ := c2
    have hm2 : (m.toList == []) = false := by simpa using c2b
    by_cases k0 : k = 0
    · subst k0
      have HS : Hid (plainB 0 n t m nk nc = false) := by
        show _ = _
        simp [plainB, modB, c2b]
      have BL : Hid (Below w.heap.size w (w.alloc (.cells #[.int .i64 0, .int .i64 n, .string t, .string m, .slice p nk c, .slice q nc c'] 73))) := (Below.refl _ _).alloc (Nat.le_refl _) _
      go_enter Tryz.func71, Tryz.ntmps71
      go_wp2
      go_ret
      exact ⟨by rw [HS.out]; rfl, by first | exact BL.out | exact BL.out.alloc BL.out.size _⟩
    · have n0 : n = 0 := Classical.byContradiction fun h => c1 ⟨k0, h⟩
      subst n0
      clear c1
      have HS : Hid (plainB k 0 t m nk nc = false) := by
        show _ = _
        simp [plainB, modB, c2a, c2b]
      have BL : Hid (Below w.heap.size w (w.alloc (.cells #[.int .i64 k, .int .i64 0, .string t, .string m, .slice p nk c, .slice q nc c'] 73))) := (Below.refl _ _).alloc (Nat.le_refl _) _
      go_enter Tryz.func71, Tryz.ntmps71
      go_wp2
      go_ret
      exact ⟨by rw [HS.out]; rfl, by first | exact BL.out | exact BL.out.alloc BL.out.size _⟩
  by_cases c3 : ¬ k = 10 ∧ ¬ nc = 0
  · obtain ⟨c3a, c3b⟩ := c3
    have hnc1 : (0 : Int) < (nc : Int) := by omega
    have hcl : inB nc (clsLo k) (clsHi k) = false := by simp [inB, clsLo, clsHi, c3a]; omega
    by_cases k0 : k = 0
    · subst k0
      have hm : m.toList = [] := Classical.byContradiction fun h => c2 ⟨by omega, h⟩
      have hm2 : (m.toList == []) = true := by simpa using hm
      clear c1 c2 hm
      have HS : Hid (plainB 0 n t m nk nc = false) := by
        show _ = _
        simp only [plainB, hcl]; simp
      have BL : Hid (Below w.heap.size w (w.alloc (.cells #[.int .i64 0, .int .i64 n, .string t, .string m, .slice p nk c, .slice q nc c'] 73))) := (Below.refl _ _).alloc (Nat.le_refl _) _
      go_enter Tryz.func71, Tryz.ntmps71
      go_wp2
      go_ret
      exact ⟨by rw [HS.out]; rfl, by first | exact BL.out | exact BL.out.alloc BL.out.size _⟩
    · have n0 : n = 0 := Classical.byContradiction fun h => c1 ⟨k0, h⟩
      subst n0
      clear c1
      by_cases k8 : k = 8
      · subst k8
        clear c2
        have HS : Hid (plainB 8 0 t m nk nc = false) := by
          show _ = _
          simp only [plainB, hcl]; simp
        have BL : Hid (Below w.heap.size w (w.alloc (.cells #[.int .i64 8, .int .i64 0, .string t, .string m, .slice p nk c, .slice q nc c'] 73))) := (Below.refl _ _).alloc (Nat.le_refl _) _
        go_enter Tryz.func71, Tryz.ntmps71
        go_wp2
        go_ret
        exact ⟨by rw [HS.out]; rfl, by first | exact BL.out | exact BL.out.alloc BL.out.size _⟩
      · have c3c : (k != 10) = true := by simpa using c3a
        have hnc2 : 0 < nc := by omega
        have hm : m.toList = [] := Classical.byContradiction fun h => c2 ⟨k8, h⟩
        have hm2 : (m.toList == []) = true := by simpa using hm
        clear c2 hm
        have HS : Hid (plainB k 0 t m nk nc = false) := by
          show _ = _
          simp only [plainB, hcl]; simp
        have BL : Hid (Below w.heap.size w (w.alloc (.cells #[.int .i64 k, .int .i64 0, .string t, .string m, .slice p nk c, .slice q nc c'] 73))) := (Below.refl _ _).alloc (Nat.le_refl _) _
        go_enter Tryz.func71, Tryz.ntmps71
        go_wp2
        go_ret
        exact ⟨by rw [HS.out]; rfl, by first | exact BL.out | exact BL.out.alloc BL.out.size _⟩
  have hm : k ≠ 8 → m.toList = [] := fun h8 => Classical.byContradiction fun h => c2 ⟨h8, h⟩
  have hn0 : k ≠ 0 → n = 0 := fun h0 => Classical.byContradiction fun h => c1 ⟨h0, h⟩
  have hc0 : k ≠ 10 → nc = 0 := fun h0 => Classical.byContradiction fun h => c3 ⟨h0, h⟩
  clear c1 c2 c3
  by_cases k0 : k = 0
  · subst k0
    obtain rfl := hc0 (by omega)
    have hm1 := hm (by omega)
    have hm2 : (m.toList == []) = true := by simpa using hm1
    clear hm hn0 hc0
    by_cases ht : t.toList = []
    · have ht2 : (t.toList == []) = true := by simpa using ht
      by_cases hk : nk = 0
      · subst hk
        have HS : Hid (plainB 0 n t m 0 0 = inB n 0 999999999) := by
          show _ = _
          (rw [Bool.eq_iff_iff]; simp [plainB, numB, modB, txtB, txtK, tkB, kidLo, kidHi, clsLo, clsHi, inB, ht, hm1])
        have BL : Hid (Below w.heap.size w (w.alloc (.cells #[.int .i64 0, .int .i64 n, .string t, .string m, .slice p 0 c, .slice q 0 c'] 73))) := (Below.refl _ _).alloc (Nat.le_refl _) _
        go_enter Tryz.func71, Tryz.ntmps71
        go_wp2_with (first | (go_at_call 29; go_must (refine (specAtomOk_any _ _ (by assumption)).mono ?_; rintro e w9 ⟨rfl, rfl⟩)) | (go_at_call 87; go_must (refine (specVarOk_any _ _ (by assumption)).mono ?_; rintro e w9 ⟨rfl, rfl⟩)) | (go_at_call 30; go_must (refine (l01In_any _ _ _ _).mono ?_; rintro e w9 ⟨rfl, rfl⟩)))
        go_ret
        exact ⟨by rw [HS.out]; rfl, by first | exact BL.out | exact BL.out.alloc BL.out.size _⟩
      · have hk2 : ((nk : Int) == 0) = false := by simp; omega
        have HS : Hid (plainB 0 n t m nk 0 = false) := by
          show _ = _
          (simp [plainB, numB, modB, txtB, txtK, tkB, kidLo, kidHi, clsLo, clsHi, inB, ht, hm1]; omega)
        have BL : Hid (Below w.heap.size w (w.alloc (.cells #[.int .i64 0, .int .i64 n, .string t, .string m, .slice p nk c, .slice q 0 c'] 73))) := (Below.refl _ _).alloc (Nat.le_refl _) _
        go_enter Tryz.func71, Tryz.ntmps71
        go_wp2_with (first | (go_at_call 29; go_must (refine (specAtomOk_any _ _ (by assumption)).mono ?_; rintro e w9 ⟨rfl, rfl⟩)) | (go_at_call 87; go_must (refine (specVarOk_any _ _ (by assumption)).mono ?_; rintro e w9 ⟨rfl, rfl⟩)) | (go_at_call 30; go_must (refine (l01In_any _ _ _ _).mono ?_; rintro e w9 ⟨rfl, rfl⟩)))
        go_ret
        exact ⟨by rw [HS.out]; rfl, by first | exact BL.out | exact BL.out.alloc BL.out.size _⟩
    · have ht2 : (t.toList == []) = false := by simpa using ht
      have HS : Hid (plainB 0 n t m nk 0 = false) := by
        show _ = _
        simp [plainB, numB, modB, txtB, txtK, tkB, kidLo, kidHi, clsLo, clsHi, inB, ht, hm1]
      have BL : Hid (Below w.heap.size w (w.alloc (.cells #[.int .i64 0, .int .i64 n, .string t, .string m, .slice p nk c, .slice q 0 c'] 73))) := (Below.refl _ _).alloc (Nat.le_refl _) _
      go_enter Tryz.func71, Tryz.ntmps71
      go_wp2
      go_ret
      exact ⟨by rw [HS.out]; rfl, by first | exact BL.out | exact BL.out.alloc BL.out.size _⟩
  by_cases k1 : k = 1
  · subst k1
    obtain rfl := hn0 (by omega)
    obtain rfl := hc0 (by omega)
    have hm1 := hm (by omega)
    have hm2 : (m.toList == []) = true := by simpa using hm1
    clear hm hn0 hc0
    cases ha : atomB t with
    | true =>
      have HS : Hid (plainB 1 0 t m nk 0 = ((nk : Int) == 0)) := by
        show _ = _
        (rw [Bool.eq_iff_iff]; simp [plainB, numB, modB, txtB, txtK, tkB, kidLo, kidHi, clsLo, clsHi, inB, ha, hm1] <;> omega)
      have BL : Hid (Below w.heap.size w (w.alloc (.cells #[.int .i64 1, .int .i64 0, .string t, .string m, .slice p nk c, .slice q 0 c'] 73))) := (Below.refl _ _).alloc (Nat.le_refl _) _
      go_enter Tryz.func71, Tryz.ntmps71
      go_wp2_with (first | (go_at_call 29; go_must (refine (specAtomOk_any _ _ (by assumption)).mono ?_; rintro e w9 ⟨rfl, rfl⟩; rw [ha])))
      go_ret
      exact ⟨by rw [HS.out]; rfl, by first | exact BL.out | exact BL.out.alloc BL.out.size _⟩
    | false =>
      have HS : Hid (plainB 1 0 t m nk 0 = false) := by
        show _ = _
        (simp [plainB, numB, modB, txtB, txtK, tkB, kidLo, kidHi, clsLo, clsHi, inB, ha])
      have BL : Hid (Below w.heap.size w (w.alloc (.cells #[.int .i64 1, .int .i64 0, .string t, .string m, .slice p nk c, .slice q 0 c'] 73))) := (Below.refl _ _).alloc (Nat.le_refl _) _
      go_enter Tryz.func71, Tryz.ntmps71
      go_wp2_with (first | (go_at_call 29; go_must (refine (specAtomOk_any _ _ (by assumption)).mono ?_; rintro e w9 ⟨rfl, rfl⟩; rw [ha])))
      go_ret
      exact ⟨by rw [HS.out]; rfl, by first | exact BL.out | exact BL.out.alloc BL.out.size _⟩
  by_cases k2 : k = 2
  · subst k2
    obtain rfl := hn0 (by omega)
    obtain rfl := hc0 (by omega)
    have hm1 := hm (by omega)
    have hm2 : (m.toList == []) = true := by simpa using hm1
    clear hm hn0 hc0
    cases ha : varB t with
    | true =>
      have HS : Hid (plainB 2 0 t m nk 0 = ((nk : Int) == 0)) := by
        show _ = _
        (rw [Bool.eq_iff_iff]; simp [plainB, numB, modB, txtB, txtK, tkB, kidLo, kidHi, clsLo, clsHi, inB, ha, hm1] <;> omega)
      have BL : Hid (Below w.heap.size w (w.alloc (.cells #[.int .i64 2, .int .i64 0, .string t, .string m, .slice p nk c, .slice q 0 c'] 73))) := (Below.refl _ _).alloc (Nat.le_refl _) _
      go_enter Tryz.func71, Tryz.ntmps71
      go_wp2_with (first | (go_at_call 87; go_must (refine (specVarOk_any _ _ (by assumption)).mono ?_; rintro e w9 ⟨rfl, rfl⟩; rw [ha])))
      go_ret
      exact ⟨by rw [HS.out]; rfl, by first | exact BL.out | exact BL.out.alloc BL.out.size _⟩
    | false =>
      have HS : Hid (plainB 2 0 t m nk 0 = false) := by
        show _ = _
        (simp [plainB, numB, modB, txtB, txtK, tkB, kidLo, kidHi, clsLo, clsHi, inB, ha])
      have BL : Hid (Below w.heap.size w (w.alloc (.cells #[.int .i64 2, .int .i64 0, .string t, .string m, .slice p nk c, .slice q 0 c'] 73))) := (Below.refl _ _).alloc (Nat.le_refl _) _
      go_enter Tryz.func71, Tryz.ntmps71
      go_wp2_with (first | (go_at_call 87; go_must (refine (specVarOk_any _ _ (by assumption)).mono ?_; rintro e w9 ⟨rfl, rfl⟩; rw [ha])))
      go_ret
      exact ⟨by rw [HS.out]; rfl, by first | exact BL.out | exact BL.out.alloc BL.out.size _⟩
  by_cases k3 : k = 3
  · subst k3
    obtain rfl := hn0 (by omega)
    obtain rfl := hc0 (by omega)
    have hm1 := hm (by omega)
    have hm2 : (m.toList == []) = true := by simpa using hm1
    clear hm hn0 hc0
    by_cases ht : t.toList = []
    · have ht2 : (t.toList == []) = true := by simpa using ht
      have HS : Hid (plainB 3 0 t m nk 0 = ((nk : Int) == 0)) := by
        show _ = _
        (rw [Bool.eq_iff_iff]; simp [plainB, numB, modB, txtB, txtK, tkB, kidLo, kidHi, clsLo, clsHi, inB, ht, hm1] <;> omega)
      have BL : Hid (Below w.heap.size w (w.alloc (.cells #[.int .i64 3, .int .i64 0, .string t, .string m, .slice p nk c, .slice q 0 c'] 73))) := (Below.refl _ _).alloc (Nat.le_refl _) _
      go_enter Tryz.func71, Tryz.ntmps71
      go_wp2
      go_ret
      exact ⟨by rw [HS.out]; rfl, by first | exact BL.out | exact BL.out.alloc BL.out.size _⟩
    · have ht2 : (t.toList == []) = false := by simpa using ht
      have HS : Hid (plainB 3 0 t m nk 0 = false) := by
        show _ = _
        simp [plainB, numB, modB, txtB, txtK, tkB, kidLo, kidHi, clsLo, clsHi, inB, ht, hm1]
      have BL : Hid (Below w.heap.size w (w.alloc (.cells #[.int .i64 3, .int .i64 0, .string t, .string m, .slice p nk c, .slice q 0 c'] 73))) := (Below.refl _ _).alloc (Nat.le_refl _) _
      go_enter Tryz.func71, Tryz.ntmps71
      go_wp2
      go_ret
      exact ⟨by rw [HS.out]; rfl, by first | exact BL.out | exact BL.out.alloc BL.out.size _⟩
  by_cases k4 : k = 4
  · subst k4
    obtain rfl := hn0 (by omega)
    obtain rfl := hc0 (by omega)
    have hm1 := hm (by omega)
    have hm2 : (m.toList == []) = true := by simpa using hm1
    clear hm hn0 hc0
    by_cases ht : t.toList = []
    · have ht2 : (t.toList == []) = true := by simpa using ht
      have HS : Hid (plainB 4 0 t m nk 0 = inB nk 1 20) := by
        show _ = _
        (rw [Bool.eq_iff_iff]; simp [plainB, numB, modB, txtB, txtK, tkB, kidLo, kidHi, clsLo, clsHi, inB, ht, hm1] <;> omega)
      have BL : Hid (Below w.heap.size w (w.alloc (.cells #[.int .i64 4, .int .i64 0, .string t, .string m, .slice p nk c, .slice q 0 c'] 73))) := (Below.refl _ _).alloc (Nat.le_refl _) _
      go_enter Tryz.func71, Tryz.ntmps71
      go_wp2_with (first | (go_at_call 29; go_must (refine (specAtomOk_any _ _ (by assumption)).mono ?_; rintro e w9 ⟨rfl, rfl⟩)) | (go_at_call 87; go_must (refine (specVarOk_any _ _ (by assumption)).mono ?_; rintro e w9 ⟨rfl, rfl⟩)) | (go_at_call 30; go_must (refine (l01In_any _ _ _ _).mono ?_; rintro e w9 ⟨rfl, rfl⟩)))
      go_ret
      exact ⟨by rw [HS.out]; rfl, by first | exact BL.out | exact BL.out.alloc BL.out.size _⟩
    · have ht2 : (t.toList == []) = false := by simpa using ht
      have HS : Hid (plainB 4 0 t m nk 0 = false) := by
        show _ = _
        simp [plainB, numB, modB, txtB, txtK, tkB, kidLo, kidHi, clsLo, clsHi, inB, ht, hm1]
      have BL : Hid (Below w.heap.size w (w.alloc (.cells #[.int .i64 4, .int .i64 0, .string t, .string m, .slice p nk c, .slice q 0 c'] 73))) := (Below.refl _ _).alloc (Nat.le_refl _) _
      go_enter Tryz.func71, Tryz.ntmps71
      go_wp2
      go_ret
      exact ⟨by rw [HS.out]; rfl, by first | exact BL.out | exact BL.out.alloc BL.out.size _⟩
  by_cases k5 : k = 5
  · subst k5
    obtain rfl := hn0 (by omega)
    obtain rfl := hc0 (by omega)
    have hm1 := hm (by omega)
    have hm2 : (m.toList == []) = true := by simpa using hm1
    clear hm hn0 hc0
    by_cases ht : t.toList = []
    · have ht2 : (t.toList == []) = true := by simpa using ht
      have HS : Hid (plainB 5 0 t m nk 0 = ((nk : Int) == 0)) := by
        show _ = _
        (rw [Bool.eq_iff_iff]; simp [plainB, numB, modB, txtB, txtK, tkB, kidLo, kidHi, clsLo, clsHi, inB, ht, hm1] <;> omega)
      have BL : Hid (Below w.heap.size w (w.alloc (.cells #[.int .i64 5, .int .i64 0, .string t, .string m, .slice p nk c, .slice q 0 c'] 73))) := (Below.refl _ _).alloc (Nat.le_refl _) _
      go_enter Tryz.func71, Tryz.ntmps71
      go_wp2
      go_ret
      exact ⟨by rw [HS.out]; rfl, by first | exact BL.out | exact BL.out.alloc BL.out.size _⟩
    · have ht2 : (t.toList == []) = false := by simpa using ht
      have HS : Hid (plainB 5 0 t m nk 0 = false) := by
        show _ = _
        simp [plainB, numB, modB, txtB, txtK, tkB, kidLo, kidHi, clsLo, clsHi, inB, ht, hm1]
      have BL : Hid (Below w.heap.size w (w.alloc (.cells #[.int .i64 5, .int .i64 0, .string t, .string m, .slice p nk c, .slice q 0 c'] 73))) := (Below.refl _ _).alloc (Nat.le_refl _) _
      go_enter Tryz.func71, Tryz.ntmps71
      go_wp2
      go_ret
      exact ⟨by rw [HS.out]; rfl, by first | exact BL.out | exact BL.out.alloc BL.out.size _⟩
  by_cases k6 : k = 6
  · subst k6
    obtain rfl := hn0 (by omega)
    obtain rfl := hc0 (by omega)
    have hm1 := hm (by omega)
    have hm2 : (m.toList == []) = true := by simpa using hm1
    clear hm hn0 hc0
    by_cases ht : t.toList = []
    · have ht2 : (t.toList == []) = true := by simpa using ht
      have HS : Hid (plainB 6 0 t m nk 0 = ((nk : Int) == 2)) := by
        show _ = _
        (rw [Bool.eq_iff_iff]; simp [plainB, numB, modB, txtB, txtK, tkB, kidLo, kidHi, clsLo, clsHi, inB, ht, hm1] <;> omega)
      have BL : Hid (Below w.heap.size w (w.alloc (.cells #[.int .i64 6, .int .i64 0, .string t, .string m, .slice p nk c, .slice q 0 c'] 73))) := (Below.refl _ _).alloc (Nat.le_refl _) _
      go_enter Tryz.func71, Tryz.ntmps71
      go_wp2
      go_ret
      exact ⟨by rw [HS.out]; rfl, by first | exact BL.out | exact BL.out.alloc BL.out.size _⟩
    · have ht2 : (t.toList == []) = false := by simpa using ht
      have HS : Hid (plainB 6 0 t m nk 0 = false) := by
        show _ = _
        simp [plainB, numB, modB, txtB, txtK, tkB, kidLo, kidHi, clsLo, clsHi, inB, ht, hm1]
      have BL : Hid (Below w.heap.size w (w.alloc (.cells #[.int .i64 6, .int .i64 0, .string t, .string m, .slice p nk c, .slice q 0 c'] 73))) := (Below.refl _ _).alloc (Nat.le_refl _) _
      go_enter Tryz.func71, Tryz.ntmps71
      go_wp2
      go_ret
      exact ⟨by rw [HS.out]; rfl, by first | exact BL.out | exact BL.out.alloc BL.out.size _⟩
  by_cases k7 : k = 7
  · subst k7
    obtain rfl := hn0 (by omega)
    obtain rfl := hc0 (by omega)
    have hm1 := hm (by omega)
    have hm2 : (m.toList == []) = true := by simpa using hm1
    clear hm hn0 hc0
    cases ha : opB t with
    | true =>
      have HOP : Hid (∀ i x, opsL[i]? = some x → ((w.alloc (.cells #[.int .i64 7, .int .i64 0, .string t, .string m, .slice p nk c, .slice q 0 c'] 73)).alloc (.cells #[.string ⟨#[61, 61]⟩, .string ⟨#[60]⟩, .string ⟨#[43]⟩, .string ⟨#[45]⟩, .string ⟨#[42]⟩] 9)).cell? ⟨w.heap.size + 1, i, none⟩ = some (.string x)) := ops_at _ _ (by simp only [alloc_hs])
      have HS : Hid (plainB 7 0 t m nk 0 = ((nk : Int) == 2)) := by
        show _ = _
        (rw [Bool.eq_iff_iff]; simp [plainB, numB, modB, txtB, txtK, tkB, kidLo, kidHi, clsLo, clsHi, inB, ha, hm1] <;> omega)
      have BL : Hid (Below w.heap.size w (w.alloc (.cells #[.int .i64 7, .int .i64 0, .string t, .string m, .slice p nk c, .slice q 0 c'] 73))) := (Below.refl _ _).alloc (Nat.le_refl _) _
      go_enter Tryz.func71, Tryz.ntmps71
      go_wp2_with (first | (go_at_call 52; go_must (refine (l01Has_any _ _ _ opsL t (by decide) (by exact HOP.out)).mono ?_; rintro e w9 ⟨rfl, rfl⟩; rw [opsL_any, ha])))
      go_ret
      exact ⟨by rw [HS.out]; rfl, by first | exact BL.out | exact BL.out.alloc BL.out.size _⟩
    | false =>
      have HOP : Hid (∀ i x, opsL[i]? = some x → ((w.alloc (.cells #[.int .i64 7, .int .i64 0, .string t, .string m, .slice p nk c, .slice q 0 c'] 73)).alloc (.cells #[.string ⟨#[61, 61]⟩, .string ⟨#[60]⟩, .string ⟨#[43]⟩, .string ⟨#[45]⟩, .string ⟨#[42]⟩] 9)).cell? ⟨w.heap.size + 1, i, none⟩ = some (.string x)) := ops_at _ _ (by simp only [alloc_hs])
      have HS : Hid (plainB 7 0 t m nk 0 = false) := by
        show _ = _
        (simp [plainB, numB, modB, txtB, txtK, tkB, kidLo, kidHi, clsLo, clsHi, inB, ha])
      have BL : Hid (Below w.heap.size w (w.alloc (.cells #[.int .i64 7, .int .i64 0, .string t, .string m, .slice p nk c, .slice q 0 c'] 73))) := (Below.refl _ _).alloc (Nat.le_refl _) _
      go_enter Tryz.func71, Tryz.ntmps71
      go_wp2_with (first | (go_at_call 52; go_must (refine (l01Has_any _ _ _ opsL t (by decide) (by exact HOP.out)).mono ?_; rintro e w9 ⟨rfl, rfl⟩; rw [opsL_any, ha])))
      go_ret
      exact ⟨by rw [HS.out]; rfl, by first | exact BL.out | exact BL.out.alloc BL.out.size _⟩
  by_cases k8 : k = 8
  · subst k8
    obtain rfl := hn0 (by omega)
    obtain rfl := hc0 (by omega)
    clear hm hn0 hc0
    cases ha : atomB t with
    | true =>
      by_cases hk : nk ≤ 6
      · have hk2 : (nk : Int) ≤ 6 := by omega
        by_cases hm1 : m.toList = []
        · have hm2 : (m.toList == []) = true := by simpa using hm1
          have HS : Hid (plainB 8 0 t m nk 0 = true) := by
            show _ = _
            (simp [plainB, numB, modB, txtB, txtK, tkB, kidLo, kidHi, clsLo, clsHi, inB, ha, hm1]; omega)
          have BL : Hid (Below w.heap.size w (w.alloc (.cells #[.int .i64 8, .int .i64 0, .string t, .string m, .slice p nk c, .slice q 0 c'] 73))) := (Below.refl _ _).alloc (Nat.le_refl _) _
          go_enter Tryz.func71, Tryz.ntmps71
          go_wp2_with (first | (go_at_call_of 29 t; go_must (refine (specAtomOk_any _ _ hts).mono ?_; rintro e w9 ⟨rfl, rfl⟩; rw [ha])))
          go_ret
          exact ⟨by rw [HS.out]; rfl, by first | exact BL.out | exact BL.out.alloc BL.out.size _⟩
        · have hm2 : (m.toList == []) = false := by simpa using hm1
          have HS : Hid (plainB 8 0 t m nk 0 = atomB m) := by
            show _ = _
            (rw [Bool.eq_iff_iff]; simp [plainB, numB, modB, txtB, txtK, tkB, kidLo, kidHi, clsLo, clsHi, inB, ha, hm1]; omega)
          have BL : Hid (Below w.heap.size w (w.alloc (.cells #[.int .i64 8, .int .i64 0, .string t, .string m, .slice p nk c, .slice q 0 c'] 73))) := (Below.refl _ _).alloc (Nat.le_refl _) _
          go_enter Tryz.func71, Tryz.ntmps71
          go_wp2_with (first | (go_at_call_of 29 t; go_must (refine (specAtomOk_any _ _ hts).mono ?_; rintro e w9 ⟨rfl, rfl⟩; rw [ha])) | (go_at_call_of 29 m; go_must (refine (specAtomOk_any _ _ hms).mono ?_; rintro e w9 ⟨rfl, rfl⟩)))
          go_ret
          exact ⟨by rw [HS.out]; rfl, by first | exact BL.out | exact BL.out.alloc BL.out.size _⟩
      · have hk2 : (6 : Int) < (nk : Int) := by omega
        have HS : Hid (plainB 8 0 t m nk 0 = false) := by
          show _ = _
          (simp [plainB, numB, modB, txtB, txtK, tkB, kidLo, kidHi, clsLo, clsHi, inB, ha]; omega)
        have BL : Hid (Below w.heap.size w (w.alloc (.cells #[.int .i64 8, .int .i64 0, .string t, .string m, .slice p nk c, .slice q 0 c'] 73))) := (Below.refl _ _).alloc (Nat.le_refl _) _
        go_enter Tryz.func71, Tryz.ntmps71
        go_wp2_with (first | (go_at_call_of 29 t; go_must (refine (specAtomOk_any _ _ hts).mono ?_; rintro e w9 ⟨rfl, rfl⟩; rw [ha])))
        go_ret
        exact ⟨by rw [HS.out]; rfl, by first | exact BL.out | exact BL.out.alloc BL.out.size _⟩
    | false =>
      have HS : Hid (plainB 8 0 t m nk 0 = false) := by
        show _ = _
        (simp [plainB, numB, modB, txtB, txtK, tkB, kidLo, kidHi, clsLo, clsHi, inB, ha])
      have BL : Hid (Below w.heap.size w (w.alloc (.cells #[.int .i64 8, .int .i64 0, .string t, .string m, .slice p nk c, .slice q 0 c'] 73))) := (Below.refl _ _).alloc (Nat.le_refl _) _
      go_enter Tryz.func71, Tryz.ntmps71
      go_wp2_with (first | (go_at_call_of 29 t; go_must (refine (specAtomOk_any _ _ hts).mono ?_; rintro e w9 ⟨rfl, rfl⟩; rw [ha])))
      go_ret
      exact ⟨by rw [HS.out]; rfl, by first | exact BL.out | exact BL.out.alloc BL.out.size _⟩
  by_cases k9 : k = 9
  · subst k9
    obtain rfl := hn0 (by omega)
    obtain rfl := hc0 (by omega)
    have hm1 := hm (by omega)
    have hm2 : (m.toList == []) = true := by simpa using hm1
    clear hm hn0 hc0
    by_cases ht : t.toList = []
    · have ht2 : (t.toList == []) = true := by simpa using ht
      have HS : Hid (plainB 9 0 t m nk 0 = ((nk : Int) == 2)) := by
        show _ = _
        (rw [Bool.eq_iff_iff]; simp [plainB, numB, modB, txtB, txtK, tkB, kidLo, kidHi, clsLo, clsHi, inB, ht, hm1] <;> omega)
      have BL : Hid (Below w.heap.size w (w.alloc (.cells #[.int .i64 9, .int .i64 0, .string t, .string m, .slice p nk c, .slice q 0 c'] 73))) := (Below.refl _ _).alloc (Nat.le_refl _) _
      go_enter Tryz.func71, Tryz.ntmps71
      go_wp2
      go_ret
      exact ⟨by rw [HS.out]; rfl, by first | exact BL.out | exact BL.out.alloc BL.out.size _⟩
    · have ht2 : (t.toList == []) = false := by simpa using ht
      have HS : Hid (plainB 9 0 t m nk 0 = false) := by
        show _ = _
        simp [plainB, numB, modB, txtB, txtK, tkB, kidLo, kidHi, clsLo, clsHi, inB, ht, hm1]
      have BL : Hid (Below w.heap.size w (w.alloc (.cells #[.int .i64 9, .int .i64 0, .string t, .string m, .slice p nk c, .slice q 0 c'] 73))) := (Below.refl _ _).alloc (Nat.le_refl _) _
      go_enter Tryz.func71, Tryz.ntmps71
      go_wp2
      go_ret
      exact ⟨by rw [HS.out]; rfl, by first | exact BL.out | exact BL.out.alloc BL.out.size _⟩
  by_cases k10 : k = 10
  · subst k10
    obtain rfl := hn0 (by omega)
    have hm1 := hm (by omega)
    have hm2 : (m.toList == []) = true := by simpa using hm1
    clear hm hn0 hc0
    by_cases ht : t.toList = []
    · have ht2 : (t.toList == []) = true := by simpa using ht
      by_cases hk : nk = 1
      · subst hk
        have HS : Hid (plainB 10 0 t m 1 nc = inB nc 1 20) := by
          show _ = _
          (rw [Bool.eq_iff_iff]; simp [plainB, numB, modB, txtB, txtK, tkB, kidLo, kidHi, clsLo, clsHi, inB, ht, hm1])
        have BL : Hid (Below w.heap.size w (w.alloc (.cells #[.int .i64 10, .int .i64 0, .string t, .string m, .slice p 1 c, .slice q nc c'] 73))) := (Below.refl _ _).alloc (Nat.le_refl _) _
        go_enter Tryz.func71, Tryz.ntmps71
        go_wp2_with (first | (go_at_call 29; go_must (refine (specAtomOk_any _ _ (by assumption)).mono ?_; rintro e w9 ⟨rfl, rfl⟩)) | (go_at_call 87; go_must (refine (specVarOk_any _ _ (by assumption)).mono ?_; rintro e w9 ⟨rfl, rfl⟩)) | (go_at_call 30; go_must (refine (l01In_any _ _ _ _).mono ?_; rintro e w9 ⟨rfl, rfl⟩)))
        go_ret
        exact ⟨by rw [HS.out]; rfl, by first | exact BL.out | exact BL.out.alloc BL.out.size _⟩
      · have hk2 : ((nk : Int) == 1) = false := by simp; omega
        have HS : Hid (plainB 10 0 t m nk nc = false) := by
          show _ = _
          (simp [plainB, numB, modB, txtB, txtK, tkB, kidLo, kidHi, clsLo, clsHi, inB, ht, hm1]; omega)
        have BL : Hid (Below w.heap.size w (w.alloc (.cells #[.int .i64 10, .int .i64 0, .string t, .string m, .slice p nk c, .slice q nc c'] 73))) := (Below.refl _ _).alloc (Nat.le_refl _) _
        go_enter Tryz.func71, Tryz.ntmps71
        go_wp2_with (first | (go_at_call 29; go_must (refine (specAtomOk_any _ _ (by assumption)).mono ?_; rintro e w9 ⟨rfl, rfl⟩)) | (go_at_call 87; go_must (refine (specVarOk_any _ _ (by assumption)).mono ?_; rintro e w9 ⟨rfl, rfl⟩)) | (go_at_call 30; go_must (refine (l01In_any _ _ _ _).mono ?_; rintro e w9 ⟨rfl, rfl⟩)))
        go_ret
        exact ⟨by rw [HS.out]; rfl, by first | exact BL.out | exact BL.out.alloc BL.out.size _⟩
    · have ht2 : (t.toList == []) = false := by simpa using ht
      have HS : Hid (plainB 10 0 t m nk nc = false) := by
        show _ = _
        simp [plainB, numB, modB, txtB, txtK, tkB, kidLo, kidHi, clsLo, clsHi, inB, ht, hm1]
      have BL : Hid (Below w.heap.size w (w.alloc (.cells #[.int .i64 10, .int .i64 0, .string t, .string m, .slice p nk c, .slice q nc c'] 73))) := (Below.refl _ _).alloc (Nat.le_refl _) _
      go_enter Tryz.func71, Tryz.ntmps71
      go_wp2
      go_ret
      exact ⟨by rw [HS.out]; rfl, by first | exact BL.out | exact BL.out.alloc BL.out.size _⟩
  obtain rfl := hn0 k0
  obtain rfl := hc0 k10
  have hm1 := hm k8
  have hm2 : (m.toList == []) = true := by simpa using hm1
  clear hm hn0 hc0 hm1
  have HS : Hid (plainB k 0 t m nk 0 = false) := by
    show _ = _
    (have : inB k 0 10 = false := by (simp [inB]; omega)); simp [plainB, this]
  have BL : Hid (Below w.heap.size w (w.alloc (.cells #[.int .i64 k, .int .i64 0, .string t, .string m, .slice p nk c, .slice q 0 c'] 73))) := (Below.refl _ _).alloc (Nat.le_refl _) _
  go_enter Tryz.func71, Tryz.ntmps71
  go_wp2
  go_ret
  exact ⟨by rw [HS.out]; rfl, by first | exact BL.out | exact BL.out.alloc BL.out.size _⟩
end Go.Proofs.YtpkhblhcdnohmaaGreatDoor
