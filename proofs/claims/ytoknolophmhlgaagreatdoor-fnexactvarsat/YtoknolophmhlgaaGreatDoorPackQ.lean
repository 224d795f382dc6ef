/-
  Texts of the proof, packed: ModOwn, ModTo, ModsTo, Mark.
-/
import Derived.Test.YtoknolophmhlgaaGreatDoorPackP
import Derived.Test.YtoknolophmhlgaaGreatDoorRows
import Derived.WalkKit
import Derived.ProofKit
import Derived.OpenShut
import Derived.WalkSpells
import Derived.Lib.ItoaNum
import Derived.Laws.IdiomStrings
/-
  Modules that own their memory.
-/
namespace Go.Proofs.YtoknolophmhlgaaGreatDoor
open Go.ChangeShapes Go.WideShapes Go.ChangeAt Go.RowKit
set_option linter.unusedVariables false

/-- Two cells that are a name with its number: no memory. -/
def ORf (_ : World) (_ : Nat) (cs : List Value) (r : Rf) (fp : List Nat) : Prop := HRf cs r ∧ fp = []
/-- Three cells that are a function which owns its memory. -/
def OFn (w : World) (d : Nat) (cs : List Value) (f : Fn') (fp : List Nat) : Prop :=
  ∃ cv, cs = [.string f.name, .int .i64 f.arity, cv] ∧ okS f.name ∧ okI f.arity ∧ ORows w 45 2 (OCl w (OEx w d)) cv f.clauses fp
/-- Three cells that are a module which owns its memory. -/
def OMd (w : World) (d : Nat) (cs : List Value) (m : Md) (fp : List Nat) : Prop :=
  ∃ ev fv f1 f2, cs = [.string m.name, ev, fv] ∧ fp = f1 ++ f2 ∧ okS m.name ∧ ORows w 88 2 (ORf w d) ev m.exports f1 ∧ ORows w 68 3 (OFn w d) fv m.funs f2

theorem ORf.keep {w w' : World} {d : Nat} {cs : List Value} {r : Rf} {fp : List Nat} (h : ORf w d cs r fp) (_ : KeepOn fp w w') : ORf w' d cs r fp := h
theorem ORf.tree {w : World} {d : Nat} {cs : List Value} {r : Rf} {fp : List Nat} (h : ORf w d cs r fp) : HRf cs r := h.1
theorem ORf.lt {w : World} {d : Nat} {cs : List Value} {r : Rf} {fp : List Nat} (h : ORf w d cs r fp) : ∀ a ∈ fp, a < w.heap.size := by rw [h.2]; simp
theorem ORf.shape {w : World} {d : Nat} {cs : List Value} {x : Rf} {fp : List Nat} (h : ORf w d cs x fp) : ∃ st sk, cs = [.string st, .int .i64 sk] := by
  obtain ⟨⟨rfl, _⟩, _⟩ := h
  exact ⟨_, _, rfl⟩
theorem OFn.keep {w w' : World} {d : Nat} {cs : List Value} {f : Fn'} {fp : List Nat} (h : OFn w d cs f fp) (hk : KeepOn fp w w') : OFn w' d cs f fp := by
  obtain ⟨cv, rfl, h1, h2, h3⟩ := h
  exact ⟨cv, rfl, h1, h2, h3.keep hk (fun cs x f _ hs h => OCls.keep h (hk.sub hs))⟩
theorem OFn.tree {w : World} {S : Nat → Prop} {d : Nat} {cs : List Value} {f : Fn'} {fp : List Nat} (h : OFn w d cs f fp) (hS : ∀ a ∈ fp, S a) : HFn w S d cs f := by
  obtain ⟨cv, rfl, h1, h2, h3⟩ := h
  exact ⟨cv, rfl, h1, h2, h3.rows hS (fun cs x f _ hs h => OCls.tree h (fun a ha => hS a (hs a ha)))⟩
theorem OFn.lt {w : World} {d : Nat} {cs : List Value} {f : Fn'} {fp : List Nat} (h : OFn w d cs f fp) : ∀ a ∈ fp, a < w.heap.size := by
  obtain ⟨cv, rfl, h1, h2, h3⟩ := h
  exact h3.lt (fun cs x f h => h.lt' (fun cs x f h => h.lt))
theorem OFn.shape {w : World} {d : Nat} {cs : List Value} {x : Fn'} {fp : List Nat} (h : OFn w d cs x fp) : ∃ st sk p1 n1 q1, cs = [.string st, .int .i64 sk, .slice p1 n1 q1] := by
  obtain ⟨cv, rfl, h1, h2, h3⟩ := h
  obtain ⟨p1, c1, rfl, _⟩ := h3.shape
  exact ⟨_, _, _, _, _, rfl⟩
theorem OMd.keep {w w' : World} {d : Nat} {cs : List Value} {m : Md} {fp : List Nat} (h : OMd w d cs m fp) (hk : KeepOn fp w w') : OMd w' d cs m fp := by
  obtain ⟨ev, fv, f1, f2, rfl, rfl, h1, h2, h3⟩ := h
  exact ⟨ev, fv, f1, f2, rfl, rfl, h1, h2.keep (hk.sub (fun a ha => by simp [ha])) (fun cs x f _ hs h => h), h3.keep (hk.sub (fun a ha => by simp [ha])) (fun cs x f _ hs h => h.keep (hk.sub (fun a ha => by simp [hs a ha])))⟩
theorem OMd.tree {w : World} {S : Nat → Prop} {d : Nat} {cs : List Value} {m : Md} {fp : List Nat} (h : OMd w d cs m fp) (hS : ∀ a ∈ fp, S a) : HMd w S d cs m := by
  obtain ⟨ev, fv, f1, f2, rfl, rfl, h1, h2, h3⟩ := h
  exact ⟨ev, fv, rfl, h1, h2.rows (fun a ha => hS a (by simp [ha])) (fun cs x f _ hs h => h.1), h3.rows (fun a ha => hS a (by simp [ha])) (fun cs x f _ hs h => h.tree (fun a ha => hS a (by simp [hs a ha])))⟩
theorem OMd.lt {w : World} {d : Nat} {cs : List Value} {m : Md} {fp : List Nat} (h : OMd w d cs m fp) : ∀ a ∈ fp, a < w.heap.size := by
  obtain ⟨ev, fv, f1, f2, rfl, rfl, h1, h2, h3⟩ := h
  intro a ha
  rcases List.mem_append.1 ha with ha | ha
  · exact h2.lt (fun cs x f h => h.lt) a ha
  · exact h3.lt (fun cs x f h => h.lt) a ha
theorem OMd.shape {w : World} {d : Nat} {cs : List Value} {x : Md} {fp : List Nat} (h : OMd w d cs x fp) : ∃ st p1 n1 q1 p2 n2 q2, cs = [.string st, .slice p1 n1 q1, .slice p2 n2 q2] := by
  obtain ⟨ev, fv, f1, f2, rfl, rfl, h1, h2, h3⟩ := h
  obtain ⟨p1, c1, rfl, _⟩ := h2.shape
  obtain ⟨p2, c2, rfl, _⟩ := h3.shape
  exact ⟨_, _, _, _, _, _, _, rfl⟩
end Go.Proofs.YtoknolophmhlgaaGreatDoor
/-
  The laws' toModule and what it calls: a copy of a module in memory that the copy owns.
-/
namespace Go.Proofs.YtoknolophmhlgaaGreatDoor
open Go.ChangeShapes Go.WideShapes Go.ChangeAt Go.RowKit
set_option linter.unusedVariables false


set_option maxHeartbeats 4000000 in
theorem toRefS_ofO {d : Nat} (hE : ToO 55 (fun w v e => ∃ cs, v = .agg cs.toArray ∧ HRf cs e) (fun w v e fp => ∃ cs, v = .agg cs.toArray ∧ ORf w d cs e fp) (wtRf)) :
    ToO 35 (fun w v es => Rows w All 2 (HRf) v es) (fun w v es fp => ORows w 88 2 (ORf w d) v es fp) (wtS (wtRf)) := by
  intro w v es h hwt
  obtain ⟨p, cap, rfl, hcl, hcm, hx⟩ := h
  generalize hn : es.length = n at *
  have HN : Hid (es.length = n) := hn
  have HX : Hid _ := hx
  have hnb : n ≤ 1048576 := by unfold wtS at hwt; omega
  have HWT : Hid (wtS (wtRf) es ≤ 1048576) := hwt
  clear hx hn hwt
  obtain ⟨M, hM, hmk⟩ := make_row (t := 50) (e := 88) (c := 2) Tryz.underlying50 (by kernel_rfl) w n hnb
  have HO : Hid (Made w (w.alloc (.cells M 88)) w.heap.size n 88 2 (fun w => ORf w d) es 0 M.toList []) := Made.start hM (by unfold maxLen; omega)
  generalize hG : w.heap.size = G at *
  have HG : Hid (w.heap.size = G) := hG
  go_enter Tryz.func35, Tryz.ntmps35
  go_wp2
  go_loopw [4] (fun iv wr => ∃ (k : Nat) (xs : List Value) (fps : List (List Nat)), k ≤ n ∧ iv = .int .i64 k ∧ Hid (Made w wr G n 88 2 (fun w => ORf w d) es k xs fps)) (fun iv _ => n - (intOf iv).toNat)
  case atStart => exact ⟨0, M.toList, [], Nat.zero_le _, rfl, HO⟩
  case round =>
    obtain ⟨k, xs, fps, hk, rfl, HM⟩ := hrel
    by_cases hlt : k < n
    · obtain ⟨x, hxk⟩ : ∃ x, es[k]? = some x := ⟨es[k]'(by rw [HN.out]; exact hlt), List.getElem?_eq_getElem _⟩
      obtain ⟨g, off, rfl, hg, hgl, hat⟩ := HX.out (by intro h; rw [h] at hxk; simp at hxk)
      obtain ⟨cs, hcl6, hcs, hex⟩ := hat k x hxk
      have hbw : Below w.heap.size w wr := by rw [HG.out]; exact HM.out.below
      have hex' : ∀ w', SameOn All wr w' → HRf cs x := fun w' hw => hex
      obtain ⟨z0, z1, rfl⟩ := len2 hcl6
      have a0 := hcs 0 (by omega)
      have a1 := hcs 1 (by omega)
      rw [← hbw.cell (p := ⟨g, _, none⟩) (by show g < w.heap.size; rw [HG.out]; exact hgl)] at a0 a1
      simp at a0 a1
      have hwx : wtRf x ≤ 1048576 := by
        have h1 := HWT.out
        have h2 := sum_take_succ (wtRf) es k x hxk
        have h3 := sum_take_le (wtRf) es (k + 1)
        unfold wtS at h1
        omega
      clear hbw hcs hat hex hcl6
      go_wp2_with (go_at_call 55; go_must (refine (hE _ _ x ⟨_, rfl, hex' _ (by exact ⟨Nat.le_refl _, fun _ _ _ => rfl⟩)⟩ hwx).mono ?_; rintro e w1 ⟨u, fp, rfl, ⟨cs', rfl, hx1⟩, hnd, hrg, hb1⟩; obtain ⟨st, sk, hsh⟩ := hx1.shape; subst hsh; have HB1 : Hid (Below wr.heap.size wr w1) := hb1; have HX1 : Hid (ORf w1 d [.string st, .int .i64 sk] x fp) := hx1; have HND : Hid fp.Nodup := hnd; have HRG : Hid (∀ a ∈ fp, wr.heap.size ≤ a ∧ a < w1.heap.size) := hrg; have o1 := HM.out.own.kept (grownBy_belowR (r := none) hb1) (Or.inr (by simp [Value.ownBlock])); have HO1 : Hid (w1.ownsRow G 88 2 (.slice (some ⟨G, 0, none⟩) n n) n xs) := o1; have f0 := o1.frozenAt (k * 2); obtain ⟨y0, g0⟩ := own_someR o1 (k * 2) (by omega); have f1 := o1.frozenAt (k * 2 + 1); obtain ⟨y1, g1⟩ := own_someR o1 (k * 2 + 1) (by omega); clear o1 hb1 hx1 hnd hrg))
      have sd := stored2 HO1.out (k * 2) (.string st) (.int .i64 sk)
      have hlen : xs.length = n * 2 := HO1.out.1
      exact ⟨⟨k + 1, _, _, by omega, by go_num, Made.step (O := fun w => ORf w d) (c := 2) (fun w w' cs x f h hk => h) HM.out hxk HB1.out HX1.out HND.out HRG.out rfl sd.1 sd.2 (fun m hm => set2_other hm) (fun j hj => set2_self (by omega) j hj)⟩, by simp [intOf]; omega⟩
    · obtain rfl : k = n := by omega
      obtain ⟨fp, r1, r2, r3⟩ := HM.out.done HN.out (by unfold maxLen; omega)
      have R1 : Hid (ORows wr 88 2 (ORf wr d) (.slice (some ⟨G, 0, none⟩) k k) es fp) := r1
      have R2 : Hid (fp.Nodup ∧ ∀ a ∈ fp, G ≤ a ∧ a < wr.heap.size) := ⟨r2, r3⟩
      clear r1 r2 r3
      go_wp2
      go_ret
      exact ⟨_, fp, rfl, R1.out, R2.out.1, R2.out.2, HM.out.below⟩

set_option maxHeartbeats 4000000 in
theorem toFunS_ofO {d : Nat} (hE : ToO 56 (fun w v e => ∃ cs, v = .agg cs.toArray ∧ HFn w All d cs e) (fun w v e fp => ∃ cs, v = .agg cs.toArray ∧ OFn w d cs e fp) (wtFn d)) :
    ToO 36 (fun w v es => Rows w All 3 (HFn w All d) v es) (fun w v es fp => ORows w 68 3 (OFn w d) v es fp) (wtS (wtFn d)) := by
  intro w v es h hwt
  obtain ⟨p, cap, rfl, hcl, hcm, hx⟩ := h
  generalize hn : es.length = n at *
  have HN : Hid (es.length = n) := hn
  have HX : Hid _ := hx
  have hnb : n ≤ 1048576 := by unfold wtS at hwt; omega
  have HWT : Hid (wtS (wtFn d) es ≤ 1048576) := hwt
  clear hx hn hwt
  obtain ⟨M, hM, hmk⟩ := make_row (t := 51) (e := 68) (c := 3) Tryz.underlying51 (by kernel_rfl) w n hnb
  have HO : Hid (Made w (w.alloc (.cells M 68)) w.heap.size n 68 3 (fun w => OFn w d) es 0 M.toList []) := Made.start hM (by unfold maxLen; omega)
  generalize hG : w.heap.size = G at *
  have HG : Hid (w.heap.size = G) := hG
  go_enter Tryz.func36, Tryz.ntmps36
  go_wp2
  go_loopw [4] (fun iv wr => ∃ (k : Nat) (xs : List Value) (fps : List (List Nat)), k ≤ n ∧ iv = .int .i64 k ∧ Hid (Made w wr G n 68 3 (fun w => OFn w d) es k xs fps)) (fun iv _ => n - (intOf iv).toNat)
  case atStart => exact ⟨0, M.toList, [], Nat.zero_le _, rfl, HO⟩
  case round =>
    obtain ⟨k, xs, fps, hk, rfl, HM⟩ := hrel
    by_cases hlt : k < n
    · obtain ⟨x, hxk⟩ : ∃ x, es[k]? = some x := ⟨es[k]'(by rw [HN.out]; exact hlt), List.getElem?_eq_getElem _⟩
      obtain ⟨g, off, rfl, hg, hgl, hat⟩ := HX.out (by intro h; rw [h] at hxk; simp at hxk)
      obtain ⟨cs, hcl6, hcs, hex⟩ := hat k x hxk
      have hbw : Below w.heap.size w wr := by rw [HG.out]; exact HM.out.below
      have hex' : ∀ w', SameOn All wr w' → HFn w' All d cs x := fun w' hw => hex.mono (SameOn.trans (SameOn.of_below hbw) hw) (fun _ h => h)
      obtain ⟨z0, z1, z2, rfl⟩ := len3 hcl6
      have a0 := hcs 0 (by omega)
      have a1 := hcs 1 (by omega)
      have a2 := hcs 2 (by omega)
      rw [← hbw.cell (p := ⟨g, _, none⟩) (by show g < w.heap.size; rw [HG.out]; exact hgl)] at a0 a1 a2
      simp at a0 a1 a2
      have hwx : wtFn d x ≤ 1048576 := by
        have h1 := HWT.out
        have h2 := sum_take_succ (wtFn d) es k x hxk
        have h3 := sum_take_le (wtFn d) es (k + 1)
        unfold wtS at h1
        omega
      clear hbw hcs hat hex hcl6
      go_wp2_with (go_at_call 56; go_must (refine (hE _ _ x ⟨_, rfl, hex' _ (by exact ⟨Nat.le_refl _, fun _ _ _ => rfl⟩)⟩ hwx).mono ?_; rintro e w1 ⟨u, fp, rfl, ⟨cs', rfl, hx1⟩, hnd, hrg, hb1⟩; obtain ⟨st, sk, p1, n1, q1, hsh⟩ := hx1.shape; subst hsh; have HB1 : Hid (Below wr.heap.size wr w1) := hb1; have HX1 : Hid (OFn w1 d [.string st, .int .i64 sk, .slice p1 n1 q1] x fp) := hx1; have HND : Hid fp.Nodup := hnd; have HRG : Hid (∀ a ∈ fp, wr.heap.size ≤ a ∧ a < w1.heap.size) := hrg; have o1 := HM.out.own.kept (grownBy_belowR (r := none) hb1) (Or.inr (by simp [Value.ownBlock])); have HO1 : Hid (w1.ownsRow G 68 3 (.slice (some ⟨G, 0, none⟩) n n) n xs) := o1; have f0 := o1.frozenAt (k * 3); obtain ⟨y0, g0⟩ := own_someR o1 (k * 3) (by omega); have f1 := o1.frozenAt (k * 3 + 1); obtain ⟨y1, g1⟩ := own_someR o1 (k * 3 + 1) (by omega); have f2 := o1.frozenAt (k * 3 + 2); obtain ⟨y2, g2⟩ := own_someR o1 (k * 3 + 2) (by omega); clear o1 hb1 hx1 hnd hrg))
      have sd := stored3 HO1.out (k * 3) (.string st) (.int .i64 sk) (.slice p1 n1 q1)
      have hlen : xs.length = n * 3 := HO1.out.1
      exact ⟨⟨k + 1, _, _, by omega, by go_num, Made.step (O := fun w => OFn w d) (c := 3) (fun w w' cs x f h hk => OFn.keep h hk) HM.out hxk HB1.out HX1.out HND.out HRG.out rfl sd.1 sd.2 (fun m hm => set3_other hm) (fun j hj => set3_self (by omega) j hj)⟩, by simp [intOf]; omega⟩
    · obtain rfl : k = n := by omega
      obtain ⟨fp, r1, r2, r3⟩ := HM.out.done HN.out (by unfold maxLen; omega)
      have R1 : Hid (ORows wr 68 3 (OFn wr d) (.slice (some ⟨G, 0, none⟩) k k) es fp) := r1
      have R2 : Hid (fp.Nodup ∧ ∀ a ∈ fp, G ≤ a ∧ a < wr.heap.size) := ⟨r2, r3⟩
      clear r1 r2 r3
      go_wp2
      go_ret
      exact ⟨_, fp, rfl, R1.out, R2.out.1, R2.out.2, HM.out.below⟩

set_option maxHeartbeats 4000000 in
theorem toRef_ofO {d : Nat} :
    ToO 55 (fun w v e => ∃ cs, v = .agg cs.toArray ∧ HRf cs e) (fun w v e fp => ∃ cs, v = .agg cs.toArray ∧ ORf w d cs e fp) (wtRf) := by
  intro w v e i1 hwt
  obtain ⟨cs, rfl, rfl, s0, s1⟩ := i1
  go_enter Tryz.func55, Tryz.ntmps55
  go_wp2
  exact bodyPost_ret (v := .agg #[.string e.name, .int .i64 e.arity]) (by simp [results, Tryz.results55, go_sem]) rfl ⟨_, [], rfl, ⟨_, rfl, ⟨rfl, s0, s1⟩, rfl⟩, by simp, fun a ha => by simp at ha, (((Below.refl _ _).alloc (Nat.le_refl _) _).alloc (by simp only [alloc_hs]; omega) _).alloc (by simp only [alloc_hs]; omega) _⟩

set_option maxHeartbeats 4000000 in
theorem toFun_ofO {d : Nat} (h0 : ToO 74 (fun w v es => Rows w All 2 (HCl w All (HEx w All d)) v es) (fun w v es fp => ORows w 45 2 (OCls w d) v es fp) (wtS (wtCl (wtEx d)))) :
    ToO 56 (fun w v e => ∃ cs, v = .agg cs.toArray ∧ HFn w All d cs e) (fun w v e fp => ∃ cs, v = .agg cs.toArray ∧ OFn w d cs e fp) (wtFn d) := by
  intro w v e i1 hwt
  obtain ⟨cs, rfl, v0, rfl, s0, s1, f0⟩ := i1
  have hw0 : wtS (wtCl (wtEx d)) e.clauses ≤ 1048576 := by unfold wtFn at hwt; omega
  have E0 : ∀ w', SameOn All w w' → Rows w' All 2 (HCl w' All (HEx w' All d)) v0 e.clauses := fun w' hw => f0.mono hw (fun _ h => h) (fun _ _ _ h => h.mono hw (fun _ h => h) (fun _ _ => HEx.mono hw (fun _ h => h)))
  obtain ⟨p0, c0, rfl, _⟩ := id f0
  clear f0
  go_enter Tryz.func56, Tryz.ntmps56
  go_wp2_with fail
  have hal : Below w.heap.size w (((w.alloc (.cells #[.string e.name, .int .i64 e.arity, .slice p0 e.clauses.length c0] 95)).alloc (.cells #[.string ⟨#[]⟩, .int .i64 0, .slice none 0 0] 68)).alloc (.cells #[.string e.name, .int .i64 e.arity, .slice none 0 0] 68)) := (((Below.refl _ _).alloc (Nat.le_refl _) _).alloc (by simp only [alloc_hs]; omega) _).alloc (by simp only [alloc_hs]; omega) _
  refine (h0 _ _ e.clauses (E0 _ (SameOn.of_below hal)) hw0).mono ?_
  rintro ex w1 ⟨u, fp, rfl, r0, hnd, hrg, hb⟩
  have bR := (Blk.new (w := (w.alloc (.cells #[.string e.name, .int .i64 e.arity, .slice p0 e.clauses.length c0] 95))) (cs := #[.string ⟨#[]⟩, .int .i64 0, .slice none 0 0]) (t := 68)).alloc (o := .cells #[.string e.name, .int .i64 e.arity, .slice none 0 0] 68)
  have bO := (Blk.new (w := ((w.alloc (.cells #[.string e.name, .int .i64 e.arity, .slice p0 e.clauses.length c0] 95)).alloc (.cells #[.string ⟨#[]⟩, .int .i64 0, .slice none 0 0] 68))) (cs := #[.string e.name, .int .i64 e.arity, .slice none 0 0]) (t := 68))
  simp only [alloc_hs] at bR bO hrg
  replace bR := bR.below hb (by simp only [alloc_hs]; omega)
  replace bO := bO.below hb (by simp only [alloc_hs]; omega)
  have HB1 : Hid (Below w.heap.size w w1) := hal.trans (hb.mono hal.size)
  have HND : Hid (fp.Nodup) := hnd
  have HRG : Hid (∀ a ∈ fp, w.heap.size + 1 + 1 + 1 ≤ a ∧ a < w1.heap.size) := hrg
  have T0 : Hid (ORows w1 45 2 (OCls w1 d) u e.clauses fp) := r0
  clear hal hb hnd hrg
  obtain ⟨p1, c1, hu, _⟩ := r0.shape
  subst hu
  clear r0
  have o0 := bO.cell 0 _ rfl
  have q0 := bR.cell 0 _ rfl
  have k0 := bR.frozen 0
  have o1 := bO.cell 1 _ rfl
  have q1 := bR.cell 1 _ rfl
  have k1 := bR.frozen 1
  have o2 := bO.cell 2 _ rfl
  have q2 := bR.cell 2 _ rfl
  have k2 := bR.frozen 2
  have g2 := bO.frozen 2
  clear bR bO
  go_wp2_with fail
  have sf : SameOn (fun g => w.heap.size + 1 + 1 + 1 ≤ g) w1 ((((w1.setCell ⟨w.heap.size + 1 + 1, 2, none⟩ (.slice p1 e.clauses.length c1)).setCell ⟨w.heap.size + 1, 0, none⟩ (.string e.name)).setCell ⟨w.heap.size + 1, 1, none⟩ (.int .i64 e.arity)).setCell ⟨w.heap.size + 1, 2, none⟩ (.slice p1 e.clauses.length c1)) := SameOn.setCell (SameOn.setCell (SameOn.setCell (SameOn.setCell (SameOn.of_below (Below.refl _ _)) (by show ¬ (_ ≤ w.heap.size + 1 + 1); omega) _) (by show ¬ (_ ≤ w.heap.size + 1); omega) _) (by show ¬ (_ ≤ w.heap.size + 1); omega) _) (by show ¬ (_ ≤ w.heap.size + 1); omega) _
  have bf : Below w.heap.size w ((((w1.setCell ⟨w.heap.size + 1 + 1, 2, none⟩ (.slice p1 e.clauses.length c1)).setCell ⟨w.heap.size + 1, 0, none⟩ (.string e.name)).setCell ⟨w.heap.size + 1, 1, none⟩ (.int .i64 e.arity)).setCell ⟨w.heap.size + 1, 2, none⟩ (.slice p1 e.clauses.length c1)) := Below.setCell (Below.setCell (Below.setCell (Below.setCell (HB1.out) (by show _ ≤ w.heap.size + 1 + 1; omega) _) (by show _ ≤ w.heap.size + 1; omega) _) (by show _ ≤ w.heap.size + 1; omega) _) (by show _ ≤ w.heap.size + 1; omega) _
  have kf : KeepOn fp w1 ((((w1.setCell ⟨w.heap.size + 1 + 1, 2, none⟩ (.slice p1 e.clauses.length c1)).setCell ⟨w.heap.size + 1, 0, none⟩ (.string e.name)).setCell ⟨w.heap.size + 1, 1, none⟩ (.int .i64 e.arity)).setCell ⟨w.heap.size + 1, 2, none⟩ (.slice p1 e.clauses.length c1)) := fun a ha => sf.2 a (HRG.out a ha).1 (HRG.out a ha).2
  exact bodyPost_ret (v := .agg #[.string e.name, .int .i64 e.arity, .slice p1 e.clauses.length c1]) (by simp [results, Tryz.results56, go_sem, q0, q1, q2]) rfl
    ⟨_, fp, rfl, ⟨_, rfl, _, rfl, s0, s1, T0.out.keep kf (fun cs x f _ hs h => OCls.keep h (kf.sub hs))⟩, HND.out, fun a ha => ⟨by have := (HRG.out a ha).1; omega, Nat.lt_of_lt_of_le (HRG.out a ha).2 sf.1⟩, bf⟩

set_option maxHeartbeats 4000000 in
theorem toModule_ofO {d : Nat} (h0 : ToO 35 (fun w v es => Rows w All 2 (HRf) v es) (fun w v es fp => ORows w 88 2 (ORf w d) v es fp) (wtS (wtRf))) (h1 : ToO 36 (fun w v es => Rows w All 3 (HFn w All d) v es) (fun w v es fp => ORows w 68 3 (OFn w d) v es fp) (wtS (wtFn d))) :
    ToO 19 (fun w v e => ∃ cs, v = .agg cs.toArray ∧ HMd w All d cs e) (fun w v e fp => ∃ cs, v = .agg cs.toArray ∧ OMd w d cs e fp) (wtMd d) := by
  intro w v e i1 hwt
  obtain ⟨cs, rfl, v0, v1, rfl, s0, f0, f1⟩ := i1
  have hw0 : wtS (wtRf) e.exports ≤ 1048576 := by unfold wtMd at hwt; omega
  have E0 : ∀ w', SameOn All w w' → Rows w' All 2 (HRf) v0 e.exports := fun w' hw => f0.mono hw (fun _ h => h) (fun _ _ _ h => h)
  have hw1 : wtS (wtFn d) e.funs ≤ 1048576 := by unfold wtMd at hwt; omega
  have E1 : ∀ w', SameOn All w w' → Rows w' All 3 (HFn w' All d) v1 e.funs := fun w' hw => f1.mono hw (fun _ h => h) (fun _ _ _ h => h.mono hw (fun _ h => h))
  obtain ⟨p0, c0, rfl, _⟩ := id f0
  obtain ⟨p1, c1, rfl, _⟩ := id f1
  clear f0 f1
  go_enter Tryz.func19, Tryz.ntmps19
  go_wp2_with fail
  have hal : Below w.heap.size w (((w.alloc (.cells #[.string e.name, .slice p0 e.exports.length c0, .slice p1 e.funs.length c1] 42)).alloc (.cells #[.string ⟨#[]⟩, .slice none 0 0, .slice none 0 0] 53)).alloc (.cells #[.string e.name, .slice none 0 0, .slice none 0 0] 53)) := (((Below.refl _ _).alloc (Nat.le_refl _) _).alloc (by simp only [alloc_hs]; omega) _).alloc (by simp only [alloc_hs]; omega) _
  refine (h0 _ _ e.exports (E0 _ (SameOn.of_below hal)) hw0).mono ?_
  rintro ex w1 ⟨u, fA, rfl, r0, ndA, rgA, hb⟩
  have bA := ((Blk.new (w := w) (cs := #[.string e.name, .slice p0 e.exports.length c0, .slice p1 e.funs.length c1]) (t := 42)).alloc (o := .cells #[.string ⟨#[]⟩, .slice none 0 0, .slice none 0 0] 53)).alloc (o := .cells #[.string e.name, .slice none 0 0, .slice none 0 0] 53)
  have bR := (Blk.new (w := (w.alloc (.cells #[.string e.name, .slice p0 e.exports.length c0, .slice p1 e.funs.length c1] 42))) (cs := #[.string ⟨#[]⟩, .slice none 0 0, .slice none 0 0]) (t := 53)).alloc (o := .cells #[.string e.name, .slice none 0 0, .slice none 0 0] 53)
  have bO := (Blk.new (w := ((w.alloc (.cells #[.string e.name, .slice p0 e.exports.length c0, .slice p1 e.funs.length c1] 42)).alloc (.cells #[.string ⟨#[]⟩, .slice none 0 0, .slice none 0 0] 53))) (cs := #[.string e.name, .slice none 0 0, .slice none 0 0]) (t := 53))
  simp only [alloc_hs] at bA bR bO rgA
  replace bA := bA.below hb (by simp only [alloc_hs]; omega)
  replace bR := bR.below hb (by simp only [alloc_hs]; omega)
  replace bO := bO.below hb (by simp only [alloc_hs]; omega)
  have B1 : Below w.heap.size w w1 := hal.trans (hb.mono hal.size)
  have z1 : w.heap.size + 3 ≤ w1.heap.size := by have := hb.size; simp only [alloc_hs] at this; omega
  have Z1 : Hid (w.heap.size + 3 ≤ w1.heap.size) := z1
  have T0 : Hid (ORows w1 88 2 (ORf w1 d) u e.exports fA) := r0
  have NA : Hid (fA.Nodup) := ndA
  have GA : Hid (∀ a ∈ fA, w.heap.size + 1 + 1 + 1 ≤ a ∧ a < w1.heap.size) := rgA
  clear hal hb z1 ndA rgA
  obtain ⟨p0', c0', hu, _⟩ := r0.shape
  subst hu
  clear r0
  have a2 := bA.cell 2 _ rfl
  have o1 := bO.cell 1 _ rfl
  have g1 := bO.frozen 1
  have HA : Hid (Blk w1 w.heap.size #[.string e.name, .slice p0 e.exports.length c0, .slice p1 e.funs.length c1] 42) := bA
  have HR : Hid (Blk w1 (w.heap.size + 1) #[.string ⟨#[]⟩, .slice none 0 0, .slice none 0 0] 53) := bR
  have HO : Hid (Blk w1 (w.heap.size + 1 + 1) #[.string e.name, .slice none 0 0, .slice none 0 0] 53) := bO
  have HB1 : Hid (Below w.heap.size w w1) := B1
  clear bA bR bO B1
  go_wp2_with fail
  have hp : Below w.heap.size w (w1.setCell ⟨w.heap.size + 1 + 1, 1, none⟩ (.slice p0' e.exports.length c0')) := HB1.out.setCell (by show _ ≤ w.heap.size + 1 + 1; omega) _
  refine (h1 _ _ e.funs (E1 _ (SameOn.of_below hp)) hw1).mono ?_
  rintro ex w2 ⟨u, fB, rfl, r1, ndB, rgB, hb⟩
  have bA := ((HA.out.other (p := ⟨w.heap.size + 1 + 1, 1, none⟩) (v := (.slice p0' e.exports.length c0')) (by show w.heap.size ≠ w.heap.size + 1 + 1; omega)).below hb (by have := Z1.out; simp only [setCell_hs]; omega))
  have bR := ((HR.out.other (p := ⟨w.heap.size + 1 + 1, 1, none⟩) (v := (.slice p0' e.exports.length c0')) (by show w.heap.size + 1 ≠ w.heap.size + 1 + 1; omega)).below hb (by have := Z1.out; simp only [setCell_hs]; omega))
  have bO := ((HO.out.same (j := 1) (v := (.slice p0' e.exports.length c0')) (cs' := #[.string e.name, .slice p0' e.exports.length c0', .slice none 0 0]) rfl).below hb (by have := Z1.out; simp only [setCell_hs]; omega))
  have B2 : Below w.heap.size w w2 := hp.trans (hb.mono hp.size)
  simp only [setCell_hs] at rgB
  have k01 : KeepOn fA w1 w2 := fun a ha => by
    have h := GA.out a ha
    exact (hb.block a (by simp only [setCell_hs]; exact h.2)).trans (Below.heap_setCell _ _ _ _ (by show a ≠ w.heap.size + 1 + 1; omega))
  have T0 : Hid (ORows w2 88 2 (ORf w2 d) (.slice p0' e.exports.length c0') e.exports fA) := by have h := T0.out; exact h.keep k01 (fun cs x f _ hs h => h)
  have T1 : Hid (ORows w2 68 3 (OFn w2 d) u e.funs fB) := r1
  have sz2 : w1.heap.size ≤ w2.heap.size := by have := hb.size; simp only [setCell_hs] at this; exact this
  have HND : Hid ((fA ++ fB).Nodup) := by
    show List.Nodup _
    rw [List.nodup_append]
    exact ⟨NA.out, ndB, fun a ha b hb => by have := GA.out a ha; have := rgB b hb; omega⟩
  have HRG : Hid (∀ a ∈ fA ++ fB, w.heap.size + 1 + 1 + 1 ≤ a ∧ a < w2.heap.size) := fun a ha => by
    rcases List.mem_append.1 ha with ha | ha
    · have := GA.out a ha; omega
    · have := rgB a ha; have := Z1.out; omega
  have HB2 : Hid (Below w.heap.size w w2) := B2
  obtain ⟨p1', c1', hu, _⟩ := r1.shape
  subst hu
  clear hp hb r1 HA HR HO HB1 k01 ndB rgB NA GA sz2 B2
  have o0 := bO.cell 0 _ rfl
  have q0 := bR.cell 0 _ rfl
  have k0 := bR.frozen 0
  have o1 := bO.cell 1 _ rfl
  have q1 := bR.cell 1 _ rfl
  have k1 := bR.frozen 1
  have o2 := bO.cell 2 _ rfl
  have q2 := bR.cell 2 _ rfl
  have k2 := bR.frozen 2
  have g2 := bO.frozen 2
  clear bA bR bO
  go_wp2_with fail
  have sf : SameOn (fun g => w.heap.size + 1 + 1 + 1 ≤ g) w2 ((((w2.setCell ⟨w.heap.size + 1 + 1, 2, none⟩ (.slice p1' e.funs.length c1')).setCell ⟨w.heap.size + 1, 0, none⟩ (.string e.name)).setCell ⟨w.heap.size + 1, 1, none⟩ (.slice p0' e.exports.length c0')).setCell ⟨w.heap.size + 1, 2, none⟩ (.slice p1' e.funs.length c1')) := SameOn.setCell (SameOn.setCell (SameOn.setCell (SameOn.setCell (SameOn.of_below (Below.refl _ _)) (by show ¬ (_ ≤ w.heap.size + 1 + 1); omega) _) (by show ¬ (_ ≤ w.heap.size + 1); omega) _) (by show ¬ (_ ≤ w.heap.size + 1); omega) _) (by show ¬ (_ ≤ w.heap.size + 1); omega) _
  have bf : Below w.heap.size w ((((w2.setCell ⟨w.heap.size + 1 + 1, 2, none⟩ (.slice p1' e.funs.length c1')).setCell ⟨w.heap.size + 1, 0, none⟩ (.string e.name)).setCell ⟨w.heap.size + 1, 1, none⟩ (.slice p0' e.exports.length c0')).setCell ⟨w.heap.size + 1, 2, none⟩ (.slice p1' e.funs.length c1')) := Below.setCell (Below.setCell (Below.setCell (Below.setCell (HB2.out) (by show _ ≤ w.heap.size + 1 + 1; omega) _) (by show _ ≤ w.heap.size + 1; omega) _) (by show _ ≤ w.heap.size + 1; omega) _) (by show _ ≤ w.heap.size + 1; omega) _
  have kf : KeepOn (fA ++ fB) w2 ((((w2.setCell ⟨w.heap.size + 1 + 1, 2, none⟩ (.slice p1' e.funs.length c1')).setCell ⟨w.heap.size + 1, 0, none⟩ (.string e.name)).setCell ⟨w.heap.size + 1, 1, none⟩ (.slice p0' e.exports.length c0')).setCell ⟨w.heap.size + 1, 2, none⟩ (.slice p1' e.funs.length c1')) := fun a ha => sf.2 a (HRG.out a ha).1 (HRG.out a ha).2
  have kA := kf.sub (fp' := fA) (fun a ha => by simp [ha])
  have kB := kf.sub (fp' := fB) (fun a ha => by simp [ha])
  have U0 := T0.out.keep kA (fun cs x f _ hs h => h)
  have U1 := T1.out.keep kB (fun cs x f _ hs h => h.keep (kB.sub hs))
  exact bodyPost_ret (v := .agg #[.string e.name, .slice p0' e.exports.length c0', .slice p1' e.funs.length c1']) (by simp [results, Tryz.results19, go_sem, q0, q1, q2]) rfl
    ⟨_, fA ++ fB, rfl, ⟨_, rfl, _, _, fA, fB, rfl, rfl, s0, U0, U1⟩, HND.out, fun a ha => ⟨by have := (HRG.out a ha).1; omega, Nat.lt_of_lt_of_le (HRG.out a ha).2 sf.1⟩, bf⟩

theorem toModule_own (d : Nat) : ToO 19 (fun w v e => ∃ cs, v = .agg cs.toArray ∧ HMd w All d cs e) (fun w v e fp => ∃ cs, v = .agg cs.toArray ∧ OMd w d cs e fp) (wtMd d) :=
  toModule_ofO (toRefS_ofO (toRef_ofO (d := d))) (toFunS_ofO (toFun_ofO (toClauseS_own d)))
end Go.Proofs.YtoknolophmhlgaaGreatDoor
/-
  The laws' toModuleS: a row of modules, copied into memory that it owns.
-/
namespace Go.Proofs.YtoknolophmhlgaaGreatDoor
open Go.ChangeShapes Go.WideShapes Go.ChangeAt Go.RowKit
set_option linter.unusedVariables false

set_option maxHeartbeats 4000000 in
theorem toModuleS_ofO {d : Nat} (hE : ToO 19 (fun w v e => ∃ cs, v = .agg cs.toArray ∧ HMd w All d cs e) (fun w v e fp => ∃ cs, v = .agg cs.toArray ∧ OMd w d cs e fp) (wtMd d)) :
    ToO 7 (fun w v es => Rows w All 3 (HMd w All d) v es) (fun w v es fp => ORows w 53 3 (OMd w d) v es fp) (wtS (wtMd d)) := by
  intro w v es h hwt
  obtain ⟨p, cap, rfl, hcl, hcm, hx⟩ := h
  generalize hn : es.length = n at *
  have HN : Hid (es.length = n) := hn
  have HX : Hid _ := hx
  have hnb : n ≤ 1048576 := by unfold wtS at hwt; omega
  have HWT : Hid (wtS (wtMd d) es ≤ 1048576) := hwt
  clear hx hn hwt
  obtain ⟨M, hM, hmk⟩ := make_row (t := 29) (e := 53) (c := 3) Tryz.underlying29 (by kernel_rfl) w n hnb
  have HO : Hid (Made w (w.alloc (.cells M 53)) w.heap.size n 53 3 (fun w => OMd w d) es 0 M.toList []) := Made.start hM (by unfold maxLen; omega)
  generalize hG : w.heap.size = G at *
  have HG : Hid (w.heap.size = G) := hG
  go_enter Tryz.func7, Tryz.ntmps7
  go_wp2
  go_loopw [4] (fun iv wr => ∃ (k : Nat) (xs : List Value) (fps : List (List Nat)), k ≤ n ∧ iv = .int .i64 k ∧ Hid (Made w wr G n 53 3 (fun w => OMd w d) es k xs fps)) (fun iv _ => n - (intOf iv).toNat)
  case atStart => exact ⟨0, M.toList, [], Nat.zero_le _, rfl, HO⟩
  case round =>
    obtain ⟨k, xs, fps, hk, rfl, HM⟩ := hrel
    by_cases hlt : k < n
    · obtain ⟨x, hxk⟩ : ∃ x, es[k]? = some x := ⟨es[k]'(by rw [HN.out]; exact hlt), List.getElem?_eq_getElem _⟩
      obtain ⟨g, off, rfl, hg, hgl, hat⟩ := HX.out (by intro h; rw [h] at hxk; simp at hxk)
      obtain ⟨cs, hcl6, hcs, hex⟩ := hat k x hxk
      have hbw : Below w.heap.size w wr := by rw [HG.out]; exact HM.out.below
      have hex' : ∀ w', SameOn All wr w' → HMd w' All d cs x := fun w' hw => hex.mono (SameOn.trans (SameOn.of_below hbw) hw) (fun _ h => h)
      obtain ⟨z0, z1, z2, rfl⟩ := len3 hcl6
      have a0 := hcs 0 (by omega)
      have a1 := hcs 1 (by omega)
      have a2 := hcs 2 (by omega)
      rw [← hbw.cell (p := ⟨g, _, none⟩) (by show g < w.heap.size; rw [HG.out]; exact hgl)] at a0 a1 a2
      simp at a0 a1 a2
      have hwx : wtMd d x ≤ 1048576 := by
        have h1 := HWT.out
        have h2 := sum_take_succ (wtMd d) es k x hxk
        have h3 := sum_take_le (wtMd d) es (k + 1)
        unfold wtS at h1
        omega
      clear hbw hcs hat hex hcl6
      go_wp2_with (go_at_call 19; go_must (refine (hE _ _ x ⟨_, rfl, hex' _ (by exact ⟨Nat.le_refl _, fun _ _ _ => rfl⟩)⟩ hwx).mono ?_; rintro e w1 ⟨u, fp, rfl, ⟨cs', rfl, hx1⟩, hnd, hrg, hb1⟩; obtain ⟨st, p1, n1, q1, p2, n2, q2, hsh⟩ := hx1.shape; subst hsh; have HB1 : Hid (Below wr.heap.size wr w1) := hb1; have HX1 : Hid (OMd w1 d [.string st, .slice p1 n1 q1, .slice p2 n2 q2] x fp) := hx1; have HND : Hid fp.Nodup := hnd; have HRG : Hid (∀ a ∈ fp, wr.heap.size ≤ a ∧ a < w1.heap.size) := hrg; have o1 := HM.out.own.kept (grownBy_belowR (r := none) hb1) (Or.inr (by simp [Value.ownBlock])); have HO1 : Hid (w1.ownsRow G 53 3 (.slice (some ⟨G, 0, none⟩) n n) n xs) := o1; have f0 := o1.frozenAt (k * 3); obtain ⟨y0, g0⟩ := own_someR o1 (k * 3) (by omega); have f1 := o1.frozenAt (k * 3 + 1); obtain ⟨y1, g1⟩ := own_someR o1 (k * 3 + 1) (by omega); have f2 := o1.frozenAt (k * 3 + 2); obtain ⟨y2, g2⟩ := own_someR o1 (k * 3 + 2) (by omega); clear o1 hb1 hx1 hnd hrg))
      have sd := stored3 HO1.out (k * 3) (.string st) (.slice p1 n1 q1) (.slice p2 n2 q2)
      have hlen : xs.length = n * 3 := HO1.out.1
      exact ⟨⟨k + 1, _, _, by omega, by go_num, Made.step (O := fun w => OMd w d) (c := 3) (fun w w' cs x f h hk => h.keep hk) HM.out hxk HB1.out HX1.out HND.out HRG.out rfl sd.1 sd.2 (fun m hm => set3_other hm) (fun j hj => set3_self (by omega) j hj)⟩, by simp [intOf]; omega⟩
    · obtain rfl : k = n := by omega
      obtain ⟨fp, r1, r2, r3⟩ := HM.out.done HN.out (by unfold maxLen; omega)
      have R1 : Hid (ORows wr 53 3 (OMd wr d) (.slice (some ⟨G, 0, none⟩) k k) es fp) := r1
      have R2 : Hid (fp.Nodup ∧ ∀ a ∈ fp, G ≤ a ∧ a < wr.heap.size) := ⟨r2, r3⟩
      clear r1 r2 r3
      go_wp2
      go_ret
      exact ⟨_, fp, rfl, R1.out, R2.out.1, R2.out.2, HM.out.below⟩

theorem toModuleS_own (d : Nat) : ToO 7 (fun w v es => Rows w All 3 (HMd w All d) v es) (fun w v es fp => ORows w 53 3 (OMd w d) v es fp) (wtS (wtMd d)) := toModuleS_ofO (toModule_own d)
/-- A row of modules that owns its memory is a row of modules. -/
theorem oms_tree {w : World} {d : Nat} {v : Value} {es : List Md} {fp : List Nat} (h : ORows w 53 3 (OMd w d) v es fp) : Rows w All 3 (HMd w All d) v es :=
  h.rows (fun _ _ => trivial) (fun cs x f _ hs h => h.tree (fun _ _ => trivial))
theorem oms_keep {w w' : World} {d : Nat} {v : Value} {es : List Md} {fp : List Nat} (h : ORows w 53 3 (OMd w d) v es fp) (hk : KeepOn fp w w') : ORows w' 53 3 (OMd w' d) v es fp :=
  h.keep hk (fun cs x f _ hs h => h.keep (hk.sub hs))
theorem oms_lt {w : World} {d : Nat} {v : Value} {es : List Md} {fp : List Nat} (h : ORows w 53 3 (OMd w d) v es fp) : ∀ a ∈ fp, a < w.heap.size :=
  h.lt (fun cs x f h => h.lt)
end Go.Proofs.YtoknolophmhlgaaGreatDoor
/-
  What the laws' own markText answers: m and the decimal text of a number from 1 on. Condition: the number is one of 1 .. 2^40.
-/
namespace Go.Proofs.YtoknolophmhlgaaGreatDoor
open Go.ChangeShapes Go.WideShapes Go.ChangeAt Go.RowKit
set_option linter.unusedVariables false

theorem ret_strM {a b : List UInt8} (h : a = b) : Ending.returned (.string ⟨a.toArray⟩) = .returned (.string ⟨b.toArray⟩) := by rw [h]

theorem mk_length_le : ∀ (k u : Nat), u < 10 ^ (k + 1) → (Lib.decDigits u).length ≤ k + 1
  | 0, u, h => by
    rw [Lib.decDigits, dif_pos (by simpa using h)]; simp
  | k + 1, u, h => by
    by_cases hu : u < 10
    · rw [Lib.decDigits, dif_pos hu]; simp
    · rw [Lib.decDigits, dif_neg hu, List.length_append]
      have := mk_length_le k (u / 10) (by rw [Nat.div_lt_iff_lt_mul (by omega)]; rw [Nat.pow_succ] at h; exact h)
      simp only [List.length_cons, List.length_nil]; omega
theorem mk_step (x : Nat) (l D : List UInt8) (h : Lib.decDigits x ++ l = D) :
    (x / 10 ≠ 0 → Lib.decDigits (x / 10) ++ ((48 + UInt8.ofNat (x % 10)) :: l) = D) ∧ (x / 10 = 0 → (48 + UInt8.ofNat (x % 10)) :: l = D) := by
  have e : ∀ m : Nat, (48 + UInt8.ofNat m) = UInt8.ofNat (48 + m) := fun m => (UInt8.ofNat_add 48 m).symm
  rw [e]
  refine ⟨fun h0 => ?_, fun h0 => ?_⟩
  · rw [Lib.decDigits, dif_neg (by omega)] at h
    rw [← h]; simp
  · rw [Lib.decDigits, dif_pos (by omega)] at h
    rw [← h, Nat.mod_eq_of_lt (by omega)]; rfl
theorem mk_cons (c : UInt8) (l : List UInt8) : ((⟨#[c]⟩ : ByteArray) ++ ⟨l.toArray⟩) = ⟨(c :: l).toArray⟩ := by
  apply ByteArray.ext; simp
theorem mk_conv (wr : World) (x : Nat) :
    Sem.run Tryz.prog (convert 86 9 (.slice (some ⟨wr.heap.size, 0, none⟩) 1 1)) (wr.alloc (.cells #[.int .u8 (48 + (x : Int) % 10)] 5)) =
      .ok (.string ⟨#[UInt8.ofNat (48 + x % 10)]⟩) (wr.alloc (.cells #[.int .u8 (48 + (x : Int) % 10)] 5)) := by
  refine Go.run_convert_bytes_back (P := Tryz.prog) _ _ _ 5 ⟨wr.heap.size, 0, none⟩ 1 [UInt8.ofNat (48 + x % 10)] Tryz.underlying86 Tryz.underlying5 Tryz.underlying9 ?_
  intro j hj
  simp only [List.length_cons, List.length_nil] at hj
  obtain rfl : j = 0 := by omega
  have e : (UInt8.ofNat (48 + x % 10)).toNat = 48 + x % 10 := by
    rw [UInt8.toNat_ofNat']; omega
  simp only [List.getElem_cons_zero, e]
  simp [Addr.add]

set_option maxHeartbeats 1000000 in
theorem markText_any (n : Nat) (w : World) (h0 : 1 ≤ n) (h1 : n ≤ 1099511627776) :
    Calls Tryz.prog 24 #[.int .i64 n] w fun e w' => e = .returned (.string ⟨(109 :: Lib.decDigits n).toArray⟩) ∧ Below w.heap.size w w' := by
  have hD : (Lib.decDigits n).length ≤ 13 := mk_length_le 12 n (by omega)
  have hz : ¬ n = 0 := by omega
  go_enter Tryz.func24, Tryz.ntmps24
  go_wp2
  go_loopw [0, 3] (fun m o wr => ∃ (x : Nat) (l : List UInt8), m = .int .i64 x ∧ o = .string ⟨l.toArray⟩ ∧ x ≤ n ∧ (x ≠ 0 → Lib.decDigits x ++ l = Lib.decDigits n) ∧ (x = 0 → l = Lib.decDigits n) ∧ Below w.heap.size w wr) (fun m _ _ => (intOf m).toNat)
  case atStart => exact ⟨n, [], rfl, rfl, Nat.le_refl _, fun _ => by simp, fun h => by omega, Below.refl _ _⟩
  case round =>
    obtain ⟨x, l, rfl, rfl, hx, hr1, hr2, hb⟩ := hrel
    have H1 : Hid (x ≠ 0 → Lib.decDigits x ++ l = Lib.decDigits n) := hr1
    have H2 : Hid (x = 0 → l = Lib.decDigits n) := hr2
    have HB : Hid (Below w.heap.size w wr) := hb
    clear hr1 hr2 hb
    by_cases hxz : 0 < x
    · have hcat := H1.out (by omega)
      have hll : l.length ≤ 20 := by have := congrArg List.length hcat; rw [List.length_append] at this; omega
      have HS : Hid _ := mk_step x l _ hcat
      have hcv := mk_conv wr x
      clear hcat H1 H2 hD
      go_wp2
      refine ⟨⟨x / 10, _, by go_num, by rw [mk_cons], by omega, HS.out.1, HS.out.2, HB.out.alloc HB.out.size _⟩, ?_⟩
      simp only [intOf]; omega
    · have hl : l = Lib.decDigits n := H2.out (by omega)
      have hll : l.length ≤ 20 := by rw [hl]; omega
      have HL : Hid (l = Lib.decDigits n) := hl
      clear hl hD
      go_wp2
      go_ret
      exact ⟨by rw [mk_cons]; exact ret_strM (by rw [HL.out]), HB.out⟩
end Go.Proofs.YtoknolophmhlgaaGreatDoor
