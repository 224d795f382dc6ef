/-
  The laws' toModuleS: a row of modules, copied into memory that it owns.
-/
import Derived.Test.YthieikohcoajbaaDoorModTo
namespace Go.Proofs.YthieikohcoajbaaDoor
open Go.ChangeShapes Go.WideShapes Go.ChangeAt Go.RowKit
set_option linter.unusedVariables false

set_option maxHeartbeats 4000000 in
theorem toModuleS_ofO {d : Nat} (hE : ToO 16 (fun w v e => ∃ cs, v = .agg cs.toArray ∧ HMd w All d cs e) (fun w v e fp => ∃ cs, v = .agg cs.toArray ∧ OMd w d cs e fp) (wtMd d)) :
    ToO 7 (fun w v es => Rows w All 3 (HMd w All d) v es) (fun w v es fp => ORows w 45 3 (OMd w d) v es fp) (wtS (wtMd d)) := by
  intro w v es h hwt
  obtain ⟨p, cap, rfl, hcl, hcm, hx⟩ := h
  generalize hn : es.length = n at *
  have HN : Hid (es.length = n) := hn
  have HX : Hid _ := hx
  have hnb : n ≤ 1048576 := by unfold wtS at hwt; omega
  have HWT : Hid (wtS (wtMd d) es ≤ 1048576) := hwt
  clear hx hn hwt
  obtain ⟨M, hM, hmk⟩ := make_row (t := 25) (e := 45) (c := 3) Tryd.underlying25 (by kernel_rfl) w n hnb
  have HO : Hid (Made w (w.alloc (.cells M 45)) w.heap.size n 45 3 (fun w => OMd w d) es 0 M.toList []) := Made.start hM (by unfold maxLen; omega)
  generalize hG : w.heap.size = G at *
  have HG : Hid (w.heap.size = G) := hG
  go_enter Tryd.func7, Tryd.ntmps7
  go_wp2
  go_loopw [4] (fun iv wr => ∃ (k : Nat) (xs : List Value) (fps : List (List Nat)), k ≤ n ∧ iv = .int .i64 k ∧ Hid (Made w wr G n 45 3 (fun w => OMd w d) es k xs fps)) (fun iv _ => n - (intOf iv).toNat)
  case atStart => exact ⟨0, M.toList, [], Nat.zero_le _, rfl, HO⟩
  case round =>
    obtain ⟨k, xs, fps, hk, rfl, HM⟩ := hrel
    by_cases hlt : k < n
    · obtain ⟨x, hxk⟩ : ∃ x, es[k]? = some x := ⟨es[k]'(by rw [HN.out]; exact hlt), List.getElem?_eq_getElem _⟩
      obtain ⟨g, off, rfl, hg, hgl, hat⟩ := HX.out (by intro h; rw [h] at hxk; simp at hxk)
      obtain ⟨cs, hcl6, hcs, hex⟩ := hat k x hxk
      have hbw : Below w.heap.size w wr := by rw [HG.out]; exact HM.out.below
      have hex' : ∀ w', SameOn All wr w' → HMd w' All d cs x := fun w' hw => hex.mono (SameOn.trans (SameOn.of_below hbw) hw) (fun _ h => h)
      obtain ⟨z0, z1, z2, rfl⟩ := len3 hcl6
      have a0 := hcs 0 (by omega)
      have a1 := hcs 1 (by omega)
      have a2 := hcs 2 (by omega)
      rw [← hbw.cell (p := ⟨g, _, none⟩) (by show g < w.heap.size; rw [HG.out]; exact hgl)] at a0 a1 a2
      simp at a0 a1 a2
      have hwx : wtMd d x ≤ 1048576 := by
        have h1 := HWT.out
        have h2 := sum_take_succ (wtMd d) es k x hxk
        have h3 := sum_take_le (wtMd d) es (k + 1)
        unfold wtS at h1
        omega
      clear hbw hcs hat hex hcl6
      go_wp2_with (go_at_call 16; go_must (refine (hE _ _ x ⟨_, rfl, hex' _ (by exact ⟨Nat.le_refl _, fun _ _ _ => rfl⟩)⟩ hwx).mono ?_; rintro e w1 ⟨u, fp, rfl, ⟨cs', rfl, hx1⟩, hnd, hrg, hb1⟩; obtain ⟨st, p1, n1, q1, p2, n2, q2, hsh⟩ := hx1.shape; subst hsh; have HB1 : Hid (Below wr.heap.size wr w1) := hb1; have HX1 : Hid (OMd w1 d [.string st, .slice p1 n1 q1, .slice p2 n2 q2] x fp) := hx1; have HND : Hid fp.Nodup := hnd; have HRG : Hid (∀ a ∈ fp, wr.heap.size ≤ a ∧ a < w1.heap.size) := hrg; have o1 := HM.out.own.kept (grownBy_belowR (r := none) hb1) (Or.inr (by simp [Value.ownBlock])); have HO1 : Hid (w1.ownsRow G 45 3 (.slice (some ⟨G, 0, none⟩) n n) n xs) := o1; have f0 := o1.frozenAt (k * 3); obtain ⟨y0, g0⟩ := own_someR o1 (k * 3) (by omega); have f1 := o1.frozenAt (k * 3 + 1); obtain ⟨y1, g1⟩ := own_someR o1 (k * 3 + 1) (by omega); have f2 := o1.frozenAt (k * 3 + 2); obtain ⟨y2, g2⟩ := own_someR o1 (k * 3 + 2) (by omega); clear o1 hb1 hx1 hnd hrg))
      have sd := stored3 HO1.out (k * 3) (.string st) (.slice p1 n1 q1) (.slice p2 n2 q2)
      have hlen : xs.length = n * 3 := HO1.out.1
      exact ⟨⟨k + 1, _, _, by omega, by go_num, Made.step (O := fun w => OMd w d) (c := 3) (fun w w' cs x f h hk => h.keep hk) HM.out hxk HB1.out HX1.out HND.out HRG.out rfl sd.1 sd.2 (fun m hm => set3_other hm) (fun j hj => set3_self (by omega) j hj)⟩, by simp [intOf]; omega⟩
    · obtain rfl : k = n := by omega
      obtain ⟨fp, r1, r2, r3⟩ := HM.out.done HN.out (by unfold maxLen; omega)
      have R1 : Hid (ORows wr 45 3 (OMd wr d) (.slice (some ⟨G, 0, none⟩) k k) es fp) := r1
      have R2 : Hid (fp.Nodup ∧ ∀ a ∈ fp, G ≤ a ∧ a < wr.heap.size) := ⟨r2, r3⟩
      clear r1 r2 r3
      go_wp2
      go_ret
      exact ⟨_, fp, rfl, R1.out, R2.out.1, R2.out.2, HM.out.below⟩

theorem toModuleS_own (d : Nat) : ToO 7 (fun w v es => Rows w All 3 (HMd w All d) v es) (fun w v es fp => ORows w 45 3 (OMd w d) v es fp) (wtS (wtMd d)) := toModuleS_ofO (toModule_own d)
/-- A row of modules that owns its memory is a row of modules. -/
theorem oms_tree {w : World} {d : Nat} {v : Value} {es : List Md} {fp : List Nat} (h : ORows w 45 3 (OMd w d) v es fp) : Rows w All 3 (HMd w All d) v es :=
  h.rows (fun _ _ => trivial) (fun cs x f _ hs h => h.tree (fun _ _ => trivial))
theorem oms_keep {w w' : World} {d : Nat} {v : Value} {es : List Md} {fp : List Nat} (h : ORows w 45 3 (OMd w d) v es fp) (hk : KeepOn fp w w') : ORows w' 45 3 (OMd w' d) v es fp :=
  h.keep hk (fun cs x f _ hs h => h.keep (hk.sub hs))
theorem oms_lt {w : World} {d : Nat} {v : Value} {es : List Md} {fp : List Nat} (h : ORows w 45 3 (OMd w d) v es fp) : ∀ a ∈ fp, a < w.heap.size :=
  h.lt (fun cs x f h => h.lt)
end Go.Proofs.YthieikohcoajbaaDoor
