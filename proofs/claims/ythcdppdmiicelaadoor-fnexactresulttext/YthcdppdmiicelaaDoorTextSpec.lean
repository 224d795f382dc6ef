/-
  The specification's ValText, by contract.
-/
import Derived.Test.YthcdppdmiicelaaDoorTextMath
namespace Go.Proofs.YthcdppdmiicelaaDoor
open Go.ChangeShapes Go.WideShapes Go.ChangeAt Go.RowKit
set_option linter.unusedVariables false

def TxC (d : Nat) : Prop :=
  ∀ (w : World) (cs : List Value) (x : Va), HVa w All d cs x → wtVa d x ≤ 1048576 → Calls Tryd.prog 11 #[.agg cs.toArray] w fun e w' => ∃ s : ByteArray, e = .returned (.string s) ∧ s.data.toList = vaTxt d x ∧ Below w.heap.size w w'
def TxsC (d : Nat) : Prop :=
  ∀ (w : World) (v : Value) (es : List Va) (sep : ByteArray), Rows w All 4 (HVa w All d) v es → wtS (wtVa d) es ≤ 1048576 → sep.size ≤ 3 →
    Calls Tryd.prog 24 #[v, .string sep] w fun e w' => ∃ s : ByteArray, e = .returned (.string s) ∧ s.data.toList = joinT sep.data.toList (es.map (vaTxt d)) ∧ Below w.heap.size w w'

theorem rows_ints {w : World} {S : Nat → Prop} {d : Nat} {v : Value} {es : List Va} (h : Rows w S 4 (HVa w S d) v es) : ∀ y ∈ es, vaI d y := by
  intro y hy
  obtain ⟨p, cap, _, _, _, hr⟩ := h
  obtain ⟨i, hi⟩ := List.mem_iff_getElem?.1 hy
  obtain ⟨g, off, _, _, _, hat⟩ := hr (by intro e; rw [e] at hi; simp at hi)
  obtain ⟨cs, _, _, hv⟩ := hat i y hi
  exact hv.ints
theorem bsize (s : ByteArray) : s.data.toList.length = s.size := by rw [Array.length_toList]; rfl
theorem wtS_take {α : Type} (f : α → Nat) (es : List α) (k : Nat) : wtS f (es.take k) ≤ wtS f es := by
  have h1 := sum_take_le f es k
  have h2 : (es.take k).length ≤ es.length := by rw [List.length_take]; omega
  unfold wtS; omega
theorem wtS_at {α : Type} (f : α → Nat) (es : List α) (k : Nat) (x : α) (h : es[k]? = some x) : f x ≤ wtS f es := by
  have h1 := sum_take_succ f es k x h
  have h2 := sum_take_le f es (k + 1)
  unfold wtS; omega
theorem join_size (d : Nat) (es : List Va) (hI : ∀ y ∈ es, vaI d y) (hwt : wtS (wtVa d) es ≤ 1048576) (sep : List UInt8) (hs : sep.length ≤ 3) (k : Nat) : (joinT sep ((es.take k).map (vaTxt d))).length ≤ 26214400 := by
  have h1 := joinT_bound d sep hs (es.take k) (fun y hy => vaTxt_len d y (hI y (List.mem_of_mem_take hy)))
  have h2 := wtS_take (wtVa d) es k
  omega
theorem join_succ (d : Nat) (es : List Va) (sep : List UInt8) (k : Nat) (x : Va) (h : es[k]? = some x) (hk : ¬ k = 0) : joinT sep ((es.take (k + 1)).map (vaTxt d)) = joinT sep ((es.take k).map (vaTxt d)) ++ (sep ++ vaTxt d x) := by
  have hl : k < es.length := (List.getElem?_eq_some_iff.1 h).1
  rw [List.take_add_one, h]
  simp only [Option.toList_some, List.map_append, List.map_cons, List.map_nil]
  refine joinT_snoc sep _ _ (fun e => ?_)
  have := congrArg List.length e
  simp at this
  rcases this with h | h
  · exact hk h
  · rw [h] at hl; simp at hl
theorem join_zero (d : Nat) (es : List Va) (sep : List UInt8) (x : Va) (h : es[0]? = some x) : joinT sep ((es.take (0 + 1)).map (vaTxt d)) = vaTxt d x := by
  rw [List.take_add_one, h]; simp [joinT]

set_option maxHeartbeats 4000000 in
set_option maxRecDepth 100000 in
theorem texts_of {d : Nat} (hE : TxC d) : TxsC d := by
  intro w v es sep h hwt hsep
  have hI := rows_ints h
  obtain ⟨p, cap, rfl, hcl, hcm, hx⟩ := h
  have hnb : es.length ≤ 9223372036854775807 := by unfold maxLen at hcm; omega
  have BD : Hid (∀ k (o : ByteArray), o.data.toList = joinT sep.data.toList ((es.take k).map (vaTxt d)) → o.size ≤ 26214400) := fun k o ho => by
    rw [← bsize, ho]; exact join_size d es hI hwt _ (by rw [bsize]; exact hsep) k
  have BX : Hid (∀ k x, es[k]? = some x → wtVa d x ≤ 1048576 ∧ (vaTxt d x).length ≤ 26214500) := fun k x hk => by
    have h1 := wtS_at (wtVa d) es k x hk
    have h2 := vaTxt_len d x (hI x (List.mem_of_getElem? hk))
    exact ⟨by omega, by omega⟩
  generalize hn : es.length = n at *
  have HN : Hid (es.length = n) := hn
  have HX : Hid (es ≠ [] → ∃ g off, p = some ⟨g, off, none⟩ ∧ All g ∧ g < w.heap.size ∧ ∀ i x, es[i]? = some x → ∃ cs, cs.length = 4 ∧ (∀ j, j < 4 → w.cell? ⟨g, off + i * 4 + j, none⟩ = cs[j]?) ∧ HVa w All d cs x) := hx
  clear hx hn hI hwt
  go_enter Tryd.func24, Tryd.ntmps24
  go_wp2
  go_loopw [5, 6] (fun ov iv wr => ∃ (k : Nat) (o : ByteArray), k ≤ n ∧ iv = .int .i64 k ∧ ov = .string o ∧ Hid (o.data.toList = joinT sep.data.toList ((es.take k).map (vaTxt d))) ∧ Below w.heap.size w wr) (fun _ iv _ => n - (intOf iv).toNat)
  case atStart => exact ⟨0, ⟨#[]⟩, Nat.zero_le _, rfl, rfl, by show _ = _; simp [joinT], Below.refl _ _⟩
  case round =>
    obtain ⟨k, o, hk, rfl, rfl, ho, hb⟩ := hrel
    have hos := BD.out k o ho.out
    have HB : Hid (Below w.heap.size w wr) := hb
    by_cases hlt : k < n
    · obtain ⟨x, hxk⟩ : ∃ x, es[k]? = some x := ⟨es[k]'(by rw [HN.out]; exact hlt), List.getElem?_eq_getElem _⟩
      obtain ⟨g, off, rfl, -, hgl, hat⟩ := HX.out (by intro h; rw [h] at hxk; simp at hxk)
      obtain ⟨cs, hcs4, hcs, r1⟩ := hat k x hxk
      obtain ⟨sk, sn, st, p1, n1, q1, rfl⟩ := r1.shape
      have E1 : ∀ w', Below w.heap.size w w' → HVa w' All d [.int .i64 sk, .int .i64 sn, .string st, .slice p1 n1 q1] x := fun w' hw => r1.mono (SameOn.of_below hw) (fun _ h => h)
      have a0 := hcs 0 (by omega)
      have a1 := hcs 1 (by omega)
      have a2 := hcs 2 (by omega)
      have a3 := hcs 3 (by omega)
      rw [← hb.cell (p := ⟨g, _, none⟩) hgl] at a0 a1 a2 a3
      simp at a0 a1 a2 a3
      have hki : (k : Int) < (n : Int) := by omega
      have hk0 : (0 : Int) ≤ (k : Int) := by omega
      obtain ⟨wx, lx⟩ := BX.out k x hxk
      clear hb hcs hat hcs4 r1
      by_cases hz : k = 0
      · have hz1 : ¬ (0 : Int) < (k : Int) := by omega
        have HJ : Hid (joinT sep.data.toList ((es.take (k + 1)).map (vaTxt d)) = vaTxt d x) := by subst hz; exact join_zero d es _ x hxk
        have HO : Hid (o = ⟨#[]⟩) := by
          have := ho.out
          rw [hz] at this
          simp [joinT] at this
          show _ = _
          exact ByteArray.ext (by simpa using this)
        clear hz
        go_wp2_with fail
        refine (hE _ _ x (E1 _ HB.out) wx).mono ?_
        rintro e w4 ⟨s, rfl, hs, hb4⟩
        have HS : Hid (s.data.toList = vaTxt d x) := hs
        have hss : s.size ≤ 26214500 := by rw [← bsize, hs]; exact lx
        have HB4 : Hid (Below w.heap.size w w4) := HB.out.trans (hb4.mono HB.out.size)
        clear hb4 hs
        go_wp2_with fail
        refine ⟨⟨k + 1, o ++ s, by omega, by go_num, rfl, ?_, HB4.out⟩, by simp [intOf]; omega⟩
        show _ = _
        rw [HJ.out, HO.out, ← HS.out]
        simp
      · have hz1 : (0 : Int) < (k : Int) := by omega
        have HJ : Hid (joinT sep.data.toList ((es.take (k + 1)).map (vaTxt d)) = joinT sep.data.toList ((es.take k).map (vaTxt d)) ++ (sep.data.toList ++ vaTxt d x)) := join_succ d es _ k x hxk hz
        go_wp2_with fail
        refine (hE _ _ x (E1 _ HB.out) wx).mono ?_
        rintro e w4 ⟨s, rfl, hs, hb4⟩
        have HS : Hid (s.data.toList = vaTxt d x) := hs
        have hss : s.size ≤ 26214500 := by rw [← bsize, hs]; exact lx
        have HB4 : Hid (Below w.heap.size w w4) := HB.out.trans (hb4.mono HB.out.size)
        clear hb4 hs
        go_wp2_with fail
        refine ⟨⟨k + 1, o ++ sep ++ s, by omega, by go_num, rfl, ?_, HB4.out⟩, by simp [intOf]; omega⟩
        show _ = _
        rw [HJ.out, ← HS.out, ← ho.out]
        simp [ByteArray.data_append]
    · have HS : Hid (o.data.toList = joinT sep.data.toList (es.map (vaTxt d))) := by
        have := ho.out
        rwa [List.take_of_length_le (by rw [HN.out]; omega)] at this
      clear hb
      go_wp2_with fail
      go_ret
      exact ⟨o, rfl, HS.out, HB.out⟩

set_option maxHeartbeats 4000000 in
set_option maxRecDepth 100000 in
theorem text_of {d : Nat} (h1 : TxsC d) : TxC (d + 1) := by
  intro w cs x h hwt
  obtain ⟨kv, rfl, -, hni, hts, f0⟩ := h
  obtain ⟨kx, nx, tx, es⟩ := x
  simp only [Va.kind, Va.n, Va.text, Va.kids] at *
  have hw : wtVa (d + 1) (.mk kx nx tx es) = tx.size + wtS (wtVa d) es := rfl
  have hwe : wtS (wtVa d) es ≤ 1048576 := by omega
  have hI := rows_ints f0
  have HL : Hid (∀ sep : List UInt8, sep.length ≤ 3 → (joinT sep (es.map (vaTxt d))).length ≤ 26214400) := fun sep hs => by
    have := join_size d es hI hwe sep hs es.length
    rwa [List.take_length] at this
  have f1 := f0
  obtain ⟨p, cap, hkv, -, -, -⟩ := f0
  subst hkv
  have BL : Hid (Below w.heap.size w (w.alloc (.cells #[.int .i64 kx, .int .i64 nx, .string tx, .slice p es.length cap] 29))) := (Below.refl _ _).alloc (Nat.le_refl _) _
  have F0 : Hid (Rows (w.alloc (.cells #[.int .i64 kx, .int .i64 nx, .string tx, .slice p es.length cap] 29)) All 4 (HVa (w.alloc (.cells #[.int .i64 kx, .int .i64 nx, .string tx, .slice p es.length cap] 29)) All d) (.slice p es.length cap) es) :=
    f1.mono (SameOn.of_below BL.out) (fun _ h => h) (fun _ _ _ h => h.mono (SameOn.of_below BL.out) (fun _ h => h))
  obtain ⟨i0, i1⟩ := okI_bd hni
  clear hw hwt hI hni f1
  generalize es.length = l at *
  by_cases k0 : kx = 0
  · subst k0
    go_enter Tryd.func11, Tryd.ntmps11
    go_wp2_with (go_at_call 23; go_must (refine (specDecText_any _ _ i0 i1).mono ?_; rintro e w' ⟨rfl, rfl⟩))
    go_ret
    exact ⟨_, rfl, by simp [vaTxt, Va.kind, Va.n], BL.out⟩
  by_cases k1 : kx = 1
  · subst k1
    go_enter Tryd.func11, Tryd.ntmps11
    go_wp2
    go_ret
    exact ⟨_, rfl, by simp [vaTxt, Va.kind, Va.text], BL.out⟩
  by_cases k2 : kx = 2
  · subst k2
    go_enter Tryd.func11, Tryd.ntmps11
    go_wp2_with fail
    refine (h1 _ _ es ⟨#[44, 32]⟩ F0.out hwe (by decide)).mono ?_
    rintro e w1 ⟨s, rfl, hs, hb⟩
    have HS : Hid (s.data.toList = joinT [44, 32] (es.map (vaTxt d))) := hs
    have hss : s.size ≤ 26214400 := by rw [← bsize, hs]; exact HL.out _ (by decide)
    have HB : Hid (Below w.heap.size w w1) := BL.out.trans (hb.mono BL.out.size)
    clear hb hs
    go_wp2_with fail
    go_ret
    exact ⟨_, rfl, by simp [vaTxt, Va.kind, Va.kids, ByteArray.data_append, HS.out], HB.out⟩
  by_cases k3 : kx = 3
  · subst k3
    go_enter Tryd.func11, Tryd.ntmps11
    go_wp2
    go_ret
    exact ⟨_, rfl, by simp [vaTxt, Va.kind], BL.out⟩
  by_cases k4 : kx = 4
  · subst k4
    go_enter Tryd.func11, Tryd.ntmps11
    go_wp2_with fail
    refine (h1 _ _ es ⟨#[32, 124, 32]⟩ F0.out hwe (by decide)).mono ?_
    rintro e w1 ⟨s, rfl, hs, hb⟩
    have HS : Hid (s.data.toList = joinT [32, 124, 32] (es.map (vaTxt d))) := hs
    have hss : s.size ≤ 26214400 := by rw [← bsize, hs]; exact HL.out _ (by decide)
    have HB : Hid (Below w.heap.size w w1) := BL.out.trans (hb.mono BL.out.size)
    clear hb hs
    go_wp2_with fail
    go_ret
    exact ⟨_, rfl, by simp [vaTxt, Va.kind, Va.kids, ByteArray.data_append, HS.out], HB.out⟩
  · go_enter Tryd.func11, Tryd.ntmps11
    go_wp2
    go_ret
    exact ⟨_, rfl, by simp [vaTxt, Va.kind, k0, k1, k2, k3, k4], BL.out⟩

theorem text_all : ∀ d, TxC d
  | 0 => fun w cs x h _ => h.elim
  | d + 1 => text_of (texts_of (text_all d))
end Go.Proofs.YthcdppdmiicelaaDoor
