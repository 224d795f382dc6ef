/-
  The program's ValText, by contract: a value's text is put behind a row of bytes that the call owns.
-/
import Derived.Test.YthcdppdmiicelaaDoorTextSpec
import Derived.Test.YthcdppdmiicelaaDoorValOf
import Derived.Test.YthcdppdmiicelaaDoorImplDec
import Derived.Test.YthcdppdmiicelaaDoorMarkRow
import Derived.Lib.AppendStr
namespace Go.Proofs.YthcdppdmiicelaaDoor
open Go.ChangeShapes Go.WideShapes Go.ChangeAt Go.RowKit
set_option linter.unusedVariables false

/-- Bytes as cells. -/
def byts (l : List UInt8) : List Value := l.map fun b => Value.int .u8 b.toNat
theorem byts_append (a b : List UInt8) : byts (a ++ b) = byts a ++ byts b := by simp [byts]
theorem byts_str (s : ByteArray) : Lib.strCells s = byts s.data.toList := rfl
theorem byts_length (l : List UInt8) : (byts l).length = l.length := by simp [byts]

theorem info_u8 : (Tryd.prog.info? 5).map (fun i => (i.zero, i.size, i.bytes)) = some (some (.int .u8 0), 1, 1) := by kernel_rfl

/-- The row v holds just the bytes l; it lies in a block of its own at B or above. -/
def OwnB (w : World) (B : Nat) (v : Value) (l : List UInt8) : Prop := ownsM w B 5 v l.length (byts l) ∧ B ≤ w.heap.size
theorem OwnB.next {w w' : World} {B : Nat} {v : Value} {l : List UInt8} (h : OwnB w B v l) (hb : Below w.heap.size w w') : OwnB w' B v l := ⟨h.1.next hb, Nat.le_trans h.2 hb.size⟩
theorem OwnB.off {w : World} {B : Nat} {v : Value} {l : List UInt8} (h : OwnB w B v l) {b : Nat} (hb : v.ownBlock = some b) : B ≤ b ∧ b < w.heap.size := h.1.off hb
theorem OwnB.below {w w' : World} {B : Nat} {v : Value} {l : List UInt8} (h : OwnB w B v l) (hg : w.grownBy w' v.ownBlock) : Below B w w' :=
  ⟨hg.os, hg.tape, hg.output, hg.size, fun j hj => hg.block j (by have := h.2; omega) (fun e => by have := (h.off e.symm).1; omega)⟩
theorem OwnB.blk {w w' : World} {B b : Nat} {v : Value} {l : List UInt8} {cs : Array Value} {t : TypeId} (h : OwnB w B v l) (hg : w.grownBy w' v.ownBlock) (hb : Blk w b cs t) (hne : v.ownBlock ≠ some b) : Blk w' b cs t :=
  (hg.block b hb.lt (fun e => hne e.symm)).trans hb
theorem OwnB.of {w' : World} {B n : Nat} {v : Value} {l m : List UInt8} {xs : List Value} (h : ownsM w' B 5 v n xs) (hn : n = (l ++ m).length) (hx : xs = byts l ++ byts m) (hB : B ≤ w'.heap.size) : OwnB w' B v (l ++ m) := by
  subst hn; subst hx; rw [← byts_append] at h; exact ⟨h, hB⟩
theorem OwnB.start {w : World} {B : Nat} (h : B ≤ w.heap.size) : OwnB w B (.slice none 0 0) [] := ⟨.inl (World.ownsRow_nil w B _ 1), h⟩

/-- The row of a constant text. -/
theorem OwnB.const {w : World} {B : Nat} {l : List UInt8} (hB : B ≤ w.heap.size) (hm : l.length ≤ maxLen) :
    OwnB (w.alloc (.cells (byts l).toArray 5 ((byts l).toArray.size, (byts l).toArray.size + 1))) B (.slice (some ⟨w.heap.size, 0, none⟩) l.length l.length) l :=
  ⟨.inr ⟨byts_length l, w.heap.size, _, _, rfl, hB, heap_alloc_new w _, hm, by simp⟩, by simp only [alloc_hs]; omega⟩

theorem PowAt.low {w w' : World} {B : Nat} (h : PowAt w) (hb : Below B w w') (hB : 1 < B) : PowAt w' := by
  unfold PowAt Lib.TabIs at *
  unfold World.var? at *
  have hg : Tryd.prog.globalNamed "internal/strconv.uint64pow10" = some 1 := by kernel_rfl
  rw [hg] at h ⊢
  simp only [Option.bind_some] at h ⊢
  rw [hb.block _ hB]; exact h
theorem PowAt.lt {w : World} (h : PowAt w) : 1 < w.heap.size := by
  unfold PowAt Lib.TabIs at *
  unfold World.var? at *
  have hg : Tryd.prog.globalNamed "internal/strconv.uint64pow10" = some 1 := by kernel_rfl
  rw [hg] at h
  simp only [Option.bind_some] at h
  cases hh : w.heap[1]? with
  | none => rw [hh] at h; cases h
  | some o => exact (Array.getElem?_eq_some_iff.1 hh).1

/-- Nothing below B has turned, and what is needed of the tables is there. -/
structure Gd (w : World) (B : Nat) : Prop where
  pow : PowAt w
  low : 1 < B
theorem Gd.low' {w w' : World} {B : Nat} (h : Gd w B) (hb : Below B w w') : Gd w' B := ⟨h.pow.low hb h.low, h.low⟩

def ApC (d : Nat) : Prop :=
  ∀ (w : World) (cs : List Value) (x : Va) (B : Nat) (tv : Value) (l : List UInt8), HVa w (fun g => g < B) d cs x → l.length + (22 + 25 * wtVa d x) ≤ 60000000 → Gd w B → OwnB w B tv l →
    Calls Tryd.prog 25 #[tv, .agg cs.toArray] w fun e w' => ∃ tv', e = .returned tv' ∧ OwnB w' B tv' (l ++ vaTxt d x) ∧ Below B w w'
def ApsC (d : Nat) : Prop :=
  ∀ (w : World) (v : Value) (es : List Va) (sep : ByteArray) (B : Nat) (tv : Value) (l : List UInt8), Rows w (fun g => g < B) 4 (HVa w (fun g => g < B) d) v es → l.length + 25 * wtS (wtVa d) es ≤ 60000000 → sep.size ≤ 3 → Gd w B → OwnB w B tv l →
    Calls Tryd.prog 31 #[tv, v, .string sep] w fun e w' => ∃ tv', e = .returned tv' ∧ OwnB w' B tv' (l ++ joinT sep.data.toList (es.map (vaTxt d))) ∧ Below B w w'

theorem low_trans {B : Nat} {a b c : World} (h : Below B a b) (k : Below b.heap.size b c) (hB : B ≤ a.heap.size) : Below B a c := h.trans (k.mono (Nat.le_trans hB h.size))

set_option maxHeartbeats 8000000 in
set_option maxRecDepth 100000 in
theorem appendVals_of {d : Nat} (hE : ApC d) : ApsC d := by
  intro w v es sep B tv l h hwt hsep hgd hown
  have hI := rows_ints h
  obtain ⟨p, cap, rfl, hcl, hcm, hx⟩ := h
  have hnb : es.length ≤ 9223372036854775807 := by unfold maxLen at hcm; omega
  have hB := hown.2
  have BX : Hid (∀ k x, es[k]? = some x → k ≠ 0 → l.length + (joinT sep.data.toList ((es.take k).map (vaTxt d))).length + 3 + (22 + 25 * wtVa d x) ≤ 60000000) := fun k x hk hz => by
    have h1 := joinT_bound d sep.data.toList (by rw [bsize]; exact hsep) (es.take k) (fun y hy => vaTxt_len d y (hI y (List.mem_of_mem_take hy)))
    have h2 := sum_take_succ (wtVa d) es k x hk
    have h3 := sum_take_le (wtVa d) es (k + 1)
    have h4 : (es.take k).length = k := by rw [List.length_take]; have := (List.getElem?_eq_some_iff.1 hk).1; omega
    have h5 := (List.getElem?_eq_some_iff.1 hk).1
    unfold wtS at h1 hwt
    omega
  have BZ : Hid (∀ x, es[0]? = some x → l.length + (22 + 25 * wtVa d x) ≤ 60000000) := fun x hk => by
    have h2 := sum_take_succ (wtVa d) es 0 x hk
    have h3 := sum_take_le (wtVa d) es (0 + 1)
    have h5 := (List.getElem?_eq_some_iff.1 hk).1
    unfold wtS at hwt
    omega
  generalize hn : es.length = n at *
  have HN : Hid (es.length = n) := hn
  have HX : Hid (es ≠ [] → ∃ g off, p = some ⟨g, off, none⟩ ∧ g < B ∧ g < w.heap.size ∧ ∀ i x, es[i]? = some x → ∃ cs, cs.length = 4 ∧ (∀ j, j < 4 → w.cell? ⟨g, off + i * 4 + j, none⟩ = cs[j]?) ∧ HVa w (fun g => g < B) d cs x) := hx
  have HG : Hid (Gd w B) := hgd
  have HO : Hid (OwnB w B tv l) := hown
  obtain ⟨i, hi, hz0, hz1, hz2⟩ := info_parts info_u8
  clear hx hn hI hwt hgd hown
  go_enter Tryd.func31, Tryd.ntmps31
  go_wp2_with fail
  go_loopw [0, 11] (fun ov iv wr => ∃ (k : Nat), k ≤ n ∧ iv = .int .i64 k ∧ Hid (OwnB wr B ov (l ++ joinT sep.data.toList ((es.take k).map (vaTxt d)))) ∧ Below B w wr) (fun _ iv _ => n - (intOf iv).toNat)
  case atStart => exact ⟨0, Nat.zero_le _, rfl, by show OwnB _ _ _ _; simpa [joinT] using HO.out, Below.refl _ _⟩
  case round =>
    obtain ⟨k, hk, rfl, ho, hb⟩ := hrel
    have HB : Hid (Below B w wr) := hb
    by_cases hlt : k < n
    · obtain ⟨x, hxk⟩ : ∃ x, es[k]? = some x := ⟨es[k]'(by rw [HN.out]; exact hlt), List.getElem?_eq_getElem _⟩
      obtain ⟨g, off, rfl, hgB, hgl, hat⟩ := HX.out (by intro h; rw [h] at hxk; simp at hxk)
      obtain ⟨cs, hcs4, hcs, r1⟩ := hat k x hxk
      obtain ⟨sk, sn, st, p1, n1, q1, rfl⟩ := r1.shape
      have E1 : ∀ w', Below B w w' → HVa w' (fun g => g < B) d [.int .i64 sk, .int .i64 sn, .string st, .slice p1 n1 q1] x := fun w' hw => r1.mono (SameOn.of_low hw) (fun _ h => h)
      have a0 := hcs 0 (by omega)
      have a1 := hcs 1 (by omega)
      have a2 := hcs 2 (by omega)
      have a3 := hcs 3 (by omega)
      rw [← hb.cell (p := ⟨g, _, none⟩) hgB] at a0 a1 a2 a3
      simp at a0 a1 a2 a3
      have hki : (k : Int) < (n : Int) := by omega
      have hk0 : (0 : Int) ≤ (k : Int) := by omega
      have HBA : Hid (Below B w (wr.alloc (.cells #[.int .i64 sk, .int .i64 sn, .string st, .slice p1 n1 q1] 29))) := HB.out.alloc (Nat.le_trans hB HB.out.size) _
      have HOA : Hid (OwnB (wr.alloc (.cells #[.int .i64 sk, .int .i64 sn, .string st, .slice p1 n1 q1] 29)) B u0 (l ++ joinT sep.data.toList ((es.take k).map (vaTxt d)))) := ho.out.next ((Below.refl _ _).alloc (Nat.le_refl _) _)
      have HNE : Hid (u0.ownBlock ≠ some wr.heap.size) := fun e => by have := (ho.out.off e).2; omega
      clear hb hcs hat hcs4 r1
      by_cases hz : k = 0
      · have hz1' : ¬ (0 : Int) < (k : Int) := by omega
        have HJ : Hid (joinT sep.data.toList ((es.take (k + 1)).map (vaTxt d)) = vaTxt d x) := by subst hz; exact join_zero d es _ x hxk
        have hbz := BZ.out x (by rw [← hz]; exact hxk)
        have HO2 : Hid (OwnB (wr.alloc (.cells #[.int .i64 sk, .int .i64 sn, .string st, .slice p1 n1 q1] 29)) B u0 l) := by have := HOA.out; rw [hz] at this; show OwnB _ _ _ _; simpa [joinT] using this
        clear hz
        go_wp2_with fail
        refine (hE _ _ x B u0 l (E1 _ HBA.out) hbz (HG.out.low' HBA.out) HO2.out).mono ?_
        rintro e w4 ⟨tv', rfl, ho4, hb4⟩
        have HO4 : Hid (OwnB w4 B tv' (l ++ vaTxt d x)) := ho4
        have HB4 : Hid (Below B w w4) := HBA.out.trans hb4
        clear hb4 ho4
        go_wp2_with fail
        exact ⟨⟨k + 1, by omega, by go_num, by show OwnB _ _ _ _; rw [HJ.out]; exact HO4.out, HB4.out⟩, by simp [intOf]; omega⟩
      · have hz1' : (0 : Int) < (k : Int) := by omega
        have HJ : Hid (joinT sep.data.toList ((es.take (k + 1)).map (vaTxt d)) = joinT sep.data.toList ((es.take k).map (vaTxt d)) ++ (sep.data.toList ++ vaTxt d x)) := join_succ d es _ k x hxk hz
        have hbx := BX.out k x hxk hz
        obtain ⟨J, hJ⟩ : ∃ J, J = l ++ joinT sep.data.toList ((es.take k).map (vaTxt d)) := ⟨_, rfl⟩
        have HJ0 : Hid (J = l ++ joinT sep.data.toList ((es.take k).map (vaTxt d))) := hJ
        rw [← hJ] at HOA
        have hll : J.length + sep.size + (22 + 25 * wtVa d x) ≤ 60000000 := by rw [hJ, List.length_append]; omega
        clear hJ hz hbx
        go_wp2_with (first | (at_builtin; refine wpList_append_stringM _ rfl _ _ 49 9 rfl B 5 i Tryd.underlying49 Tryd.underlying9 hi hz0 hz1 hz2 u0 _ _ rfl HOA.out.1 sep rfl (by unfold maxLen; omega) (by omega) HOA.out.2 ?_))
        intro tv2 w2 hown2 hgr2 _
        have HO2 : Hid (OwnB w2 B tv2 (J ++ sep.data.toList)) := OwnB.of hown2 (by simp only [List.length_append, bsize]) (by rw [byts_str]) (Nat.le_trans HOA.out.2 hgr2.size)
        have hbk := HOA.out.blk hgr2 (Blk.new (w := wr) (cs := #[.int .i64 sk, .int .i64 sn, .string st, .slice p1 n1 q1]) (t := 29)) HNE.out
        have HB2 : Hid (Below B w w2) := HBA.out.trans (HOA.out.below hgr2)
        have c0 := hbk.cell 0 _ rfl
        have c1 := hbk.cell 1 _ rfl
        have c2 := hbk.cell 2 _ rfl
        have c3 := hbk.cell 3 _ rfl
        clear hown2 hgr2 hbk
        go_wp2_with fail
        refine (hE _ _ x B tv2 _ (E1 _ HB2.out) (by simp only [List.length_append, bsize]; omega) (HG.out.low' HB2.out) HO2.out).mono ?_
        rintro e w4 ⟨tv', rfl, ho4, hb4⟩
        have HO4 : Hid (OwnB w4 B tv' (J ++ sep.data.toList ++ vaTxt d x)) := ho4
        have HB4 : Hid (Below B w w4) := HB2.out.trans hb4
        clear hb4 ho4
        go_wp2_with fail
        exact ⟨⟨k + 1, by omega, by go_num, by show OwnB _ _ _ _; rw [HJ.out]; have := HO4.out; rw [HJ0.out] at this; simpa [List.append_assoc] using this, HB4.out⟩, by simp [intOf]; omega⟩
    · have HS : Hid (OwnB wr B u0 (l ++ joinT sep.data.toList (es.map (vaTxt d)))) := by
        have := ho.out
        rwa [List.take_of_length_le (by rw [HN.out]; omega)] at this
      clear hb
      go_wp2_with fail
      go_ret
      exact ⟨u0, rfl, HS.out, HB.out⟩
end Go.Proofs.YthcdppdmiicelaaDoor
