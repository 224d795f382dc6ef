/-
  Texts of the proof, packed: DrawV, MatchSpecB.
-/
import Derived.Test.YtmnghlkkfkpjhaaGreatDoorPackD
import Derived.Test.YtmnghlkkfkpjhaaGreatDoorPackF
import Derived.Deep.RegionLaw
/-
  The specification's l03Val: a value that is drawn, whose lists have a head and a tail. Nothing but the cursor turns.
-/
namespace Go.Proofs.YtmnghlkkfkpjhaaGreatDoor
open Go.ChangeShapes Go.WideShapes Go.ChangeAt Go.RowKit
set_option linter.unusedVariables false
set_option maxRecDepth 100000

theorem intP_newV {w : World} {p : Nat} (xs : List Int) (hc : Cur w p) (hm : xs.length ≤ 100) :
    Rows (w.alloc (.cells (xs.map (Value.int .i64)).toArray 3)) (fun g => g ≠ p) 1 HInt (.slice (some ⟨w.heap.size, 0, none⟩) xs.length xs.length) xs := by
  refine ⟨_, _, rfl, Nat.le_refl _, Nat.le_trans hm (by unfold maxLen; omega), fun hne => ⟨w.heap.size, 0, rfl, by have := hc.lt; omega, ?_, fun i x hi => ⟨[.int .i64 x], rfl, fun j hj => ?_, rfl⟩⟩⟩
  · exact (Blk.new (w := w)).lt
  · obtain rfl : j = 0 := by omega
    rw [show 0 + i * 1 + 0 = i by omega]
    exact (Blk.new (w := w)).cell i _ (by simp [hi])
theorem sameOff {p : Nat} {w w' : World} (ho : Off [p] w w') : SameOn (fun g => g ≠ p) w w' := ⟨ho.size, fun g hg hl => ho.block g hl (by simpa using hg)⟩

theorem cur_heapV {w w' : World} {p : Nat} (h : Cur w p) (e : w'.heap = w.heap) : Cur w' p := by
  obtain ⟨cv, xs, i, h, hb', hi, hx, hr⟩ := h
  exact ⟨cv, xs, i, h, by unfold Blk at *; rw [e]; exact hb', hi, hx, Rows.mono hr ⟨by rw [e]; exact Nat.le_refl _, fun g _ _ => by rw [e]⟩ (fun _ h => h) (fun _ _ _ h => h)⟩
/-- The kinds are those of values, at every depth; nothing has more than two kids. -/
def kdV : Nat → Va → Prop
  | 0, _ => True
  | d + 1, x => (0 ≤ x.kind ∧ x.kind ≤ 4) ∧ x.kids.length ≤ 2 ∧ ∀ y ∈ x.kids, kdV d y
/-- A drawn value, in new memory. -/
def DvT (w : World) (B n : Nat) (cs : List Value) (x : Va) : Prop := HVa w (fun g => B ≤ g) (n + 1) cs x ∧ twoV (n + 1) x ∧ wtVa (n + 1) x + 2 ≤ 4 * 2 ^ n ∧ kdV (n + 1) x
theorem DvT.same {w w' : World} {B n : Nat} {cs : List Value} {x : Va} (h : DvT w B n cs x) (hs : SameOn (fun g => B ≤ g) w w') : DvT w' B n cs x := ⟨h.1.mono hs (fun _ h => h), h.2⟩
theorem DvT.off {w w' : World} {p B n : Nat} {cs : List Value} {x : Va} (h : DvT w B n cs x) (ho : Off [p] w w') (hp : p < B) : DvT w' B n cs x := h.same ⟨ho.size, fun g hg hl => ho.block g hl (by simp; have : B ≤ g := hg; omega)⟩
theorem DvT.base {w : World} {B B' n : Nat} {cs : List Value} {x : Va} (h : DvT w B n cs x) (hB : B' ≤ B) : DvT w B' n cs x := ⟨h.1.mono ⟨Nat.le_refl _, fun _ _ _ => rfl⟩ (fun g hg => Nat.le_trans hB hg), h.2⟩
def DvC (n : Nat) : Prop := ∀ (p : Nat) (w : World), Cur w p → Calls Tryz.prog 26 #[.pointer (some ⟨p, 0, none⟩), .int .i64 n] w fun e w' =>
  ∃ sk sn st pk nk x, e = .returned (.agg #[.int .i64 sk, .int .i64 sn, .string st, .slice pk nk nk]) ∧ DvT w' w.heap.size n [.int .i64 sk, .int .i64 sn, .string st, .slice pk nk nk] x ∧ Cur w' p ∧ Off [p] w w'
theorem pow_ge (n : Nat) : 1 ≤ 2 ^ n := Nat.one_le_two_pow
theorem dv_leaf {w : World} {B n : Nat} (k m : Int) (t : ByteArray) (hk : okI k) (hm : okI m) (ht : t.size ≤ 2) (hk4 : 0 ≤ k ∧ k ≤ 3) : DvT w B n [.int .i64 k, .int .i64 m, .string t, .slice none 0 0] (.mk k m t []) := by
  refine ⟨⟨_, rfl, hk, hm, Nat.le_trans ht (by unfold maxLen; omega), Rows.nil (Nat.zero_le _)⟩, ⟨fun e => by have : k = 4 := e; omega, fun y hy => by cases hy⟩, ?_, ⟨hk4.1, by show k ≤ 4; omega⟩, Nat.zero_le _, fun y hy => by cases hy⟩
  have := pow_ge n
  show t.size + wtS (wtVa n) [] + 2 ≤ _
  unfold wtS
  simp only [List.length_nil, List.map_nil, List.sum_nil]
  omega
theorem okI_zero : okI 0 := by unfold okI; decide
theorem dv_two {w : World} {B n : Nat} {k : Int} (hk : okI k) (hkk : 0 ≤ k ∧ k ≤ 4) {ca cb : List Value} {xa xb : Va} (ha : DvT w B n ca xa) (hb : DvT w B n cb xb) (hla : ca.length = 4) (hlb : cb.length = 4) (hB : B ≤ w.heap.size) :
    DvT (w.alloc (.cells (ca ++ cb).toArray 26)) B (n + 1) [.int .i64 k, .int .i64 0, .string ⟨#[]⟩, .slice (some ⟨w.heap.size, 0, none⟩) 2 2] (.mk k 0 ⟨#[]⟩ [xa, xb]) := by
  have hal : SameOn (fun g => B ≤ g) w (w.alloc (.cells (ca ++ cb).toArray 26)) := SameOn.of_below ((Below.refl _ _).alloc (Nat.le_refl _) _)
  have ha' := ha.same hal
  have hb' := hb.same hal
  have hr : Rows (w.alloc (.cells (ca ++ cb).toArray 26)) (fun g => B ≤ g) 4 (HVa (w.alloc (.cells (ca ++ cb).toArray 26)) (fun g => B ≤ g) (n + 1)) (.slice (some ⟨w.heap.size, 0, none⟩) 2 2) [xa, xb] := by
    refine ⟨_, _, rfl, Nat.le_refl _, by show 2 ≤ maxLen; unfold maxLen; omega, fun _ => ⟨w.heap.size, 0, rfl, hB, (Blk.new (w := w)).lt, fun i x hi => ?_⟩⟩
    have bl := Blk.new (w := w) (cs := (ca ++ cb).toArray) (t := 26)
    match i, hi with
    | 0, hi =>
      obtain rfl : xa = x := by simpa using hi
      refine ⟨ca, hla, fun j hj => ?_, ha'.1⟩
      rw [show 0 + 0 * 4 + j = j by omega]
      have : ca[j]? = some (ca[j]'(by omega)) := List.getElem?_eq_getElem _
      rw [this]
      exact bl.cell j _ (by simp [List.getElem?_append_left (show j < ca.length by omega)])
    | 1, hi =>
      obtain rfl : xb = x := by simpa using hi
      refine ⟨cb, hlb, fun j hj => ?_, hb'.1⟩
      rw [show 0 + 1 * 4 + j = 4 + j by omega]
      have : cb[j]? = some (cb[j]'(by omega)) := List.getElem?_eq_getElem _
      rw [this]
      exact bl.cell (4 + j) _ (by
        have : (ca ++ cb)[4 + j]? = cb[j]? := by rw [List.getElem?_append_right (by omega)]; congr 1; omega
        simp [this])
    | i + 2, hi => simp at hi
  refine ⟨⟨_, rfl, hk, okI_zero, Nat.zero_le _, hr⟩, ⟨fun _ => rfl, fun y hy => ?_⟩, ?_, hkk, Nat.le_refl _, fun y hy => ?_⟩
  · have hy2 : y ∈ [xa, xb] := hy
    simp only [List.mem_cons, List.not_mem_nil, or_false] at hy2
    rcases hy2 with rfl | rfl
    · exact ha.2.1
    · exact hb.2.1
  · have h1 := ha.2.2.1
    have h2 := hb.2.2.1
    show (⟨#[]⟩ : ByteArray).size + wtS (wtVa (n + 1)) [xa, xb] + 2 ≤ 4 * 2 ^ (n + 1)
    unfold wtS
    simp only [List.length_cons, List.length_nil, List.map_cons, List.map_nil, List.sum_cons, List.sum_nil, Nat.pow_succ]
    show 0 + _ + _ ≤ _
    omega
  · have hy2 : y ∈ [xa, xb] := hy
    simp only [List.mem_cons, List.not_mem_nil, or_false] at hy2
    rcases hy2 with rfl | rfl
    · exact ha.2.2.2
    · exact hb.2.2.2

/-- The cursor stays where a box that holds no bytes is written. -/
theorem Cur.store {w : World} {p b j : Nat} {cs : Array Value} {t : TypeId} {v : Value} (h : Cur w p) (hb : Blk w b cs t) (hn : ∀ (i : Nat) u, cs[i]? = some u → ∀ x, u ≠ .int .u8 x) (hbp : b ≠ p) : Cur (w.setCell ⟨b, j, none⟩ v) p := by
  obtain ⟨cv, xs, i, hh, hblk, hi, hx, pp, cap, hv, h1, h2, hr⟩ := h
  refine ⟨cv, xs, i, hh, hblk.other (by show p ≠ b; omega), hi, hx, pp, cap, hv, h1, h2, fun hne => ?_⟩
  obtain ⟨g, off, hp, hS, hl, hat⟩ := hr hne
  have hgb : g ≠ b := by
    intro e
    subst e
    obtain ⟨x0, hx0⟩ : ∃ x0, xs[0]? = some x0 := by cases xs with | nil => exact absurd rfl hne | cons y l => exact ⟨y, rfl⟩
    obtain ⟨cs0, hc0, hcs0, e0, _⟩ := hat 0 x0 hx0
    have := hcs0 0 (by omega)
    rw [e0] at this
    simp only [World.cell?] at this
    rw [show w.heap[g]? = _ from hb] at this
    exact hn _ _ (by simpa using this) _ rfl
  refine ⟨g, off, hp, hS, by rw [setCell_hs]; exact hl, fun k x hk => ?_⟩
  obtain ⟨cs', hc', hcs', hr'⟩ := hat k x hk
  exact ⟨cs', hc', fun q hq => (World.cell?_of_block (Below.heap_setCell _ _ _ _ (by show g ≠ b; exact hgb))).trans (hcs' q hq), hr'⟩
theorem noU8_4 {a b : Int} {s : ByteArray} {p : Option Addr} {n c : Nat} : ∀ (i : Nat) u, (#[Value.int .i64 a, .int .i64 b, .string s, .slice p n c] : Array Value)[i]? = some u → ∀ x, u ≠ .int .u8 x := by
  intro i u h x e
  subst e
  match i, h with
  | 0, h => simp at h
  | 1, h => simp at h
  | 2, h => simp at h
  | 3, h => simp at h
  | i + 4, h => simp at h
theorem dv_end {w wc : World} {p n : Nat} {k m : Int} {t : ByteArray} {pk : Option Addr} {nk : Nat} {x : Va} (C : Cur wc p) (O : Off [p] w wc) (b : Blk wc w.heap.size #[.int .i64 0, .int .i64 0, .string ⟨#[]⟩, .slice none 0 0] 26) (hp : p < w.heap.size) (T : DvT wc (w.heap.size + 1) n [.int .i64 k, .int .i64 m, .string t, .slice pk nk nk] x) :
    DvT ((((wc.setCell ⟨w.heap.size, 0, none⟩ (.int .i64 k)).setCell ⟨w.heap.size, 1, none⟩ (.int .i64 m)).setCell ⟨w.heap.size, 2, none⟩ (.string t)).setCell ⟨w.heap.size, 3, none⟩ (.slice pk nk nk)) w.heap.size n [.int .i64 k, .int .i64 m, .string t, .slice pk nk nk] x ∧ Cur ((((wc.setCell ⟨w.heap.size, 0, none⟩ (.int .i64 k)).setCell ⟨w.heap.size, 1, none⟩ (.int .i64 m)).setCell ⟨w.heap.size, 2, none⟩ (.string t)).setCell ⟨w.heap.size, 3, none⟩ (.slice pk nk nk)) p ∧ Off [p] w ((((wc.setCell ⟨w.heap.size, 0, none⟩ (.int .i64 k)).setCell ⟨w.heap.size, 1, none⟩ (.int .i64 m)).setCell ⟨w.heap.size, 2, none⟩ (.string t)).setCell ⟨w.heap.size, 3, none⟩ (.slice pk nk nk)) := by
  have e1 := b.same (j := 0) (v := .int .i64 k) rfl
  have e2 := e1.same (j := 1) (v := .int .i64 m) rfl
  have e3 := e2.same (j := 2) (v := .string t) rfl
  refine ⟨DvT.base (DvT.same T ?_) (Nat.le_succ _), ?_, ?_⟩
  · exact SameOn.setCell (SameOn.setCell (SameOn.setCell (SameOn.setCell (SameOn.of_below (Below.refl _ _)) (by show ¬ (_ ≤ w.heap.size); omega) _) (by show ¬ (_ ≤ w.heap.size); omega) _) (by show ¬ (_ ≤ w.heap.size); omega) _) (by show ¬ (_ ≤ w.heap.size); omega) _
  · exact (((C.store b noU8_4 (by omega)).store e1 noU8_4 (by omega)).store e2 noU8_4 (by omega)).store e3 noU8_4 (by omega)
  · refine ⟨O.os, O.tape, O.output, by simp only [setCell_hs]; exact O.size, fun j hj hn => ?_⟩
    have h0 : j ≠ w.heap.size := by omega
    exact (Below.heap_setCell _ _ _ _ h0).trans ((Below.heap_setCell _ _ _ _ h0).trans ((Below.heap_setCell _ _ _ _ h0).trans ((Below.heap_setCell _ _ _ _ h0).trans (O.block j hj hn))))

set_option maxHeartbeats 8000000 in
theorem l03Val_of {n : Nat} (hn : n ≤ 10) (hE : ∀ m, n = m + 1 → DvC m) : DvC n := by
  intro p w hc
  obtain ⟨W0, hW0⟩ : ∃ W0, W0 = w.alloc (.cells #[.int .i64 0, .int .i64 0, .string ⟨#[]⟩, .slice none 0 0] 26) := ⟨_, rfl⟩
  have hal0 : Below w.heap.size w W0 := by rw [hW0]; exact (Below.refl _ _).alloc (Nat.le_refl _) _
  have C0 : Hid (Cur W0 p) := hc.next hal0
  have O0 : Hid (Off [p] w W0) := Off.of_below hal0
  have b0 : Hid (Blk W0 w.heap.size #[.int .i64 0, .int .i64 0, .string ⟨#[]⟩, .slice none 0 0] 26) := by show Blk _ _ _ _; rw [hW0]; exact Blk.new
  have HS0 : Hid (W0.heap.size = w.heap.size + 1) := by show _ = _; rw [hW0, alloc_hs]
  have HP : Hid (p < w.heap.size) := hc.lt
  have HW0 : Hid (W0 = w.alloc (.cells #[.int .i64 0, .int .i64 0, .string ⟨#[]⟩, .slice none 0 0] 26)) := hW0
  have LA : Hid (∀ x ∈ ([⟨#[111, 107]⟩, ⟨#[110, 111]⟩, ⟨#[97]⟩] : List ByteArray), x.size ≤ 2) := by show ∀ x ∈ ([⟨#[111, 107]⟩, ⟨#[110, 111]⟩, ⟨#[97]⟩] : List ByteArray), x.size ≤ 2; decide
  have LI : Hid (∀ x ∈ ([0, 1, 2, 7, -1, 9223372036854775807, -9223372036854775808] : List Int), okI x) := by show ∀ x ∈ ([0, 1, 2, 7, -1, 9223372036854775807, -9223372036854775808] : List Int), (Lit.int .i64 x).wf = true; decide
  clear hc hW0 hal0
  go_enter Tryz.func26, Tryz.ntmps26
  go_wp2_with fail
  rw [← HW0.out]
  refine (l01Below_any p 8 _ C0.out (by decide) (by decide)).mono ?_
  rintro e w1 ⟨k, hk, rfl, hc1, ho1⟩
  have C1 : Hid (Cur w1 p) := hc1
  have O1 : Hid (Off [p] w w1) := O0.out.trans ho1
  have b1 : Hid (Blk w1 w.heap.size #[.int .i64 0, .int .i64 0, .string ⟨#[]⟩, .slice none 0 0] 26) := (ho1.block _ b0.out.lt (by simp; have := HP.out; omega)).trans b0.out
  have HS1 : Hid (w.heap.size + 1 ≤ w1.heap.size) := by have := ho1.size; have := HS0.out; show _ ≤ _; omega
  clear hc1 ho1
  by_cases hn0 : (n : Int) ≤ 0
  · skip
    go_wp2_with fail
    refine (l01Once_any p 3 _ C1.out (by decide) (by decide)).mono ?_
    rintro e w2 ⟨bb, rfl, hc2, ho2⟩
    have C2 : Hid (Cur w2 p) := hc2
    have O2 : Hid (Off [p] w w2) := O1.out.trans ho2
    have b2 : Hid (Blk w2 w.heap.size #[.int .i64 0, .int .i64 0, .string ⟨#[]⟩, .slice none 0 0] 26) := (ho2.block _ b1.out.lt (by simp; have := HP.out; omega)).trans b1.out
    clear hc2 ho2
    cases bb with
    | true =>
      obtain ⟨W3, hW3⟩ : ∃ W3, W3 = w2.alloc (.cells (strs [⟨#[111, 107]⟩, ⟨#[110, 111]⟩, ⟨#[97]⟩]).toArray 9) := ⟨_, rfl⟩
      have hal3 : Below w2.heap.size w2 W3 := by rw [hW3]; exact (Below.refl _ _).alloc (Nat.le_refl _) _
      have C3 : Hid (Cur W3 p) := C2.out.next hal3
      have O3 : Hid (Off [p] w W3) := O2.out.trans (Off.of_below hal3)
      have b3 : Hid (Blk W3 w.heap.size #[.int .i64 0, .int .i64 0, .string ⟨#[]⟩, .slice none 0 0] 26) := b2.out.next hal3
      have SP : Hid (StrP W3 p (.slice (some ⟨w2.heap.size, 0, none⟩) 3 3) [⟨#[111, 107]⟩, ⟨#[110, 111]⟩, ⟨#[97]⟩]) := by show StrP _ _ _ _; rw [hW3]; exact strP_new [⟨#[111, 107]⟩, ⟨#[110, 111]⟩, ⟨#[97]⟩] C2.out (fun x hx => Nat.le_trans (LA.out x hx) (by decide)) (by decide)
      have HW3 : Hid (W3 = w2.alloc (.cells (strs [⟨#[111, 107]⟩, ⟨#[110, 111]⟩, ⟨#[97]⟩]).toArray 9)) := hW3
      clear hal3 hW3
      go_wp2_with fail
      rw [show (w2.alloc (.cells #[.string ⟨#[111, 107]⟩, .string ⟨#[110, 111]⟩, .string ⟨#[97]⟩] 9)) = W3 from HW3.out.symm]
      refine (l01Pick_any p _ [⟨#[111, 107]⟩, ⟨#[110, 111]⟩, ⟨#[97]⟩] _ C3.out (by decide) (by decide) SP.out).mono ?_
      rintro e w4 ⟨sx, hsx, rfl, hc4, ho4⟩
      have C4 : Hid (Cur w4 p) := hc4
      have O4 : Hid (Off [p] w w4) := O3.out.trans ho4
      have b4 : Hid (Blk w4 w.heap.size #[.int .i64 0, .int .i64 0, .string ⟨#[]⟩, .slice none 0 0] 26) := (ho4.block _ b3.out.lt (by simp; have := HP.out; omega)).trans b3.out
      have HSX : Hid (sx.size ≤ 2) := LA.out sx hsx
      clear hc4 ho4 hsx
      have q0 := b4.out.cell 0 _ rfl
      have q1 := b4.out.cell 1 _ rfl
      have q2 := b4.out.cell 2 _ rfl
      have q3 := b4.out.cell 3 _ rfl
      have f0 := b4.out.frozen 0
      have f1 := b4.out.frozen 1
      have f2 := b4.out.frozen 2
      have f3 := b4.out.frozen 3
      go_wp2_with fail
      obtain ⟨d1, d2, d3⟩ := dv_end C4.out O4.out b4.out HP.out (dv_leaf 1 0 sx (by unfold okI; decide) okI_zero HSX.out (by decide))
      exact bodyPost_ret (v := .agg #[.int .i64 1, .int .i64 0, .string sx, .slice none 0 0]) (by simp [results, Tryz.results26, go_sem, q0, q1, q2, q3]) rfl ⟨_, _, _, _, _, _, rfl, d1, d2, d3⟩
    | false =>
      obtain ⟨W3, hW3⟩ : ∃ W3, W3 = w2.alloc (.cells (([0, 1, 2, 7, -1, 9223372036854775807, -9223372036854775808] : List Int).map (Value.int .i64)).toArray 3) := ⟨_, rfl⟩
      have hal3 : Below w2.heap.size w2 W3 := by rw [hW3]; exact (Below.refl _ _).alloc (Nat.le_refl _) _
      have C3 : Hid (Cur W3 p) := C2.out.next hal3
      have O3 : Hid (Off [p] w W3) := O2.out.trans (Off.of_below hal3)
      have b3 : Hid (Blk W3 w.heap.size #[.int .i64 0, .int .i64 0, .string ⟨#[]⟩, .slice none 0 0] 26) := b2.out.next hal3
      have SP : Hid (Rows W3 (fun g => g ≠ p) 1 HInt (.slice (some ⟨w2.heap.size, 0, none⟩) 7 7) [0, 1, 2, 7, -1, 9223372036854775807, -9223372036854775808]) := by show Rows _ _ _ _ _ _; rw [hW3]; exact intP_newV [0, 1, 2, 7, -1, 9223372036854775807, -9223372036854775808] C2.out (by decide)
      have HW3 : Hid (W3 = w2.alloc (.cells (([0, 1, 2, 7, -1, 9223372036854775807, -9223372036854775808] : List Int).map (Value.int .i64)).toArray 3)) := hW3
      clear hal3 hW3
      go_wp2_with fail
      rw [show (w2.alloc (.cells #[.int .i64 0, .int .i64 1, .int .i64 2, .int .i64 7, .int .i64 (-1), .int .i64 9223372036854775807, .int .i64 (-9223372036854775808)] 3)) = W3 from HW3.out.symm]
      refine (l01PickInt_any p _ [0, 1, 2, 7, -1, 9223372036854775807, -9223372036854775808] _ C3.out (by decide) (by decide) SP.out).mono ?_
      rintro e w4 ⟨sx, hsx, rfl, hc4, ho4⟩
      have C4 : Hid (Cur w4 p) := hc4
      have O4 : Hid (Off [p] w w4) := O3.out.trans ho4
      have b4 : Hid (Blk w4 w.heap.size #[.int .i64 0, .int .i64 0, .string ⟨#[]⟩, .slice none 0 0] 26) := (ho4.block _ b3.out.lt (by simp; have := HP.out; omega)).trans b3.out
      have HSX : Hid (okI sx) := LI.out sx hsx
      clear hc4 ho4 hsx
      have q0 := b4.out.cell 0 _ rfl
      have q1 := b4.out.cell 1 _ rfl
      have q2 := b4.out.cell 2 _ rfl
      have q3 := b4.out.cell 3 _ rfl
      have f0 := b4.out.frozen 0
      have f1 := b4.out.frozen 1
      have f2 := b4.out.frozen 2
      have f3 := b4.out.frozen 3
      go_wp2_with fail
      obtain ⟨d1, d2, d3⟩ := dv_end C4.out O4.out b4.out HP.out (dv_leaf 0 sx ⟨#[]⟩ okI_zero HSX.out (Nat.zero_le _) (by decide))
      exact bodyPost_ret (v := .agg #[.int .i64 0, .int .i64 sx, .string ⟨#[]⟩, .slice none 0 0]) (by simp [results, Tryz.results26, go_sem, q0, q1, q2, q3]) rfl ⟨_, _, _, _, _, _, rfl, d1, d2, d3⟩
  by_cases hk3 : (k : Int) < 3
  · skip
    go_wp2_with fail
    refine (l01Once_any p 3 _ C1.out (by decide) (by decide)).mono ?_
    rintro e w2 ⟨bb, rfl, hc2, ho2⟩
    have C2 : Hid (Cur w2 p) := hc2
    have O2 : Hid (Off [p] w w2) := O1.out.trans ho2
    have b2 : Hid (Blk w2 w.heap.size #[.int .i64 0, .int .i64 0, .string ⟨#[]⟩, .slice none 0 0] 26) := (ho2.block _ b1.out.lt (by simp; have := HP.out; omega)).trans b1.out
    clear hc2 ho2
    cases bb with
    | true =>
      obtain ⟨W3, hW3⟩ : ∃ W3, W3 = w2.alloc (.cells (strs [⟨#[111, 107]⟩, ⟨#[110, 111]⟩, ⟨#[97]⟩]).toArray 9) := ⟨_, rfl⟩
      have hal3 : Below w2.heap.size w2 W3 := by rw [hW3]; exact (Below.refl _ _).alloc (Nat.le_refl _) _
      have C3 : Hid (Cur W3 p) := C2.out.next hal3
      have O3 : Hid (Off [p] w W3) := O2.out.trans (Off.of_below hal3)
      have b3 : Hid (Blk W3 w.heap.size #[.int .i64 0, .int .i64 0, .string ⟨#[]⟩, .slice none 0 0] 26) := b2.out.next hal3
      have SP : Hid (StrP W3 p (.slice (some ⟨w2.heap.size, 0, none⟩) 3 3) [⟨#[111, 107]⟩, ⟨#[110, 111]⟩, ⟨#[97]⟩]) := by show StrP _ _ _ _; rw [hW3]; exact strP_new [⟨#[111, 107]⟩, ⟨#[110, 111]⟩, ⟨#[97]⟩] C2.out (fun x hx => Nat.le_trans (LA.out x hx) (by decide)) (by decide)
      have HW3 : Hid (W3 = w2.alloc (.cells (strs [⟨#[111, 107]⟩, ⟨#[110, 111]⟩, ⟨#[97]⟩]).toArray 9)) := hW3
      clear hal3 hW3
      go_wp2_with fail
      rw [show (w2.alloc (.cells #[.string ⟨#[111, 107]⟩, .string ⟨#[110, 111]⟩, .string ⟨#[97]⟩] 9)) = W3 from HW3.out.symm]
      refine (l01Pick_any p _ [⟨#[111, 107]⟩, ⟨#[110, 111]⟩, ⟨#[97]⟩] _ C3.out (by decide) (by decide) SP.out).mono ?_
      rintro e w4 ⟨sx, hsx, rfl, hc4, ho4⟩
      have C4 : Hid (Cur w4 p) := hc4
      have O4 : Hid (Off [p] w w4) := O3.out.trans ho4
      have b4 : Hid (Blk w4 w.heap.size #[.int .i64 0, .int .i64 0, .string ⟨#[]⟩, .slice none 0 0] 26) := (ho4.block _ b3.out.lt (by simp; have := HP.out; omega)).trans b3.out
      have HSX : Hid (sx.size ≤ 2) := LA.out sx hsx
      clear hc4 ho4 hsx
      have q0 := b4.out.cell 0 _ rfl
      have q1 := b4.out.cell 1 _ rfl
      have q2 := b4.out.cell 2 _ rfl
      have q3 := b4.out.cell 3 _ rfl
      have f0 := b4.out.frozen 0
      have f1 := b4.out.frozen 1
      have f2 := b4.out.frozen 2
      have f3 := b4.out.frozen 3
      go_wp2_with fail
      obtain ⟨d1, d2, d3⟩ := dv_end C4.out O4.out b4.out HP.out (dv_leaf 1 0 sx (by unfold okI; decide) okI_zero HSX.out (by decide))
      exact bodyPost_ret (v := .agg #[.int .i64 1, .int .i64 0, .string sx, .slice none 0 0]) (by simp [results, Tryz.results26, go_sem, q0, q1, q2, q3]) rfl ⟨_, _, _, _, _, _, rfl, d1, d2, d3⟩
    | false =>
      obtain ⟨W3, hW3⟩ : ∃ W3, W3 = w2.alloc (.cells (([0, 1, 2, 7, -1, 9223372036854775807, -9223372036854775808] : List Int).map (Value.int .i64)).toArray 3) := ⟨_, rfl⟩
      have hal3 : Below w2.heap.size w2 W3 := by rw [hW3]; exact (Below.refl _ _).alloc (Nat.le_refl _) _
      have C3 : Hid (Cur W3 p) := C2.out.next hal3
      have O3 : Hid (Off [p] w W3) := O2.out.trans (Off.of_below hal3)
      have b3 : Hid (Blk W3 w.heap.size #[.int .i64 0, .int .i64 0, .string ⟨#[]⟩, .slice none 0 0] 26) := b2.out.next hal3
      have SP : Hid (Rows W3 (fun g => g ≠ p) 1 HInt (.slice (some ⟨w2.heap.size, 0, none⟩) 7 7) [0, 1, 2, 7, -1, 9223372036854775807, -9223372036854775808]) := by show Rows _ _ _ _ _ _; rw [hW3]; exact intP_newV [0, 1, 2, 7, -1, 9223372036854775807, -9223372036854775808] C2.out (by decide)
      have HW3 : Hid (W3 = w2.alloc (.cells (([0, 1, 2, 7, -1, 9223372036854775807, -9223372036854775808] : List Int).map (Value.int .i64)).toArray 3)) := hW3
      clear hal3 hW3
      go_wp2_with fail
      rw [show (w2.alloc (.cells #[.int .i64 0, .int .i64 1, .int .i64 2, .int .i64 7, .int .i64 (-1), .int .i64 9223372036854775807, .int .i64 (-9223372036854775808)] 3)) = W3 from HW3.out.symm]
      refine (l01PickInt_any p _ [0, 1, 2, 7, -1, 9223372036854775807, -9223372036854775808] _ C3.out (by decide) (by decide) SP.out).mono ?_
      rintro e w4 ⟨sx, hsx, rfl, hc4, ho4⟩
      have C4 : Hid (Cur w4 p) := hc4
      have O4 : Hid (Off [p] w w4) := O3.out.trans ho4
      have b4 : Hid (Blk w4 w.heap.size #[.int .i64 0, .int .i64 0, .string ⟨#[]⟩, .slice none 0 0] 26) := (ho4.block _ b3.out.lt (by simp; have := HP.out; omega)).trans b3.out
      have HSX : Hid (okI sx) := LI.out sx hsx
      clear hc4 ho4 hsx
      have q0 := b4.out.cell 0 _ rfl
      have q1 := b4.out.cell 1 _ rfl
      have q2 := b4.out.cell 2 _ rfl
      have q3 := b4.out.cell 3 _ rfl
      have f0 := b4.out.frozen 0
      have f1 := b4.out.frozen 1
      have f2 := b4.out.frozen 2
      have f3 := b4.out.frozen 3
      go_wp2_with fail
      obtain ⟨d1, d2, d3⟩ := dv_end C4.out O4.out b4.out HP.out (dv_leaf 0 sx ⟨#[]⟩ okI_zero HSX.out (Nat.zero_le _) (by decide))
      exact bodyPost_ret (v := .agg #[.int .i64 0, .int .i64 sx, .string ⟨#[]⟩, .slice none 0 0]) (by simp [results, Tryz.results26, go_sem, q0, q1, q2, q3]) rfl ⟨_, _, _, _, _, _, rfl, d1, d2, d3⟩
  obtain ⟨m, rfl⟩ : ∃ m, n = m + 1 := ⟨n - 1, by omega⟩
  by_cases hk3b : (k : Int) = 3
  · skip
    have q0 := b1.out.cell 0 _ rfl
    have q1 := b1.out.cell 1 _ rfl
    have q2 := b1.out.cell 2 _ rfl
    have q3 := b1.out.cell 3 _ rfl
    have f0 := b1.out.frozen 0
    have f1 := b1.out.frozen 1
    have f2 := b1.out.frozen 2
    have f3 := b1.out.frozen 3
    go_wp2_with fail
    obtain ⟨d1, d2, d3⟩ := dv_end C1.out O1.out b1.out HP.out (dv_leaf 3 0 ⟨#[]⟩ (by unfold okI; decide) okI_zero (Nat.zero_le _) (by decide))
    exact bodyPost_ret (v := .agg #[.int .i64 3, .int .i64 0, .string ⟨#[]⟩, .slice none 0 0]) (by simp [results, Tryz.results26, go_sem, q0, q1, q2, q3]) rfl ⟨_, _, _, _, _, _, rfl, d1, d2, d3⟩
  by_cases hk6 : (k : Int) < 6
  · skip
    go_wp2_with fail
    refine (hE m rfl p _ C1.out).mono ?_
    rintro e w2 ⟨sk, sn, st, pk, nk, xa, rfl, hT, hc2, ho2⟩
    have C2 : Hid (Cur w2 p) := hc2
    have O2 : Hid (Off [p] w w2) := O1.out.trans ho2
    have b2 : Hid (Blk w2 w.heap.size #[.int .i64 0, .int .i64 0, .string ⟨#[]⟩, .slice none 0 0] 26) := (ho2.block _ b1.out.lt (by simp; have := HP.out; omega)).trans b1.out
    have HS2 : Hid (w.heap.size + 1 ≤ w2.heap.size) := by have := ho2.size; have := HS1.out; show _ ≤ _; omega
    have TA : Hid (DvT w2 (w.heap.size + 1) m [.int .i64 sk, .int .i64 sn, .string st, .slice pk nk nk] xa) := hT.base HS1.out
    clear hc2 ho2 hT
    obtain ⟨W3, hW3⟩ : ∃ W3, W3 = w2.alloc (.cells #[.int .i64 sk, .int .i64 sn, .string st, .slice pk nk nk] 26) := ⟨_, rfl⟩
    have hal3 : Below w2.heap.size w2 W3 := by rw [hW3]; exact (Below.refl _ _).alloc (Nat.le_refl _) _
    have C3 : Hid (Cur W3 p) := C2.out.next hal3
    have O3 : Hid (Off [p] w W3) := O2.out.trans (Off.of_below hal3)
    have b3 : Hid (Blk W3 w.heap.size #[.int .i64 0, .int .i64 0, .string ⟨#[]⟩, .slice none 0 0] 26) := b2.out.next hal3
    have A3 : Hid (Blk W3 w2.heap.size #[.int .i64 sk, .int .i64 sn, .string st, .slice pk nk nk] 26) := by show Blk _ _ _ _; rw [hW3]; exact Blk.new
    have TA3 : Hid (DvT W3 (w.heap.size + 1) m [.int .i64 sk, .int .i64 sn, .string st, .slice pk nk nk] xa) := TA.out.same (SameOn.of_below hal3)
    have HS3 : Hid (w.heap.size + 1 ≤ W3.heap.size) := Nat.le_trans HS2.out hal3.size
    have HW3 : Hid (W3 = w2.alloc (.cells #[.int .i64 sk, .int .i64 sn, .string st, .slice pk nk nk] 26)) := hW3
    have HA : Hid (w2.heap.size ∉ [p]) := by show ¬ _; simp; have := HP.out; have := HS2.out; omega
    have HN : Hid (w.heap.size ∉ [p]) := by show ¬ _; simp; have := HP.out; omega
    clear hal3 hW3
    go_wp2_with fail
    rw [show (w2.alloc (.cells #[.int .i64 sk, .int .i64 sn, .string st, .slice pk nk nk] 26)) = W3 from HW3.out.symm]
    have z0 := A3.out.cell 0 _ rfl
    have z1 := A3.out.cell 1 _ rfl
    have z2 := A3.out.cell 2 _ rfl
    have z3 := A3.out.cell 3 _ rfl
    have hwr : IntKind.i64.wrap (m : Int) = (m : Int) := by rw [IntKind.wrap_i64]; omega
    go_region_law
      (first
        | (go_simp; go_at_call 26; refine (hE m rfl p W3.drew (cur_heapV C3.out rfl)).mono ?_; rintro e w5 ⟨sk2, sn2, st2, pk2, nk2, xb, rfl, hT5, hc5, ho5⟩; have o5 : Hid (Off [p] W3 w5) := (Off.of_below (below_drewN (Below.refl _ _) 1)).trans ho5; have C5 : Hid (Cur w5 p) := hc5; have TB5 : Hid (DvT w5 (w.heap.size + 1) m [.int .i64 sk2, .int .i64 sn2, .string st2, .slice pk2 nk2 nk2] xb) := hT5.base HS3.out; have TA5 : Hid (DvT w5 (w.heap.size + 1) m [.int .i64 sk, .int .i64 sn, .string st, .slice pk nk nk] xa) := TA3.out.off o5.out (Nat.lt_succ_of_lt HP.out); have A5 : Hid (Blk w5 w2.heap.size #[.int .i64 sk, .int .i64 sn, .string st, .slice pk nk nk] 26) := (o5.out.block _ A3.out.lt HA.out).trans A3.out; have x0 := A5.out.cell 0 _ rfl; have x1 := A5.out.cell 1 _ rfl; have x2 := A5.out.cell 2 _ rfl; have x3 := A5.out.cell 3 _ rfl; have B6 : Hid (Blk (w5.alloc (.cells #[.int .i64 sk, .int .i64 sn, .string st, .slice pk nk nk, .int .i64 sk2, .int .i64 sn2, .string st2, .slice pk2 nk2 nk2] 26)) w.heap.size #[.int .i64 0, .int .i64 0, .string ⟨#[]⟩, .slice none 0 0] 26) := Blk.next (w := w5) (show Blk w5 w.heap.size #[.int .i64 0, .int .i64 0, .string ⟨#[]⟩, .slice none 0 0] 26 from (o5.out.block _ b3.out.lt HN.out).trans b3.out) ((Below.refl _ _).alloc (Nat.le_refl _) _); have q0 := B6.out.cell 0 _ rfl; have q1 := B6.out.cell 1 _ rfl; have q2 := B6.out.cell 2 _ rfl; have q3 := B6.out.cell 3 _ rfl; have f0 := B6.out.frozen 0; have f1 := B6.out.frozen 1; have f2 := B6.out.frozen 2; have f3 := B6.out.frozen 3; clear hT5 hc5 ho5; dsimp only))
    all_goals
      go_wp2_with fail
      obtain ⟨d1, d2, d3⟩ := dv_end (C5.out.alloc _) ((O3.out.trans o5.out).trans (Off.of_below ((Below.refl _ _).alloc (Nat.le_refl _) _))) B6.out HP.out (dv_two (k := 4) (by unfold okI; decide) (by decide) TA5.out TB5.out rfl rfl (Nat.le_trans HS3.out o5.out.size))
      exact bodyPost_ret (v := .agg #[.int .i64 4, .int .i64 0, .string ⟨#[]⟩, .slice (some ⟨w5.heap.size, 0, none⟩) 2 2]) (by simp [results, Tryz.results26, go_sem, q0, q1, q2, q3]) rfl ⟨_, _, _, _, _, _, rfl, d1, d2, d3⟩
  · skip
    go_wp2_with fail
    refine (hE m rfl p _ C1.out).mono ?_
    rintro e w2 ⟨sk, sn, st, pk, nk, xa, rfl, hT, hc2, ho2⟩
    have C2 : Hid (Cur w2 p) := hc2
    have O2 : Hid (Off [p] w w2) := O1.out.trans ho2
    have b2 : Hid (Blk w2 w.heap.size #[.int .i64 0, .int .i64 0, .string ⟨#[]⟩, .slice none 0 0] 26) := (ho2.block _ b1.out.lt (by simp; have := HP.out; omega)).trans b1.out
    have HS2 : Hid (w.heap.size + 1 ≤ w2.heap.size) := by have := ho2.size; have := HS1.out; show _ ≤ _; omega
    have TA : Hid (DvT w2 (w.heap.size + 1) m [.int .i64 sk, .int .i64 sn, .string st, .slice pk nk nk] xa) := hT.base HS1.out
    clear hc2 ho2 hT
    obtain ⟨W3, hW3⟩ : ∃ W3, W3 = w2.alloc (.cells #[.int .i64 sk, .int .i64 sn, .string st, .slice pk nk nk] 26) := ⟨_, rfl⟩
    have hal3 : Below w2.heap.size w2 W3 := by rw [hW3]; exact (Below.refl _ _).alloc (Nat.le_refl _) _
    have C3 : Hid (Cur W3 p) := C2.out.next hal3
    have O3 : Hid (Off [p] w W3) := O2.out.trans (Off.of_below hal3)
    have b3 : Hid (Blk W3 w.heap.size #[.int .i64 0, .int .i64 0, .string ⟨#[]⟩, .slice none 0 0] 26) := b2.out.next hal3
    have A3 : Hid (Blk W3 w2.heap.size #[.int .i64 sk, .int .i64 sn, .string st, .slice pk nk nk] 26) := by show Blk _ _ _ _; rw [hW3]; exact Blk.new
    have TA3 : Hid (DvT W3 (w.heap.size + 1) m [.int .i64 sk, .int .i64 sn, .string st, .slice pk nk nk] xa) := TA.out.same (SameOn.of_below hal3)
    have HS3 : Hid (w.heap.size + 1 ≤ W3.heap.size) := Nat.le_trans HS2.out hal3.size
    have HW3 : Hid (W3 = w2.alloc (.cells #[.int .i64 sk, .int .i64 sn, .string st, .slice pk nk nk] 26)) := hW3
    have HA : Hid (w2.heap.size ∉ [p]) := by show ¬ _; simp; have := HP.out; have := HS2.out; omega
    have HN : Hid (w.heap.size ∉ [p]) := by show ¬ _; simp; have := HP.out; omega
    clear hal3 hW3
    go_wp2_with fail
    rw [show (w2.alloc (.cells #[.int .i64 sk, .int .i64 sn, .string st, .slice pk nk nk] 26)) = W3 from HW3.out.symm]
    have z0 := A3.out.cell 0 _ rfl
    have z1 := A3.out.cell 1 _ rfl
    have z2 := A3.out.cell 2 _ rfl
    have z3 := A3.out.cell 3 _ rfl
    have hwr : IntKind.i64.wrap (m : Int) = (m : Int) := by rw [IntKind.wrap_i64]; omega
    go_region_law
      (first
        | (go_simp; go_at_call 26; refine (hE m rfl p W3.drew (cur_heapV C3.out rfl)).mono ?_; rintro e w5 ⟨sk2, sn2, st2, pk2, nk2, xb, rfl, hT5, hc5, ho5⟩; have o5 : Hid (Off [p] W3 w5) := (Off.of_below (below_drewN (Below.refl _ _) 1)).trans ho5; have C5 : Hid (Cur w5 p) := hc5; have TB5 : Hid (DvT w5 (w.heap.size + 1) m [.int .i64 sk2, .int .i64 sn2, .string st2, .slice pk2 nk2 nk2] xb) := hT5.base HS3.out; have TA5 : Hid (DvT w5 (w.heap.size + 1) m [.int .i64 sk, .int .i64 sn, .string st, .slice pk nk nk] xa) := TA3.out.off o5.out (Nat.lt_succ_of_lt HP.out); have A5 : Hid (Blk w5 w2.heap.size #[.int .i64 sk, .int .i64 sn, .string st, .slice pk nk nk] 26) := (o5.out.block _ A3.out.lt HA.out).trans A3.out; have x0 := A5.out.cell 0 _ rfl; have x1 := A5.out.cell 1 _ rfl; have x2 := A5.out.cell 2 _ rfl; have x3 := A5.out.cell 3 _ rfl; have B6 : Hid (Blk (w5.alloc (.cells #[.int .i64 sk, .int .i64 sn, .string st, .slice pk nk nk, .int .i64 sk2, .int .i64 sn2, .string st2, .slice pk2 nk2 nk2] 26)) w.heap.size #[.int .i64 0, .int .i64 0, .string ⟨#[]⟩, .slice none 0 0] 26) := Blk.next (w := w5) (show Blk w5 w.heap.size #[.int .i64 0, .int .i64 0, .string ⟨#[]⟩, .slice none 0 0] 26 from (o5.out.block _ b3.out.lt HN.out).trans b3.out) ((Below.refl _ _).alloc (Nat.le_refl _) _); have q0 := B6.out.cell 0 _ rfl; have q1 := B6.out.cell 1 _ rfl; have q2 := B6.out.cell 2 _ rfl; have q3 := B6.out.cell 3 _ rfl; have f0 := B6.out.frozen 0; have f1 := B6.out.frozen 1; have f2 := B6.out.frozen 2; have f3 := B6.out.frozen 3; clear hT5 hc5 ho5; dsimp only))
    all_goals
      go_wp2_with fail
      obtain ⟨d1, d2, d3⟩ := dv_end (C5.out.alloc _) ((O3.out.trans o5.out).trans (Off.of_below ((Below.refl _ _).alloc (Nat.le_refl _) _))) B6.out HP.out (dv_two (k := 2) (by unfold okI; decide) (by decide) TA5.out TB5.out rfl rfl (Nat.le_trans HS3.out o5.out.size))
      exact bodyPost_ret (v := .agg #[.int .i64 2, .int .i64 0, .string ⟨#[]⟩, .slice (some ⟨w5.heap.size, 0, none⟩) 2 2]) (by simp [results, Tryz.results26, go_sem, q0, q1, q2, q3]) rfl ⟨_, _, _, _, _, _, rfl, d1, d2, d3⟩
theorem l03Val_all (n : Nat) (hn : n ≤ 10) : DvC n := by
  induction n with
  | zero => exact l03Val_of hn (fun m e => by omega)
  | succ m ih => exact l03Val_of hn (fun m' e => (Nat.succ.inj e) ▸ ih (by omega))
end Go.Proofs.YtmnghlkkfkpjhaaGreatDoor
/-
  The specification's l03Kids, by contract, over l03Match.
-/
namespace Go.Proofs.YtmnghlkkfkpjhaaGreatDoor
open Go.ChangeShapes Go.WideShapes Go.ChangeAt Go.RowKit
set_option linter.unusedVariables false
set_option maxRecDepth 100000

def MatchC (d k : Nat) : Prop := ∀ (w : World) (pcs : List Value) (p : Ex) (vcs : List Value) (v : Va) (ev : Value) (env : List Bd), HEx w All k pcs p → HVa w All d vcs v → Rows w All 5 (HBd w All d) ev env → env.length + ndE k p ≤ 1048576 →
    Calls Tryz.prog 38 #[.agg pcs.toArray, .agg vcs.toArray, ev] w fun e w' => Told (matchM d k p v env) d e w' ∧ Below w.heap.size w w'
def KidsC (d k : Nat) : Prop := ∀ (w : World) (pv : Value) (ps : List Ex) (lv : Value) (vs : List Va) (ev : Value) (env : List Bd), Rows w All 6 (HEx w All k) pv ps → Rows w All 4 (HVa w All d) lv vs → Rows w All 5 (HBd w All d) ev env → env.length + (ps.map (ndE k)).sum ≤ 1048576 →
    Calls Tryz.prog 64 #[pv, lv, ev] w fun e w' => Told (kidsL (matchM d k) ps vs env) d e w' ∧ Below w.heap.size w w'

set_option maxHeartbeats 8000000 in
theorem l03Kids_of {d k : Nat} (hM : MatchC d k) : KidsC d k := by
  intro w pv ps lv vs ev env hp hv he hl
  have HE0 : Hid (Rows w All 5 (HBd w All d) ev env) := he
  obtain ⟨pp, pc, rfl, hpl, hpm, hpx⟩ := hp
  obtain ⟨pl, lc, rfl, hll, hlm, hlx⟩ := hv
  obtain ⟨pe, ec, rfl, hel, hem, hex⟩ := he
  have HP : Hid (ps ≠ [] → ∃ g off, pp = some ⟨g, off, none⟩ ∧ All g ∧ g < w.heap.size ∧ ∀ i x, ps[i]? = some x → ∃ cs, cs.length = 6 ∧ (∀ j, j < 6 → w.cell? ⟨g, off + i * 6 + j, none⟩ = cs[j]?) ∧ HEx w All k cs x) := hpx
  have HV : Hid (vs ≠ [] → ∃ g off, pl = some ⟨g, off, none⟩ ∧ All g ∧ g < w.heap.size ∧ ∀ i x, vs[i]? = some x → ∃ cs, cs.length = 4 ∧ (∀ j, j < 4 → w.cell? ⟨g, off + i * 4 + j, none⟩ = cs[j]?) ∧ HVa w All d cs x) := hlx
  have hnb1 : ps.length ≤ 9223372036854775807 := by unfold maxLen at hpm; omega
  have hnb2 : vs.length ≤ 9223372036854775807 := by unfold maxLen at hlm; omega
  have HL : Hid (env.length + (ps.map (ndE k)).sum ≤ 1048576) := hl
  have HK : Hid (kidsL (matchM d k) ps vs env = if ps.length = vs.length then kidsM (matchM d k) ps vs env else none) := rfl
  generalize hn : ps.length = n at *
  have HN : Hid (ps.length = n) := hn
  generalize hm : vs.length = m at *
  have HMM : Hid (vs.length = m) := hm
  clear hpx hlx hex hn hm hl
  by_cases hnm : n = m
  case neg =>
    have HS : Hid (kidsL (matchM d k) ps vs env = none) := by show _ = _; rw [HK.out, if_neg hnm]
    go_enter Tryz.func64, Tryz.ntmps64
    go_wp2_with fail
    refine bodyPost_ret (v := .tuple #[.slice pe env.length ec, .bool false]) (by simp [results, Tryz.results64, go_sem]) rfl ⟨?_, Below.refl _ _⟩
    rw [HS.out]
    exact ⟨_, rfl⟩
  subst hnm
  have HS : Hid (kidsL (matchM d k) ps vs env = kidsM (matchM d k) ps vs env) := by show _ = _; rw [HK.out, if_pos rfl]
  clear HK
  go_enter Tryz.func64, Tryz.ntmps64
  go_wp2_with fail
  go_loopw [2, 8] (fun ov iv wr => ∃ (i : Nat) (cur : List Bd), i ≤ n ∧ iv = .int .i64 i ∧ Hid (kidsM (matchM d k) ps vs env = kidsM (matchM d k) (ps.drop i) (vs.drop i) cur) ∧ Hid (Rows wr All 5 (HBd wr All d) ov cur) ∧ Hid (cur.length + ((ps.drop i).map (ndE k)).sum ≤ 1048576) ∧ Hid (Below w.heap.size w wr)) (fun _ iv _ => n - (intOf iv).toNat)
  case atStart => exact ⟨0, env, Nat.zero_le _, rfl, by show _ = _; simp, HE0, by show _ ≤ _; simpa using HL.out, Below.refl _ _⟩
  case round =>
    obtain ⟨i, cur, hi, rfl, hsame, HR, hcl, hb⟩ := hrel
    by_cases hlt : i < n
    · obtain ⟨x, hxk⟩ : ∃ x, ps[i]? = some x := ⟨ps[i]'(by rw [HN.out]; exact hlt), List.getElem?_eq_getElem _⟩
      obtain ⟨g, off, rfl, _, hgl, hat⟩ := HP.out (by intro h; rw [h] at hxk; simp at hxk)
      obtain ⟨cs, hcl6, hcs, r1⟩ := hat i x hxk
      have E1 : Hid (∀ w', Below w.heap.size w w' → HEx w' All k cs x) := fun w' hw => r1.mono (SameOn.of_below hw) (fun _ h => h)
      obtain ⟨y, hyk⟩ : ∃ y, vs[i]? = some y := ⟨vs[i]'(by rw [HMM.out]; exact hlt), List.getElem?_eq_getElem _⟩
      obtain ⟨g', off', rfl, _, hgl', hat'⟩ := HV.out (by intro h; rw [h] at hyk; simp at hyk)
      obtain ⟨cs', hcl6', hcs', r2⟩ := hat' i y hyk
      have E2 : Hid (∀ w', Below w.heap.size w w' → HVa w' All d cs' y) := fun w' hw => r2.mono (SameOn.of_below hw) (fun _ h => h)
      obtain ⟨c0, c1, c2, c3, c4, c5, rfl⟩ := len6 hcl6
      obtain ⟨d0, d1, d2, d3, rfl⟩ := len4 hcl6'
      have a0 := hcs 0 (by omega)
      have a1 := hcs 1 (by omega)
      have a2 := hcs 2 (by omega)
      have a3 := hcs 3 (by omega)
      have a4 := hcs 4 (by omega)
      have a5 := hcs 5 (by omega)
      have b0 := hcs' 0 (by omega)
      have b1 := hcs' 1 (by omega)
      have b2 := hcs' 2 (by omega)
      have b3 := hcs' 3 (by omega)
      rw [← hb.out.cell (p := ⟨g, _, none⟩) hgl] at a0 a1 a2 a3 a4 a5
      rw [← hb.out.cell (p := ⟨g', _, none⟩) hgl'] at b0 b1 b2 b3
      simp at a0 a1 a2 a3 a4 a5 b0 b1 b2 b3
      have hki : (i : Int) < (n : Int) := by omega
      have hk0 : (0 : Int) ≤ (i : Int) := by omega
      have HST := kidsM_step (f := matchM d k) hxk hyk cur
      have hsum : ((ps.drop i).map (ndE k)).sum = ndE k x + ((ps.drop (i + 1)).map (ndE k)).sum := by
        obtain ⟨h1, rfl⟩ := List.getElem?_eq_some_iff.1 hxk
        rw [List.drop_eq_getElem_cons h1, List.map_cons, List.sum_cons]
      have hlx : cur.length + ndE k x ≤ 1048576 := by have := hcl.out; omega
      have HLX : Hid (cur.length + ndE k x + ((ps.drop (i + 1)).map (ndE k)).sum ≤ 1048576) := by have := hcl.out; show _ ≤ _; omega
      clear hcs hat hcl6 hcs' hat' hcl6' r1 r2 hsum
      have RR : Hid (∀ w', Below wr.heap.size wr w' → Rows w' All 5 (HBd w' All d) u2 cur) := fun w' hw => HR.out.mono (SameOn.of_below hw) (fun _ h => h) (fun _ _ _ h => h.mono (SameOn.of_below hw) (fun _ h => h))
      cases hmx : matchM d k x y cur with
      | none =>
        have HMX : Hid (matchM d k x y cur = none) := hmx
        have HE : Hid (kidsL (matchM d k) ps vs env = none) := by show _ = _; rw [HS.out, hsame.out, HST, hmx]
        clear hmx HST
        go_wp2_with fail
        go_region_law
          (first | (go_simp; go_at_call 38; refine (hM _ _ x _ y _ cur (E1.out _ hb.out.drew) (E2.out _ hb.out.drew) (RR.out _ ((Below.refl _ _).drew)) hlx).mono ?_; rintro e w1 ⟨ht, hb1⟩; rw [HMX.out] at ht; obtain ⟨ev', rfl⟩ := ht; have K1 : Hid (Below w.heap.size w w1) := hb.out.drew.trans (hb1.mono hb.out.size); clear hb1; dsimp only))
        all_goals
          go_wp2_with fail
          refine bodyPost_ret (v := .tuple #[u2, .bool false]) (by simp [results, Tryz.results64, go_sem]) rfl ⟨?_, K1.out⟩
          rw [HE.out]
          exact ⟨_, rfl⟩
      | some out =>
        have HMX : Hid (matchM d k x y cur = some out) := hmx
        have HE : Hid (kidsM (matchM d k) ps vs env = kidsM (matchM d k) (ps.drop (i + 1)) (vs.drop (i + 1)) out) := by show _ = _; rw [hsame.out, HST, hmx]
        have HLN : Hid (out.length + ((ps.drop (i + 1)).map (ndE k)).sum ≤ 1048576) := by
          have h1 := matchM_len d k x y cur out hmx
          have h2 := HLX.out
          show _ ≤ _
          omega
        clear hmx HST
        go_wp2_with fail
        go_region_law
          (first | (go_simp; go_at_call 38; refine (hM _ _ x _ y _ cur (E1.out _ hb.out.drew) (E2.out _ hb.out.drew) (RR.out _ ((Below.refl _ _).drew)) hlx).mono ?_; rintro e w1 ⟨ht, hb1⟩; rw [HMX.out] at ht; obtain ⟨ev', rfl, hrows⟩ := ht; have HR1 : Hid (Rows w1 All 5 (HBd w1 All d) ev' out) := hrows; clear hrows; have K1 : Hid (Below w.heap.size w w1) := hb.out.drew.trans (hb1.mono hb.out.size); clear hb1; dsimp only))
        all_goals
          go_wp2_with fail
          exact ⟨⟨i + 1, out, by omega, by go_num, HE, HR1, HLN, K1⟩, by simp [intOf]; omega⟩
    · have HE : Hid (kidsL (matchM d k) ps vs env = some cur) := by show _ = _; rw [HS.out, hsame.out]; exact kidsM_end (by rw [HN.out]; omega) (by rw [HMM.out]; omega) cur
      go_wp2_with fail
      refine bodyPost_ret (v := .tuple #[u2, .bool true]) (by simp [results, Tryz.results64, go_sem]) rfl ⟨?_, hb.out⟩
      rw [HE.out]
      exact ⟨_, rfl, HR.out⟩
end Go.Proofs.YtmnghlkkfkpjhaaGreatDoor
