/-
  Texts of the proof, packed: DrawP.
-/
import Derived.Test.YtmnghlkkfkpjhaaGreatDoorPackG
import Derived.Test.YtmnghlkkfkpjhaaGreatDoorPackI
/-
  The specification's l03Pat: a pattern, drawn.
-/
namespace Go.Proofs.YtmnghlkkfkpjhaaGreatDoor
open Go.ChangeShapes Go.WideShapes Go.ChangeAt Go.RowKit
set_option linter.unusedVariables false
set_option maxRecDepth 100000

theorem HCl.kept {w w' : World} {S : Nat → Prop} {R R' : List Value → Ex → Prop} {cs : List Value} {c : Cl} (h : HCl w S R cs c) (hk : ∀ g, S g → w'.heap[g]? = w.heap[g]?) (hR : ∀ cs x, R cs x → R' cs x) : HCl w' S R' cs c := by
  obtain ⟨p, b, rfl, h1, h2⟩ := h
  exact ⟨p, b, rfl, h1.kept hk (fun cs x _ => hR cs x), h2.kept hk (fun cs x _ => hR cs x)⟩
theorem HEx.kept {w w' : World} {S : Nat → Prop} (hk : ∀ g, S g → w'.heap[g]? = w.heap[g]?) : ∀ {d : Nat} {cs : List Value} {x : Ex}, HEx w S d cs x → HEx w' S d cs x
  | 0, _, _, h => h.elim
  | d + 1, cs, x, h => by
    obtain ⟨kv, cv, rfl, h1, h2, h3, h4, hr, hc⟩ := h
    exact ⟨kv, cv, rfl, h1, h2, h3, h4, hr.kept hk (fun _ _ _ h => HEx.kept hk h), hc.kept hk (fun _ _ _ h => h.kept hk (fun _ _ h => HEx.kept hk h))⟩
/-- A pattern that lies in the blocks fp. -/
def OEr (d : Nat) (w : World) (cs : List Value) (x : Ex) (fp : List Nat) : Prop := HEx w (fun g => g ∈ fp) d cs x
theorem OEr.keeps (d : Nat) : KeepsC (OEr d) := fun w w' cs b fp h hk => HEx.kept hk h
theorem OEr.rows {d : Nat} {w : World} {B C : Nat} {v : Value} {xs : List Ex} (h : GrowO 33 6 (OEr d) w B C v xs) : Rows w (fun g => B ≤ g) 6 (HEx w (fun g => B ≤ g) d) v xs := by
  obtain ⟨fp, h1, h2, h3, h4, h5⟩ := h.done
  exact h1.rows (fun a ha => (h3 a ha).1) (fun cs x f hf hs hx => HEx.mono ⟨Nat.le_refl _, fun _ _ _ => rfl⟩ (fun g hg => (h3 g (hs g hg)).1) hx)
theorem info_expD : (Tryz.prog.info? 33).map (fun i => (i.zero, i.size, i.bytes)) = some (some (.agg #[.int .i64 0, .int .i64 0, .string ⟨#[]⟩, .string ⟨#[]⟩, .slice none 0 0, .slice none 0 0]), 6, 96) := by kernel_rfl
theorem exp_oneD {sk sn : Int} {st se : ByteArray} {p1 p2 : Option Addr} {n1 q1 n2 q2 : Nat} : ∀ u ∈ [Value.int .i64 sk, .int .i64 sn, .string st, .string se, .slice p1 n1 q1, .slice p2 n2 q2], u.oneCell' = true := by
  intro u hu
  simp at hu
  rcases hu with rfl | rfl | rfl | rfl | rfl | rfl <;> rfl

theorem Rows.lowE {α : Type} {w : World} {S : Nat → Prop} {c : Nat} {R R' : List Value → α → Prop} {v : Value} {xs : List α} (h : Rows w S c R v xs) (hR : ∀ cs x, x ∈ xs → R cs x → R' cs x) : Rows w (fun g => S g ∧ g < w.heap.size) c R' v xs := by
  obtain ⟨p, cap, hv, h1, h2, hx⟩ := h
  refine ⟨p, cap, hv, h1, h2, fun hne => ?_⟩
  obtain ⟨g, off, hp, hS, hl, hat⟩ := hx hne
  refine ⟨g, off, hp, ⟨hS, hl⟩, hl, fun i x hi => ?_⟩
  obtain ⟨cs, hc, hcs, hr⟩ := hat i x hi
  exact ⟨cs, hc, hcs, hR cs x (List.mem_of_getElem? hi) hr⟩
theorem HCl.lowT {w : World} {S : Nat → Prop} {R R' : List Value → Ex → Prop} {cs : List Value} {c : Cl} (h : HCl w S R cs c) (hR : ∀ cs x, R cs x → R' cs x) : HCl w (fun g => S g ∧ g < w.heap.size) R' cs c := by
  obtain ⟨p, b, rfl, h1, h2⟩ := h
  exact ⟨p, b, rfl, h1.lowE (fun cs x _ => hR cs x), h2.lowE (fun cs x _ => hR cs x)⟩
theorem HEx.lowT {w : World} {S : Nat → Prop} : ∀ {d : Nat} {cs : List Value} {x : Ex}, HEx w S d cs x → HEx w (fun g => S g ∧ g < w.heap.size) d cs x
  | 0, _, _, h => h.elim
  | d + 1, cs, x, h => by
    obtain ⟨kv, cv, rfl, h1, h2, h3, h4, hr, hc⟩ := h
    exact ⟨kv, cv, rfl, h1, h2, h3, h4, hr.lowE (fun _ _ _ h => HEx.lowT h), hc.lowE (fun _ _ _ h => h.lowT (fun _ _ h => HEx.lowT h))⟩
/-- A drawn pattern, in new memory. -/
def PtT (w : World) (B n : Nat) (cs : List Value) (x : Ex) : Prop := HEx w (fun g => B ≤ g) (n + 1) cs x ∧ ndE (n + 1) x + 1 ≤ 2 ^ (n + 1)
def PatC (n : Nat) : Prop := ∀ (p : Nat) (w : World) (cs : List Value) (x : Va), Cur w p → HVa w (fun g => g ≠ p) (n + 1) cs x → kdV (n + 1) x →
  Calls Tryz.prog 33 #[.pointer (some ⟨p, 0, none⟩), .agg cs.toArray] w fun e w' =>
    ∃ k m t s p1 n1 q1 y, e = .returned (.agg #[.int .i64 k, .int .i64 m, .string t, .string s, .slice p1 n1 q1, .slice none 0 0]) ∧ PtT w' w.heap.size n [.int .i64 k, .int .i64 m, .string t, .string s, .slice p1 n1 q1, .slice none 0 0] y ∧ Cur w' p ∧ Off [p] w w'

theorem PtT.same {w w' : World} {B n : Nat} {cs : List Value} {x : Ex} (h : PtT w B n cs x) (hs : SameOn (fun g => B ≤ g) w w') : PtT w' B n cs x := ⟨HEx.mono hs (fun _ h => h) h.1, h.2⟩
theorem PtT.base {w : World} {B B' n : Nat} {cs : List Value} {x : Ex} (h : PtT w B n cs x) (hB : B' ≤ B) : PtT w B' n cs x := ⟨HEx.mono ⟨Nat.le_refl _, fun _ _ _ => rfl⟩ (fun g hg => Nat.le_trans hB hg) h.1, h.2⟩
theorem pt_leaf {w : World} {B n : Nat} (k m : Int) (t : ByteArray) (hk : okI k) (hm : okI m) (ht : t.size ≤ 2) : PtT w B n [.int .i64 k, .int .i64 m, .string t, .string ⟨#[]⟩, .slice none 0 0, .slice none 0 0] (.mk k m t ⟨#[]⟩ [] []) := by
  refine ⟨⟨_, _, rfl, hk, hm, Nat.le_trans ht (by unfold maxLen; omega), Nat.zero_le _, Rows.nil (Nat.zero_le _), Rows.nil (Nat.zero_le _)⟩, ?_⟩
  have := pow_ge n
  show 1 + 0 + 1 ≤ 2 ^ (n + 1)
  rw [Nat.pow_succ]
  omega
theorem pt_end {w wc : World} {p n : Nat} {k m : Int} {t s : ByteArray} {p1 : Option Addr} {n1 q1 : Nat} {y : Ex} (C : Cur wc p) (O : Off [p] w wc) (hp : p < w.heap.size) (T : PtT wc (w.heap.size + 2) n [.int .i64 k, .int .i64 m, .string t, .string s, .slice p1 n1 q1, .slice none 0 0] y) :
    PtT ((((((wc.setCell ⟨(w.heap.size + 1), 0, none⟩ (.int .i64 k)).setCell ⟨(w.heap.size + 1), 1, none⟩ (.int .i64 m)).setCell ⟨(w.heap.size + 1), 2, none⟩ (.string t)).setCell ⟨(w.heap.size + 1), 3, none⟩ (.string s)).setCell ⟨(w.heap.size + 1), 4, none⟩ (.slice p1 n1 q1)).setCell ⟨(w.heap.size + 1), 5, none⟩ (.slice none 0 0)) w.heap.size n [.int .i64 k, .int .i64 m, .string t, .string s, .slice p1 n1 q1, .slice none 0 0] y ∧ Cur ((((((wc.setCell ⟨(w.heap.size + 1), 0, none⟩ (.int .i64 k)).setCell ⟨(w.heap.size + 1), 1, none⟩ (.int .i64 m)).setCell ⟨(w.heap.size + 1), 2, none⟩ (.string t)).setCell ⟨(w.heap.size + 1), 3, none⟩ (.string s)).setCell ⟨(w.heap.size + 1), 4, none⟩ (.slice p1 n1 q1)).setCell ⟨(w.heap.size + 1), 5, none⟩ (.slice none 0 0)) p ∧ Off [p] w ((((((wc.setCell ⟨(w.heap.size + 1), 0, none⟩ (.int .i64 k)).setCell ⟨(w.heap.size + 1), 1, none⟩ (.int .i64 m)).setCell ⟨(w.heap.size + 1), 2, none⟩ (.string t)).setCell ⟨(w.heap.size + 1), 3, none⟩ (.string s)).setCell ⟨(w.heap.size + 1), 4, none⟩ (.slice p1 n1 q1)).setCell ⟨(w.heap.size + 1), 5, none⟩ (.slice none 0 0)) := by
  have h0 : w.heap.size + 1 ≤ w.heap.size + 1 := Nat.le_refl _
  have hb : Below (w.heap.size + 1) wc ((((((wc.setCell ⟨(w.heap.size + 1), 0, none⟩ (.int .i64 k)).setCell ⟨(w.heap.size + 1), 1, none⟩ (.int .i64 m)).setCell ⟨(w.heap.size + 1), 2, none⟩ (.string t)).setCell ⟨(w.heap.size + 1), 3, none⟩ (.string s)).setCell ⟨(w.heap.size + 1), 4, none⟩ (.slice p1 n1 q1)).setCell ⟨(w.heap.size + 1), 5, none⟩ (.slice none 0 0)) := ((((((Below.refl _ wc).setCell h0 _).setCell h0 _).setCell h0 _).setCell h0 _).setCell h0 _).setCell h0 _
  refine ⟨PtT.base (PtT.same T ?_) (by omega), C.low (hb.mono (by omega)), ⟨hb.os.trans O.os, hb.tape.trans O.tape, hb.output.trans O.output, Nat.le_trans O.size hb.size, fun j hj hn => (hb.block j (by omega)).trans (O.block j hj hn)⟩⟩
  exact SameOn.setCell (SameOn.setCell (SameOn.setCell (SameOn.setCell (SameOn.setCell (SameOn.setCell (SameOn.of_below (Below.refl _ _)) (by show ¬ (_ ≤ w.heap.size + 1); omega) _) (by show ¬ (_ ≤ w.heap.size + 1); omega) _) (by show ¬ (_ ≤ w.heap.size + 1); omega) _) (by show ¬ (_ ≤ w.heap.size + 1); omega) _) (by show ¬ (_ ≤ w.heap.size + 1); omega) _) (by show ¬ (_ ≤ w.heap.size + 1); omega) _

theorem cell_dD {w : World} {b j : Nat} {v : Value} (h : w.cell? ⟨b, j, none⟩ = some v) : w.drew.cell? ⟨b, j, none⟩ = some v := h
theorem cell_daD {w : World} {b j : Nat} {v : Value} {o : Obj} (h : w.cell? ⟨b, j, none⟩ = some v) (hl : b < w.heap.size) : (w.drew.alloc o).cell? ⟨b, j, none⟩ = some v := (Below.cell (p := ⟨b, j, none⟩) ((Below.refl _ w.drew).alloc (Nat.le_refl _) o) hl).trans h
theorem cell_daaD {w : World} {b j : Nat} {v : Value} {o o' : Obj} (h : w.cell? ⟨b, j, none⟩ = some v) (hl : b < w.heap.size) : ((w.drew.alloc o).alloc o').cell? ⟨b, j, none⟩ = some v := (Below.cell (p := ⟨b, j, none⟩) (((Below.refl w.drew.heap.size w.drew).alloc (Nat.le_refl _) o).alloc (by rw [alloc_hs]; omega) o') hl).trans h
theorem cell_adD {w : World} {b j : Nat} {v : Value} {o : Obj} (h : w.cell? ⟨b, j, none⟩ = some v) (hl : b < w.heap.size) : (w.alloc o).drew.cell? ⟨b, j, none⟩ = some v := (Below.cell (p := ⟨b, j, none⟩) ((Below.refl _ w).alloc (Nat.le_refl _) o) hl).trans h
theorem cell_aadD {w : World} {b j : Nat} {v : Value} {o o' : Obj} (h : w.cell? ⟨b, j, none⟩ = some v) (hl : b < w.heap.size) : ((w.alloc o).alloc o').drew.cell? ⟨b, j, none⟩ = some v := (Below.cell (p := ⟨b, j, none⟩) (((Below.refl w.heap.size w).alloc (Nat.le_refl _) o).alloc (by rw [alloc_hs]; omega) o') hl).trans h
theorem cell_set6D {w : World} {b b' j : Nat} {v c0 c1 c2 c3 c4 c5 : Value} (h : w.cell? ⟨b', j, none⟩ = some v) (hn : b' ≠ b) : ((((((w.setCell ⟨b, 0, none⟩ (c0)).setCell ⟨b, 1, none⟩ (c1)).setCell ⟨b, 2, none⟩ (c2)).setCell ⟨b, 3, none⟩ (c3)).setCell ⟨b, 4, none⟩ (c4)).setCell ⟨b, 5, none⟩ (c5)).cell? ⟨b', j, none⟩ = some v :=
  (World.cell?_of_block ((Below.heap_setCell _ _ _ _ hn).trans ((Below.heap_setCell _ _ _ _ hn).trans ((Below.heap_setCell _ _ _ _ hn).trans ((Below.heap_setCell _ _ _ _ hn).trans ((Below.heap_setCell _ _ _ _ hn).trans (Below.heap_setCell _ _ _ _ hn))))))).trans h
theorem blk_set6D {w : World} {b : Nat} {c0 c1 c2 c3 c4 c5 d0 d1 d2 d3 d4 d5 : Value} {t : TypeId} (h : Blk w b #[d0, d1, d2, d3, d4, d5] t) : Blk ((((((w.setCell ⟨b, 0, none⟩ (c0)).setCell ⟨b, 1, none⟩ (c1)).setCell ⟨b, 2, none⟩ (c2)).setCell ⟨b, 3, none⟩ (c3)).setCell ⟨b, 4, none⟩ (c4)).setCell ⟨b, 5, none⟩ (c5)) b #[c0, c1, c2, c3, c4, c5] t :=
  ((((((h.same (j := 0) (v := c0) rfl).same (j := 1) (v := c1) rfl).same (j := 2) (v := c2) rfl).same (j := 3) (v := c3) rfl).same (j := 4) (v := c4) rfl).same (j := 5) (v := c5) rfl)
theorem below_set6D {w0 w : World} {b N : Nat} {c0 c1 c2 c3 c4 c5 : Value} (h : Below N w0 w) (hb : N ≤ b) : Below N w0 ((((((w.setCell ⟨b, 0, none⟩ (c0)).setCell ⟨b, 1, none⟩ (c1)).setCell ⟨b, 2, none⟩ (c2)).setCell ⟨b, 3, none⟩ (c3)).setCell ⟨b, 4, none⟩ (c4)).setCell ⟨b, 5, none⟩ (c5)) := (((((h.setCell hb _).setCell hb _).setCell hb _).setCell hb _).setCell hb _).setCell hb _

set_option maxHeartbeats 8000000 in
theorem l03Pat_of {n : Nat} (hn : n ≤ 10) (hE : ∀ m, n = m + 1 → PatC m) : PatC n := by
  intro p w cs x hc hv hk
  cases x with
  | mk xk xn xt xs =>
  obtain ⟨kv, rfl, hok, hon, hot, pk, ck, rfl, hcl, hcm, hrow⟩ := hv
  have HK : Hid ((0 ≤ xk ∧ xk ≤ 4) ∧ xs.length ≤ 2 ∧ ∀ y ∈ xs, kdV n y) := hk
  have HX : Hid (okI xn ∧ okS xt) := ⟨hon, hot⟩
  have HR : Hid (xs ≠ [] → ∃ g off, pk = some ⟨g, off, none⟩ ∧ g ≠ p ∧ g < w.heap.size ∧ ∀ i y, xs[i]? = some y → ∃ cs, cs.length = 4 ∧ (∀ j, j < 4 → w.cell? ⟨g, off + i * 4 + j, none⟩ = cs[j]?) ∧ HVa w (fun g => g ≠ p) n cs y) := hrow
  show Calls Tryz.prog 33 #[.pointer (some ⟨p, 0, none⟩), .agg #[.int .i64 xk, .int .i64 xn, .string xt, .slice pk xs.length ck]] w _
  have HP : Hid (p < w.heap.size) := hc.lt
  obtain ⟨W0, hW0⟩ : ∃ W0, W0 = (w.alloc (.cells #[.int .i64 xk, .int .i64 xn, .string xt, .slice pk xs.length ck] 26)).alloc (.cells #[.int .i64 0, .int .i64 0, .string ⟨#[]⟩, .string ⟨#[]⟩, .slice none 0 0, .slice none 0 0] 33) := ⟨_, rfl⟩
  have hal0 : Below w.heap.size w W0 := by rw [hW0]; exact ((Below.refl _ _).alloc (Nat.le_refl _) _).alloc (by rw [alloc_hs]; omega) _
  have C0 : Hid (Cur W0 p) := hc.next hal0
  have O0 : Hid (Off [p] w W0) := Off.of_below hal0
  have v0 : Hid (Blk W0 w.heap.size #[.int .i64 xk, .int .i64 xn, .string xt, .slice pk xs.length ck] 26) := by show Blk _ _ _ _; rw [hW0]; exact Blk.next Blk.new ((Below.refl _ _).alloc (Nat.le_refl _) _)
  have r0 : Hid (Blk W0 (w.heap.size + 1) #[.int .i64 0, .int .i64 0, .string ⟨#[]⟩, .string ⟨#[]⟩, .slice none 0 0, .slice none 0 0] 33) := by show Blk _ _ _ _; rw [hW0]; have := Blk.new (w := w.alloc (.cells #[.int .i64 xk, .int .i64 xn, .string xt, .slice pk xs.length ck] 26)) (cs := #[.int .i64 0, .int .i64 0, .string ⟨#[]⟩, .string ⟨#[]⟩, .slice none 0 0, .slice none 0 0]) (t := 33); rwa [alloc_hs] at this
  have HS0 : Hid (W0.heap.size = w.heap.size + 2) := by show _ = _; rw [hW0, alloc_hs, alloc_hs]
  have HW0 : Hid (W0 = (w.alloc (.cells #[.int .i64 xk, .int .i64 xn, .string xt, .slice pk xs.length ck] 26)).alloc (.cells #[.int .i64 0, .int .i64 0, .string ⟨#[]⟩, .string ⟨#[]⟩, .slice none 0 0, .slice none 0 0] 33)) := hW0
  have HN : Hid (w.heap.size ∉ [p]) := by show ¬ _; simp; have := HP.out; omega
  have HM : Hid (w.heap.size + 1 ∉ [p]) := by show ¬ _; simp; have := HP.out; omega
  clear hc hW0 hal0 hk hok hon hot hrow
  go_enter Tryz.func33, Tryz.ntmps33
  go_wp2_with fail
  rw [← HW0.out]
  refine (l01Below_any p 8 _ C0.out (by decide) (by decide)).mono ?_
  rintro e w1 ⟨kk, hkk, rfl, hc1, ho1⟩
  have C1 : Hid (Cur w1 p) := hc1
  have O1 : Hid (Off [p] w w1) := O0.out.trans ho1
  have v1 : Hid (Blk w1 w.heap.size #[.int .i64 xk, .int .i64 xn, .string xt, .slice pk xs.length ck] 26) := (ho1.block _ v0.out.lt HN.out).trans v0.out
  have r1 : Hid (Blk w1 (w.heap.size + 1) #[.int .i64 0, .int .i64 0, .string ⟨#[]⟩, .string ⟨#[]⟩, .slice none 0 0, .slice none 0 0] 33) := (ho1.block _ r0.out.lt HM.out).trans r0.out
  have HS1 : Hid (w.heap.size + 2 ≤ w1.heap.size) := by have := ho1.size; have := HS0.out; show _ ≤ _; omega
  clear hc1 ho1
  rcases (by omega : kk = 0 ∨ kk = 1 ∨ kk = 2 ∨ kk = 3 ∨ 4 ≤ kk) with rfl | rfl | rfl | rfl | h4
  · skip
    have q0 := r1.out.cell 0 _ rfl
    have f0 := r1.out.frozen 0
    have q1 := r1.out.cell 1 _ rfl
    have f1 := r1.out.frozen 1
    have q2 := r1.out.cell 2 _ rfl
    have f2 := r1.out.frozen 2
    have q3 := r1.out.cell 3 _ rfl
    have f3 := r1.out.frozen 3
    have q4 := r1.out.cell 4 _ rfl
    have f4 := r1.out.frozen 4
    have q5 := r1.out.cell 5 _ rfl
    have f5 := r1.out.frozen 5
    go_wp2_with fail
    obtain ⟨d1, d2, d3⟩ := pt_end C1.out O1.out HP.out (pt_leaf 3 0 ⟨#[]⟩ (by unfold okI; decide) okI_zero (Nat.zero_le _))
    exact bodyPost_ret (v := .agg #[.int .i64 3, .int .i64 0, .string ⟨#[]⟩, .string ⟨#[]⟩, .slice none 0 0, .slice none 0 0]) (by simp [results, Tryz.results33, go_sem, q0, q1, q2, q3, q4, q5]) rfl ⟨_, _, _, _, _, _, _, _, rfl, d1, d2, d3⟩
  · skip
    obtain ⟨W2, hW2⟩ : ∃ W2, W2 = w1.alloc (.cells (strs [⟨#[88]⟩, ⟨#[89]⟩, ⟨#[90]⟩]).toArray 9) := ⟨_, rfl⟩
    have hal : Below w1.heap.size w1 W2 := by rw [hW2]; exact (Below.refl _ _).alloc (Nat.le_refl _) _
    have SP : Hid (StrP W2 p (.slice (some ⟨w1.heap.size, 0, none⟩) 3 3) [⟨#[88]⟩, ⟨#[89]⟩, ⟨#[90]⟩]) := by show StrP _ _ _ _; rw [hW2]; exact strP_new [⟨#[88]⟩, ⟨#[89]⟩, ⟨#[90]⟩] C1.out (by decide) (by decide)
    have Ca : Hid (Cur W2 p) := C1.out.next hal
    have Oa : Hid (Off [p] w W2) := O1.out.trans (Off.of_below hal)
    have ra : Hid (Blk W2 (w.heap.size + 1) #[.int .i64 0, .int .i64 0, .string ⟨#[]⟩, .string ⟨#[]⟩, .slice none 0 0, .slice none 0 0] 33) := r1.out.next hal
    have HW2 : Hid (W2 = w1.alloc (.cells (strs [⟨#[88]⟩, ⟨#[89]⟩, ⟨#[90]⟩]).toArray 9)) := hW2
    clear hal hW2
    go_wp2_with fail
    rw [show (w1.alloc (.cells #[.string ⟨#[88]⟩, .string ⟨#[89]⟩, .string ⟨#[90]⟩] 9)) = W2 from HW2.out.symm]
    refine (l01Pick_any p _ [⟨#[88]⟩, ⟨#[89]⟩, ⟨#[90]⟩] _ Ca.out (by decide) (by decide) SP.out).mono ?_
    rintro e w2 ⟨nm, hnm, rfl, hc2, ho2⟩
    have C2 : Hid (Cur w2 p) := hc2
    have O2 : Hid (Off [p] w w2) := Oa.out.trans ho2
    have r2 : Hid (Blk w2 (w.heap.size + 1) #[.int .i64 0, .int .i64 0, .string ⟨#[]⟩, .string ⟨#[]⟩, .slice none 0 0, .slice none 0 0] 33) := (ho2.block _ ra.out.lt HM.out).trans ra.out
    have HNM : Hid (nm.size ≤ 2) := (by decide : ∀ x ∈ ([⟨#[88]⟩, ⟨#[89]⟩, ⟨#[90]⟩] : List ByteArray), x.size ≤ 2) nm hnm
    clear hc2 ho2 hnm
    have q0 := r2.out.cell 0 _ rfl
    have f0 := r2.out.frozen 0
    have q1 := r2.out.cell 1 _ rfl
    have f1 := r2.out.frozen 1
    have q2 := r2.out.cell 2 _ rfl
    have f2 := r2.out.frozen 2
    have q3 := r2.out.cell 3 _ rfl
    have f3 := r2.out.frozen 3
    have q4 := r2.out.cell 4 _ rfl
    have f4 := r2.out.frozen 4
    have q5 := r2.out.cell 5 _ rfl
    have f5 := r2.out.frozen 5
    go_wp2_with fail
    obtain ⟨d1, d2, d3⟩ := pt_end C2.out O2.out HP.out (pt_leaf 2 0 nm (by unfold okI; decide) okI_zero HNM.out)
    exact bodyPost_ret (v := .agg #[.int .i64 2, .int .i64 0, .string nm, .string ⟨#[]⟩, .slice none 0 0, .slice none 0 0]) (by simp [results, Tryz.results33, go_sem, q0, q1, q2, q3, q4, q5]) rfl ⟨_, _, _, _, _, _, _, _, rfl, d1, d2, d3⟩
  · skip
    obtain ⟨W2, hW2⟩ : ∃ W2, W2 = w1.alloc (.cells (strs [⟨#[88]⟩, ⟨#[89]⟩, ⟨#[90]⟩]).toArray 9) := ⟨_, rfl⟩
    have hal : Below w1.heap.size w1 W2 := by rw [hW2]; exact (Below.refl _ _).alloc (Nat.le_refl _) _
    have SP : Hid (StrP W2 p (.slice (some ⟨w1.heap.size, 0, none⟩) 3 3) [⟨#[88]⟩, ⟨#[89]⟩, ⟨#[90]⟩]) := by show StrP _ _ _ _; rw [hW2]; exact strP_new [⟨#[88]⟩, ⟨#[89]⟩, ⟨#[90]⟩] C1.out (by decide) (by decide)
    have Ca : Hid (Cur W2 p) := C1.out.next hal
    have Oa : Hid (Off [p] w W2) := O1.out.trans (Off.of_below hal)
    have ra : Hid (Blk W2 (w.heap.size + 1) #[.int .i64 0, .int .i64 0, .string ⟨#[]⟩, .string ⟨#[]⟩, .slice none 0 0, .slice none 0 0] 33) := r1.out.next hal
    have HW2 : Hid (W2 = w1.alloc (.cells (strs [⟨#[88]⟩, ⟨#[89]⟩, ⟨#[90]⟩]).toArray 9)) := hW2
    clear hal hW2
    go_wp2_with fail
    rw [show (w1.alloc (.cells #[.string ⟨#[88]⟩, .string ⟨#[89]⟩, .string ⟨#[90]⟩] 9)) = W2 from HW2.out.symm]
    refine (l01Pick_any p _ [⟨#[88]⟩, ⟨#[89]⟩, ⟨#[90]⟩] _ Ca.out (by decide) (by decide) SP.out).mono ?_
    rintro e w2 ⟨nm, hnm, rfl, hc2, ho2⟩
    have C2 : Hid (Cur w2 p) := hc2
    have O2 : Hid (Off [p] w w2) := Oa.out.trans ho2
    have r2 : Hid (Blk w2 (w.heap.size + 1) #[.int .i64 0, .int .i64 0, .string ⟨#[]⟩, .string ⟨#[]⟩, .slice none 0 0, .slice none 0 0] 33) := (ho2.block _ ra.out.lt HM.out).trans ra.out
    have HNM : Hid (nm.size ≤ 2) := (by decide : ∀ x ∈ ([⟨#[88]⟩, ⟨#[89]⟩, ⟨#[90]⟩] : List ByteArray), x.size ≤ 2) nm hnm
    clear hc2 ho2 hnm
    have q0 := r2.out.cell 0 _ rfl
    have f0 := r2.out.frozen 0
    have q1 := r2.out.cell 1 _ rfl
    have f1 := r2.out.frozen 1
    have q2 := r2.out.cell 2 _ rfl
    have f2 := r2.out.frozen 2
    have q3 := r2.out.cell 3 _ rfl
    have f3 := r2.out.frozen 3
    have q4 := r2.out.cell 4 _ rfl
    have f4 := r2.out.frozen 4
    have q5 := r2.out.cell 5 _ rfl
    have f5 := r2.out.frozen 5
    go_wp2_with fail
    obtain ⟨d1, d2, d3⟩ := pt_end C2.out O2.out HP.out (pt_leaf 2 0 nm (by unfold okI; decide) okI_zero HNM.out)
    exact bodyPost_ret (v := .agg #[.int .i64 2, .int .i64 0, .string nm, .string ⟨#[]⟩, .slice none 0 0, .slice none 0 0]) (by simp [results, Tryz.results33, go_sem, q0, q1, q2, q3, q4, q5]) rfl ⟨_, _, _, _, _, _, _, _, rfl, d1, d2, d3⟩
  · skip
    go_wp2_with fail
    refine (l01Below_any p 3 _ C1.out (by decide) (by decide)).mono ?_
    rintro e w2 ⟨k2, hk2, rfl, hc2, ho2⟩
    have C2 : Hid (Cur w2 p) := hc2
    have O2 : Hid (Off [p] w w2) := O1.out.trans ho2
    have r2 : Hid (Blk w2 (w.heap.size + 1) #[.int .i64 0, .int .i64 0, .string ⟨#[]⟩, .string ⟨#[]⟩, .slice none 0 0, .slice none 0 0] 33) := (ho2.block _ r1.out.lt HM.out).trans r1.out
    clear hc2 ho2
    have q0 := r2.out.cell 0 _ rfl
    have f0 := r2.out.frozen 0
    have q1 := r2.out.cell 1 _ rfl
    have f1 := r2.out.frozen 1
    have q2 := r2.out.cell 2 _ rfl
    have f2 := r2.out.frozen 2
    have q3 := r2.out.cell 3 _ rfl
    have f3 := r2.out.frozen 3
    have q4 := r2.out.cell 4 _ rfl
    have f4 := r2.out.frozen 4
    have q5 := r2.out.cell 5 _ rfl
    have f5 := r2.out.frozen 5
    go_wp2_with fail
    obtain ⟨d1, d2, d3⟩ := pt_end C2.out O2.out HP.out (pt_leaf 0 (k2 : Int) ⟨#[]⟩ okI_zero (okI_of (by omega) (by omega)) (Nat.zero_le _))
    exact bodyPost_ret (v := .agg #[.int .i64 0, .int .i64 (k2 : Int), .string ⟨#[]⟩, .string ⟨#[]⟩, .slice none 0 0, .slice none 0 0]) (by simp [results, Tryz.results33, go_sem, q0, q1, q2, q3, q4, q5]) rfl ⟨_, _, _, _, _, _, _, _, rfl, d1, d2, d3⟩
  · skip
    have hne0 : ¬ (kk : Int) = 0 := by omega
    have hne1 : ¬ (kk : Int) = 1 := by omega
    have hne2 : ¬ (kk : Int) = 2 := by omega
    have hne3 : ¬ (kk : Int) = 3 := by omega
    have z0 := v1.out.cell 0 _ rfl
    have z1 := v1.out.cell 1 _ rfl
    have z2 := v1.out.cell 2 _ rfl
    have hvl := v1.out.lt
    have hvn : w.heap.size ≠ w1.heap.size := by omega
    go_wp2_with fail
    refine Code.wp_mono (Q := Exit.then (fun a' w' => Hid (∃ (K : Int) (be : Nat) (u9 u10 u12 u13 u14 u19 u20 u24 u25 u26 u27 u28 u29 u30 u31 u32 u33 u34 u35 : Value), okI K ∧ Blk w' be #[.int .i64 K, .int .i64 xn, .string xt, .string ⟨#[]⟩, .slice none 0 0, .slice none 0 0] 33 ∧ w1.heap.size ≤ be ∧ Below w1.heap.size w1 w' ∧ a' = ⟨#[.pointer (some ⟨p, 0, none⟩), .agg #[.int .i64 xk, .int .i64 xn, .string xt, .slice pk xs.length ck], undef, .pointer (some ⟨w.heap.size, 0, none⟩), .pointer (some ⟨w.heap.size + 1, 0, none⟩), .pointer (some ⟨be, 0, none⟩), undef, .pointer (some ⟨p, 0, none⟩), .int .i64 (kk : Int), u9, u10, undef, u12, u13, u14, undef, undef, undef, undef, u19, u20, undef, undef, undef, u24, u25, u26, u27, u28, u29, u30, u31, u32, u33, u34, u35, undef, undef, undef, undef, undef, undef, undef, undef, undef, undef, undef, undef, undef, undef, undef, undef, undef, undef, undef, undef], []⟩)) (fun _ _ _ => False)) ?rest ?reg
    case reg =>
      have HK0 := HK.out.1
      have LI : Hid (Below w1.heap.size w1 (w1.alloc (.cells #[.int .i64 0, .int .i64 1, .int .i64 4, .int .i64 5, .int .i64 6, .int .i64 3, .int .i64 7] 3)).drew) := ((Below.refl _ _).alloc (Nat.le_refl _) _).drew
      have BI : Hid (Blk (w1.alloc (.cells #[.int .i64 0, .int .i64 1, .int .i64 4, .int .i64 5, .int .i64 6, .int .i64 3, .int .i64 7] 3)).drew w1.heap.size #[.int .i64 0, .int .i64 1, .int .i64 4, .int .i64 5, .int .i64 6, .int .i64 3, .int .i64 7] 3) := Blk.new (w := w1)
      have LIE : Hid (Below w1.heap.size w1 ((w1.alloc (.cells #[.int .i64 0, .int .i64 1, .int .i64 4, .int .i64 5, .int .i64 6, .int .i64 3, .int .i64 7] 3)).alloc (.cells #[.int .i64 0, .int .i64 0, .string ⟨#[]⟩, .string ⟨#[]⟩, .slice none 0 0, .slice none 0 0] 33)).drew) := (((Below.refl _ _).alloc (Nat.le_refl _) _).alloc (by rw [alloc_hs]; exact Nat.le_succ _) _).drew
      have BIE : Hid (Blk ((w1.alloc (.cells #[.int .i64 0, .int .i64 1, .int .i64 4, .int .i64 5, .int .i64 6, .int .i64 3, .int .i64 7] 3)).alloc (.cells #[.int .i64 0, .int .i64 0, .string ⟨#[]⟩, .string ⟨#[]⟩, .slice none 0 0, .slice none 0 0] 33)).drew (w1.heap.size + 1) #[.int .i64 0, .int .i64 0, .string ⟨#[]⟩, .string ⟨#[]⟩, .slice none 0 0, .slice none 0 0] 33) := by have := Blk.new (w := (w1.alloc (.cells #[.int .i64 0, .int .i64 1, .int .i64 4, .int .i64 5, .int .i64 6, .int .i64 3, .int .i64 7] 3))) (cs := #[.int .i64 0, .int .i64 0, .string ⟨#[]⟩, .string ⟨#[]⟩, .slice none 0 0, .slice none 0 0]) (t := 33); rw [alloc_hs] at this; exact this
      have BI2 : Hid (Blk ((w1.alloc (.cells #[.int .i64 0, .int .i64 1, .int .i64 4, .int .i64 5, .int .i64 6, .int .i64 3, .int .i64 7] 3)).alloc (.cells #[.int .i64 0, .int .i64 0, .string ⟨#[]⟩, .string ⟨#[]⟩, .slice none 0 0, .slice none 0 0] 33)).drew w1.heap.size #[.int .i64 0, .int .i64 1, .int .i64 4, .int .i64 5, .int .i64 6, .int .i64 3, .int .i64 7] 3) := (Blk.new (w := w1) (cs := #[.int .i64 0, .int .i64 1, .int .i64 4, .int .i64 5, .int .i64 6, .int .i64 3, .int .i64 7]) (t := 3)).next (((Below.refl _ _).alloc (Nat.le_refl _) _).drew)
      have BE : Hid (Blk (w1.alloc (.cells #[.int .i64 0, .int .i64 0, .string ⟨#[]⟩, .string ⟨#[]⟩, .slice none 0 0, .slice none 0 0] 33)).drew w1.heap.size #[.int .i64 0, .int .i64 0, .string ⟨#[]⟩, .string ⟨#[]⟩, .slice none 0 0, .slice none 0 0] 33) := Blk.new (w := w1)
      have LE : Hid (Below w1.heap.size w1 (w1.alloc (.cells #[.int .i64 0, .int .i64 0, .string ⟨#[]⟩, .string ⟨#[]⟩, .slice none 0 0, .slice none 0 0] 33)).drew) := ((Below.refl _ _).alloc (Nat.le_refl _) _).drew
      have LEI : Hid (Below w1.heap.size w1 ((w1.alloc (.cells #[.int .i64 0, .int .i64 0, .string ⟨#[]⟩, .string ⟨#[]⟩, .slice none 0 0, .slice none 0 0] 33)).alloc (.cells #[.int .i64 0, .int .i64 1, .int .i64 4, .int .i64 5, .int .i64 6, .int .i64 3, .int .i64 7] 3)).drew) := (((Below.refl _ _).alloc (Nat.le_refl _) _).alloc (by rw [alloc_hs]; exact Nat.le_succ _) _).drew
      have BEI : Hid (Blk ((w1.alloc (.cells #[.int .i64 0, .int .i64 0, .string ⟨#[]⟩, .string ⟨#[]⟩, .slice none 0 0, .slice none 0 0] 33)).alloc (.cells #[.int .i64 0, .int .i64 1, .int .i64 4, .int .i64 5, .int .i64 6, .int .i64 3, .int .i64 7] 3)).drew w1.heap.size #[.int .i64 0, .int .i64 0, .string ⟨#[]⟩, .string ⟨#[]⟩, .slice none 0 0, .slice none 0 0] 33) := (Blk.new (w := w1) (cs := #[.int .i64 0, .int .i64 0, .string ⟨#[]⟩, .string ⟨#[]⟩, .slice none 0 0, .slice none 0 0]) (t := 33)).next (((Below.refl _ _).alloc (Nat.le_refl _) _).drew)
      have BI3 : Hid (Blk ((w1.alloc (.cells #[.int .i64 0, .int .i64 0, .string ⟨#[]⟩, .string ⟨#[]⟩, .slice none 0 0, .slice none 0 0] 33)).alloc (.cells #[.int .i64 0, .int .i64 1, .int .i64 4, .int .i64 5, .int .i64 6, .int .i64 3, .int .i64 7] 3)).drew (w1.heap.size + 1) #[.int .i64 0, .int .i64 1, .int .i64 4, .int .i64 5, .int .i64 6, .int .i64 3, .int .i64 7] 3) := by have := Blk.new (w := (w1.alloc (.cells #[.int .i64 0, .int .i64 0, .string ⟨#[]⟩, .string ⟨#[]⟩, .slice none 0 0, .slice none 0 0] 33))) (cs := #[.int .i64 0, .int .i64 1, .int .i64 4, .int .i64 5, .int .i64 6, .int .i64 3, .int .i64 7]) (t := 3); rw [alloc_hs] at this; exact this
      have NLE : Hid (∀ cs, Below w1.heap.size w1 ((w1.alloc (.cells #[.int .i64 0, .int .i64 1, .int .i64 4, .int .i64 5, .int .i64 6, .int .i64 3, .int .i64 7] 3)).alloc (.cells cs 33)).drew) := fun cs => (((Below.refl _ _).alloc (Nat.le_refl _) _).alloc (by rw [alloc_hs]; exact Nat.le_succ _) _).drew
      have NIE : Hid (∀ cs, Blk ((w1.alloc (.cells #[.int .i64 0, .int .i64 1, .int .i64 4, .int .i64 5, .int .i64 6, .int .i64 3, .int .i64 7] 3)).alloc (.cells cs 33)).drew (w1.heap.size + 1) cs 33) := fun cs => by have := Blk.new (w := (w1.alloc (.cells #[.int .i64 0, .int .i64 1, .int .i64 4, .int .i64 5, .int .i64 6, .int .i64 3, .int .i64 7] 3))) (cs := cs) (t := 33); rw [alloc_hs] at this; exact this
      have NLI : Hid (∀ cs, Below w1.heap.size w1 ((w1.alloc (.cells cs 33)).alloc (.cells #[.int .i64 0, .int .i64 1, .int .i64 4, .int .i64 5, .int .i64 6, .int .i64 3, .int .i64 7] 3)).drew) := fun cs => (((Below.refl _ _).alloc (Nat.le_refl _) _).alloc (by rw [alloc_hs]; exact Nat.le_succ _) _).drew
      have NEI : Hid (∀ cs, Blk ((w1.alloc (.cells cs 33)).alloc (.cells #[.int .i64 0, .int .i64 1, .int .i64 4, .int .i64 5, .int .i64 6, .int .i64 3, .int .i64 7] 3)).drew w1.heap.size cs 33) := fun cs => (Blk.new (w := w1) (cs := cs) (t := 33)).next (((Below.refl _ _).alloc (Nat.le_refl _) _).drew)
      have hv2 : w.heap.size ≠ w1.heap.size + 1 := by omega
      obtain ⟨KV, hKV, hOK⟩ : ∃ KV : Int, (#[.int .i64 0, .int .i64 1, .int .i64 4, .int .i64 5, .int .i64 6, .int .i64 3, .int .i64 7] : Array Value)[xk.toNat]? = some (.int .i64 KV) ∧ okI KV := by
        rcases (by omega : xk = 0 ∨ xk = 1 ∨ xk = 2 ∨ xk = 3 ∨ xk = 4) with rfl | rfl | rfl | rfl | rfl <;> exact ⟨_, rfl, by unfold okI; decide⟩
      have HKV : Hid _ := hKV
      have HOK : Hid (okI KV) := hOK
      have hx0 : 0 ≤ xk := HK0.1
      have hx7 : xk < 7 := by omega
      have e7 : IntKind.i64.wrap (xk + 7) = xk + 7 := by rcases (by omega : xk = 0 ∨ xk = 1 ∨ xk = 2 ∨ xk = 3 ∨ xk = 4) with rfl | rfl | rfl | rfl | rfl <;> decide
      have t7 : Int.tmod (xk + 7) 7 = xk := by rcases (by omega : xk = 0 ∨ xk = 1 ∨ xk = 2 ∨ xk = 3 ∨ xk = 4) with rfl | rfl | rfl | rfl | rfl <;> decide
      clear hKV hOK
      refine wp_region_noPanic ?_
      refine wp_region_held_drew (S := (fun w' => w'.cell? ⟨w.heap.size, 0, none⟩ = some (.int .i64 xk) ∧ w'.cell? ⟨w.heap.size, 1, none⟩ = some (.int .i64 xn) ∧ w'.cell? ⟨w.heap.size, 2, none⟩ = some (.string xt))) (by kernel_rfl) (⟨z0, z1, z2⟩) (fun hHeld => ?_)
      refine tkH 1 (oi := ⟨some 25, .fieldAddr 26 (.tmp 3) 0, 0, "l03_value.go:247", #[], none⟩) (v := ?_) rfl rfl ?_ (by assumption) ?_
      rotate_left 1
      · intro w hSw
        try dsimp only at hSw
        go_simp
        try with_reducible rfl
      try simp only [sqP]
      refine tkH 2 (oi := ⟨some 26, .load 3 (.tmp 25), 3, "l03_value.go:247", #[⟨1, .data⟩], none⟩) (v := ?_) rfl rfl ?_ (by assumption) ?_
      rotate_left 1
      · intro w hSw
        try dsimp only at hSw
        go_simp
        try with_reducible rfl
      try simp only [sqP]
      refine tkH 3 (oi := ⟨some 27, .binOp .add 3 (.tmp 26) (.const (Value.int IntKind.i64 7)) 3, 3, "l03_value.go:247", #[⟨2, .data⟩], none⟩) (v := ?_) rfl rfl ?_ (by assumption) ?_
      rotate_left 1
      · intro w hSw
        try dsimp only at hSw
        go_simp
        try with_reducible rfl
      try simp only [sqP]
      refine tkH 4 (oi := ⟨some 28, .binOp .rem 3 (.tmp 27) (.const (Value.int IntKind.i64 7)) 3, 3, "l03_value.go:247", #[⟨3, .data⟩], none⟩) (v := ?_) rfl rfl ?_ (by assumption) ?_
      rotate_left 1
      · intro w hSw
        try dsimp only at hSw
        go_simp
        try with_reducible rfl
      try simp only [sqP]
      refine tkH 7 (oi := ⟨some 31, .fieldAddr 26 (.tmp 3) 2, 0, "l03_value.go:247", #[], none⟩) (v := ?_) rfl rfl ?_ (by assumption) ?_
      rotate_left 1
      · intro w hSw
        try dsimp only at hSw
        go_simp
        try with_reducible rfl
      try simp only [sqP]
      refine tkH 8 (oi := ⟨some 32, .load 9 (.tmp 31), 9, "l03_value.go:247", #[⟨7, .data⟩], none⟩) (v := ?_) rfl rfl ?_ (by assumption) ?_
      rotate_left 1
      · intro w hSw
        try dsimp only at hSw
        go_simp
        try with_reducible rfl
      try simp only [sqP]
      refine tkH 9 (oi := ⟨some 33, .fieldAddr 26 (.tmp 3) 1, 0, "l03_value.go:247", #[], none⟩) (v := ?_) rfl rfl ?_ (by assumption) ?_
      rotate_left 1
      · intro w hSw
        try dsimp only at hSw
        go_simp
        try with_reducible rfl
      try simp only [sqP]
      refine tkH 10 (oi := ⟨some 34, .load 3 (.tmp 33), 3, "l03_value.go:247", #[⟨9, .data⟩], none⟩) (v := ?_) rfl rfl ?_ (by assumption) ?_
      rotate_left 1
      · intro w hSw
        try dsimp only at hSw
        go_simp
        try with_reducible rfl
      try simp only [sqP]
      refine twoH 0 12 (o := ⟨some 24, .buildSlice 83 7 #[(0, .const (Value.int IntKind.i64 0)), (1, .const (Value.int IntKind.i64 1)), (2, .const (Value.int IntKind.i64 4)), (3, .const (Value.int IntKind.i64 5)), (4, .const (Value.int IntKind.i64 6)), (5, .const (Value.int IntKind.i64 3)), (6, .const (Value.int IntKind.i64 7))], 83, "l03_value.go:247", #[], none⟩) (o' := ⟨some 5, .alloc 33, 0, "l03_value.go:247", #[], none⟩) rfl rfl (fun K hK => ?_) (fun K hK => ?_)
      · go_simp
        refine hK.out _ _ (⟨cell_adD z0 hvl, cell_adD z1 hvl, cell_adD z2 hvl⟩) (fun hHeld => ?_)
        clear hK K
        try simp only [sqP]
        refine tkH 5 (oi := ⟨some 29, .indexAddr 83 (.tmp 24) (.tmp 28), 0, "l03_value.go:247", #[⟨0, .data⟩, ⟨4, .data⟩], none⟩) (v := ?_) rfl rfl ?_ (by assumption) ?_
        rotate_left 1
        · intro w hSw
          try dsimp only at hSw
          go_simp
          try with_reducible rfl
        try simp only [sqP]
        refine twoH 6 12 (o := ⟨some 30, .load 3 (.tmp 29), 3, "l03_value.go:247", #[⟨5, .data⟩], none⟩) (o' := ⟨some 5, .alloc 33, 0, "l03_value.go:247", #[], none⟩) rfl rfl (fun K hK => ?_) (fun K hK => ?_)
        · have i6 := BI.out.cell xk.toNat _ HKV.out
          go_simp
          refine hK.out _ _ (⟨cell_adD z0 hvl, cell_adD z1 hvl, cell_adD z2 hvl⟩) (fun hHeld => ?_)
          clear hK K
          try simp only [sqP]
          refine tkH 11 (oi := ⟨some 35, .build 33 #[(0, .tmp 30), (2, .tmp 32), (1, .tmp 34)], 33, "l03_value.go:247", #[⟨6, .data⟩, ⟨8, .data⟩, ⟨10, .data⟩], none⟩) (v := ?_) rfl rfl ?_ (by assumption) ?_
          rotate_left 1
          · intro w hSw
            try dsimp only at hSw
            go_simp
            try with_reducible rfl
          try simp only [sqP]
          refine oneH 12 (o := ⟨some 5, .alloc 33, 0, "l03_value.go:247", #[], none⟩) rfl (fun K hK => ?_)
          go_simp
          refine hK.out _ _ (⟨cell_aadD z0 hvl, cell_aadD z1 hvl, cell_aadD z2 hvl⟩) (fun hHeld => ?_)
          clear hK K
          try simp only [sqP]
          have q0 := BIE.out.cell 0 _ rfl
          have q1 := BIE.out.cell 1 _ rfl
          have q2 := BIE.out.cell 2 _ rfl
          have q3 := BIE.out.cell 3 _ rfl
          have q4 := BIE.out.cell 4 _ rfl
          have q5 := BIE.out.cell 5 _ rfl
          have f0 := BIE.out.frozen 0
          have f1 := BIE.out.frozen 1
          have f2 := BIE.out.frozen 2
          have f3 := BIE.out.frozen 3
          have f4 := BIE.out.frozen 4
          have f5 := BIE.out.frozen 5
          refine oneH 13 (o := ⟨none, .store 33 (.tmp 5) (.tmp 35), 0, "l03_value.go:247", #[⟨12, .data⟩, ⟨11, .data⟩, ⟨0, .phase⟩, ⟨1, .phase⟩, ⟨2, .phase⟩, ⟨3, .phase⟩, ⟨4, .phase⟩, ⟨5, .phase⟩, ⟨6, .phase⟩, ⟨7, .phase⟩, ⟨8, .phase⟩, ⟨9, .phase⟩, ⟨10, .phase⟩, ⟨11, .phase⟩, ⟨12, .phase⟩], none⟩) rfl (fun K hK => ?_)
          go_simp
          refine hK.out _ _ (⟨cell_aadD z0 hvl, cell_aadD z1 hvl, cell_aadD z2 hvl⟩) (fun hHeld => ?_)
          clear hK K
          try simp only [sqP]
          refine wpAnyH_done (by kernel_rfl) ?_ _
          refine NoPanic.normal ?_
          exact ⟨KV, _, _, _, _, _, _, _, _, _, _, _, _, _, _, _, _, _, _, _, _, HOK.out, (NIE.out _), (Nat.le_succ _), (NLE.out _), rfl⟩
        · go_simp
          refine hK.out _ _ (⟨cell_aadD z0 hvl, cell_aadD z1 hvl, cell_aadD z2 hvl⟩) (fun hHeld => ?_)
          clear hK K
          try simp only [sqP]
          have i6 := BI2.out.cell xk.toNat _ HKV.out
          refine oneH 6 (o := ⟨some 30, .load 3 (.tmp 29), 3, "l03_value.go:247", #[⟨5, .data⟩], none⟩) rfl (fun K hK => ?_)
          go_simp
          refine hK.out _ _ (⟨cell_aadD z0 hvl, cell_aadD z1 hvl, cell_aadD z2 hvl⟩) (fun hHeld => ?_)
          clear hK K
          try simp only [sqP]
          refine tkH 11 (oi := ⟨some 35, .build 33 #[(0, .tmp 30), (2, .tmp 32), (1, .tmp 34)], 33, "l03_value.go:247", #[⟨6, .data⟩, ⟨8, .data⟩, ⟨10, .data⟩], none⟩) (v := ?_) rfl rfl ?_ (by assumption) ?_
          rotate_left 1
          · intro w hSw
            try dsimp only at hSw
            go_simp
            try with_reducible rfl
          try simp only [sqP]
          have q0 := BIE.out.cell 0 _ rfl
          have q1 := BIE.out.cell 1 _ rfl
          have q2 := BIE.out.cell 2 _ rfl
          have q3 := BIE.out.cell 3 _ rfl
          have q4 := BIE.out.cell 4 _ rfl
          have q5 := BIE.out.cell 5 _ rfl
          have f0 := BIE.out.frozen 0
          have f1 := BIE.out.frozen 1
          have f2 := BIE.out.frozen 2
          have f3 := BIE.out.frozen 3
          have f4 := BIE.out.frozen 4
          have f5 := BIE.out.frozen 5
          refine oneH 13 (o := ⟨none, .store 33 (.tmp 5) (.tmp 35), 0, "l03_value.go:247", #[⟨12, .data⟩, ⟨11, .data⟩, ⟨0, .phase⟩, ⟨1, .phase⟩, ⟨2, .phase⟩, ⟨3, .phase⟩, ⟨4, .phase⟩, ⟨5, .phase⟩, ⟨6, .phase⟩, ⟨7, .phase⟩, ⟨8, .phase⟩, ⟨9, .phase⟩, ⟨10, .phase⟩, ⟨11, .phase⟩, ⟨12, .phase⟩], none⟩) rfl (fun K hK => ?_)
          go_simp
          refine hK.out _ _ (⟨cell_aadD z0 hvl, cell_aadD z1 hvl, cell_aadD z2 hvl⟩) (fun hHeld => ?_)
          clear hK K
          try simp only [sqP]
          refine wpAnyH_done (by kernel_rfl) ?_ _
          refine NoPanic.normal ?_
          exact ⟨KV, _, _, _, _, _, _, _, _, _, _, _, _, _, _, _, _, _, _, _, _, HOK.out, (NIE.out _), (Nat.le_succ _), (NLE.out _), rfl⟩
      · go_simp
        refine hK.out _ _ (⟨cell_adD z0 hvl, cell_adD z1 hvl, cell_adD z2 hvl⟩) (fun hHeld => ?_)
        clear hK K
        try simp only [sqP]
        refine oneH 0 (o := ⟨some 24, .buildSlice 83 7 #[(0, .const (Value.int IntKind.i64 0)), (1, .const (Value.int IntKind.i64 1)), (2, .const (Value.int IntKind.i64 4)), (3, .const (Value.int IntKind.i64 5)), (4, .const (Value.int IntKind.i64 6)), (5, .const (Value.int IntKind.i64 3)), (6, .const (Value.int IntKind.i64 7))], 83, "l03_value.go:247", #[], none⟩) rfl (fun K hK => ?_)
        go_simp
        refine hK.out _ _ (⟨cell_aadD z0 hvl, cell_aadD z1 hvl, cell_aadD z2 hvl⟩) (fun hHeld => ?_)
        clear hK K
        try simp only [sqP]
        refine tkH 5 (oi := ⟨some 29, .indexAddr 83 (.tmp 24) (.tmp 28), 0, "l03_value.go:247", #[⟨0, .data⟩, ⟨4, .data⟩], none⟩) (v := ?_) rfl rfl ?_ (by assumption) ?_
        rotate_left 1
        · intro w hSw
          try dsimp only at hSw
          go_simp
          try with_reducible rfl
        try simp only [sqP]
        have i6 := BI3.out.cell xk.toNat _ HKV.out
        refine oneH 6 (o := ⟨some 30, .load 3 (.tmp 29), 3, "l03_value.go:247", #[⟨5, .data⟩], none⟩) rfl (fun K hK => ?_)
        go_simp
        refine hK.out _ _ (⟨cell_aadD z0 hvl, cell_aadD z1 hvl, cell_aadD z2 hvl⟩) (fun hHeld => ?_)
        clear hK K
        try simp only [sqP]
        refine tkH 11 (oi := ⟨some 35, .build 33 #[(0, .tmp 30), (2, .tmp 32), (1, .tmp 34)], 33, "l03_value.go:247", #[⟨6, .data⟩, ⟨8, .data⟩, ⟨10, .data⟩], none⟩) (v := ?_) rfl rfl ?_ (by assumption) ?_
        rotate_left 1
        · intro w hSw
          try dsimp only at hSw
          go_simp
          try with_reducible rfl
        try simp only [sqP]
        have q0 := BEI.out.cell 0 _ rfl
        have q1 := BEI.out.cell 1 _ rfl
        have q2 := BEI.out.cell 2 _ rfl
        have q3 := BEI.out.cell 3 _ rfl
        have q4 := BEI.out.cell 4 _ rfl
        have q5 := BEI.out.cell 5 _ rfl
        have f0 := BEI.out.frozen 0
        have f1 := BEI.out.frozen 1
        have f2 := BEI.out.frozen 2
        have f3 := BEI.out.frozen 3
        have f4 := BEI.out.frozen 4
        have f5 := BEI.out.frozen 5
        refine oneH 13 (o := ⟨none, .store 33 (.tmp 5) (.tmp 35), 0, "l03_value.go:247", #[⟨12, .data⟩, ⟨11, .data⟩, ⟨0, .phase⟩, ⟨1, .phase⟩, ⟨2, .phase⟩, ⟨3, .phase⟩, ⟨4, .phase⟩, ⟨5, .phase⟩, ⟨6, .phase⟩, ⟨7, .phase⟩, ⟨8, .phase⟩, ⟨9, .phase⟩, ⟨10, .phase⟩, ⟨11, .phase⟩, ⟨12, .phase⟩], none⟩) rfl (fun K hK => ?_)
        go_simp
        refine hK.out _ _ (⟨cell_aadD z0 hvl, cell_aadD z1 hvl, cell_aadD z2 hvl⟩) (fun hHeld => ?_)
        clear hK K
        try simp only [sqP]
        refine wpAnyH_done (by kernel_rfl) ?_ _
        refine NoPanic.normal ?_
        exact ⟨KV, _, _, _, _, _, _, _, _, _, _, _, _, _, _, _, _, _, _, _, _, HOK.out, (NEI.out _), (Nat.le_refl _), (NLI.out _), rfl⟩
    case rest =>
      rintro e a' w2 hp
      cases e with
      | normal =>
        obtain ⟨K, be, u9, u10, u12, u13, u14, u19, u20, u24, u25, u26, u27, u28, u29, u30, u31, u32, u33, u34, u35, hoK, hbe, hle, hbl0, rfl⟩ := hp.out
        have HO : Hid (okI K) := hoK
        have HBE : Hid (w.heap.size + 2 ≤ be) := Nat.le_trans HS1.out hle
        have HB2 : Hid (be < w2.heap.size) := hbe.lt
        have HSZ : Hid (w.heap.size + 2 < w2.heap.size) := by have := HB2.out; have := HBE.out; show _ < _; omega
        have I0 : Hid (∃ kv acc, Blk w2 be #[.int .i64 K, .int .i64 xn, .string xt, .string ⟨#[]⟩, kv, .slice none 0 0] 33 ∧ GrowO 33 6 (OEr n) w2 w2.heap.size w2.heap.size kv acc ∧ acc.length = 0 ∧ (acc.map (ndE n)).sum + acc.length ≤ acc.length * 2 ^ n ∧ Cur w2 p ∧ Off [p] w w2 ∧ Blk w2 w.heap.size #[.int .i64 xk, .int .i64 xn, .string xt, .slice pk xs.length ck] 26 ∧ Blk w2 (w.heap.size + 1) #[.int .i64 0, .int .i64 0, .string ⟨#[]⟩, .string ⟨#[]⟩, .slice none 0 0, .slice none 0 0] 33) := ⟨_, [], hbe, (GrowO.nil (Nat.le_refl _)), rfl, by simp, C1.out.next hbl0, O1.out.trans (Off.of_below hbl0), v1.out.next hbl0, r1.out.next hbl0⟩
        have hcl' : xs.length ≤ ck := hcl
        generalize hnk : xs.length = nk at *
        have HNK : Hid (xs.length = nk) := hnk
        have hnk9 : (nk : Int) ≤ 9223372036854775807 := by unfold maxLen at hcm; omega
        clear hcl'
        clear hp hoK hbe hle hbl0 z0 z1 z2 hvl hvn C0 O0 r0 C1 O1 v1 r1 HS0 HS1 hne0 hne1 hne2 hne3 hnk
        go_wp2_with fail
        go_loopw [6] (fun iv wr => ∃ i : Nat, i ≤ nk ∧ iv = .int .i64 i ∧ Hid (∃ kv acc, Blk wr be #[.int .i64 K, .int .i64 xn, .string xt, .string ⟨#[]⟩, kv, .slice none 0 0] 33 ∧ GrowO 33 6 (OEr n) wr w2.heap.size wr.heap.size kv acc ∧ acc.length = i ∧ (acc.map (ndE n)).sum + acc.length ≤ acc.length * 2 ^ n ∧ Cur wr p ∧ Off [p] w wr ∧ Blk wr w.heap.size #[.int .i64 xk, .int .i64 xn, .string xt, .slice pk nk ck] 26 ∧ Blk wr (w.heap.size + 1) #[.int .i64 0, .int .i64 0, .string ⟨#[]⟩, .string ⟨#[]⟩, .slice none 0 0, .slice none 0 0] 33)) (fun iv _ => nk - (intOf iv).toNat)
        case atStart => exact ⟨0, Nat.zero_le _, rfl, I0⟩
        case round =>
          obtain ⟨i, hi, rfl, HI⟩ := hrel
          obtain ⟨kv, acc, eB, hG, hal, hsm, hC, hO, vB, rB⟩ := HI.out
          have v3 := vB.cell 3 _ rfl
          have hki0 : (0 : Int) ≤ (i : Int) := by omega
          by_cases hlt : i < nk
          · obtain ⟨y, hyk⟩ : ∃ y, xs[i]? = some y := ⟨xs[i]'(by rw [HNK.out]; exact hlt), List.getElem?_eq_getElem _⟩
            obtain ⟨g, off, rfl, hgp, hgl, hat⟩ := HR.out (by intro h; rw [h] at hyk; simp at hyk)
            obtain ⟨cs, hcl4, hcs, hyV⟩ := hat i y hyk
            have HKD := HK.out.2.2 y (List.mem_of_getElem? hyk)
            cases n with
            | zero => exact hyV.elim
            | succ m =>
            obtain ⟨yk, yn, yt, yp, ym, yc, rfl⟩ := hyV.shape
            have hkl : (i : Int) < (nk : Int) := by omega
            have a0 := hcs 0 (by omega)
            have a1 := hcs 1 (by omega)
            have a2 := hcs 2 (by omega)
            have a3 := hcs 3 (by omega)
            have hgO := hO.block g hgl (by simpa using hgp)
            have hgw : g < wr.heap.size := Nat.lt_of_lt_of_le hgl hO.size
            rw [← World.cell?_of_block (a := ⟨g, _, none⟩) hgO] at a0 a1 a2 a3
            simp at a0 a1 a2 a3
            have hvw : w.heap.size < wr.heap.size := vB.lt
            have hvp : w.heap.size ∉ [p] := HN.out
            have hbl : be < wr.heap.size := eB.lt
            have hbp : be ∉ [p] := by simp; have := HBE.out; have := HP.out; omega
            have hgp' : g ∉ [p] := by simpa using hgp
            have hb2 := HB2.out
            have hg2 : g < w2.heap.size := by have := HBE.out; omega
            have hv2 : w.heap.size < w2.heap.size := by have := HBE.out; omega
            have hnb : w.heap.size ≠ be := by have := HBE.out; omega
            have hngb : g ≠ be := by have := HBE.out; omega
            have x4 := eB.cell 4 _ rfl
            have xf4 := eB.frozen 4
            have HG : Hid (GrowO 33 6 (OEr (m + 1)) wr w2.heap.size wr.heap.size kv acc) := hG
            have HAL : Hid (acc.length = i ∧ i < nk ∧ nk ≤ 2) := ⟨hal, hlt, HK.out.2.1⟩
            have HPB : Hid (p < w2.heap.size) := by have := HP.out; have := HBE.out; show _ < _; omega
            have PB : Hid (Calls Tryz.prog 33 #[.pointer (some ⟨p, 0, none⟩), .agg #[.int .i64 yk, .int .i64 yn, .string yt, .slice yp ym yc]] wr.drew fun e w' => ∃ k m' t s p1 n1 q1 y, e = .returned (.agg #[.int .i64 k, .int .i64 m', .string t, .string s, .slice p1 n1 q1, .slice none 0 0]) ∧ PtT w' wr.drew.heap.size m [.int .i64 k, .int .i64 m', .string t, .string s, .slice p1 n1 q1, .slice none 0 0] y ∧ Cur w' p ∧ Off [p] wr.drew w') :=
              hE m rfl p wr.drew _ y (hC.next (Below.refl _ _).drew) (HVa.mono (w' := wr.drew) ⟨hO.size, fun g hg hl => hO.block g hl (by simpa using hg)⟩ (fun _ h => h) hyV) HKD
            have CEL : Hid (∀ w', Off [p] wr w' → (fun w' => w'.cell? ⟨w.heap.size, 3, none⟩ = some (.slice (some ⟨g, off, none⟩) nk ck) ∧ w'.cell? ⟨g, off + i * 4, none⟩ = some (.int .i64 yk) ∧ w'.cell? ⟨g, off + i * 4 + 1, none⟩ = some (.int .i64 yn) ∧ w'.cell? ⟨g, off + i * 4 + 2, none⟩ = some (.string yt) ∧ w'.cell? ⟨g, off + i * 4 + 3, none⟩ = some (.slice yp ym yc)) w') := fun w' ho => ⟨(World.cell?_of_block (ho.block _ hvw hvp)).trans v3, (World.cell?_of_block (ho.block _ hgw hgp')).trans a0, (World.cell?_of_block (ho.block _ hgw hgp')).trans a1, (World.cell?_of_block (ho.block _ hgw hgp')).trans a2, (World.cell?_of_block (ho.block _ hgw hgp')).trans a3⟩
            have CE6 : Hid (∀ wa wb, Off [p] wr wa → Below w2.heap.size wa wb → (fun w' => w'.cell? ⟨w.heap.size, 3, none⟩ = some (.slice (some ⟨g, off, none⟩) nk ck) ∧ w'.cell? ⟨g, off + i * 4, none⟩ = some (.int .i64 yk) ∧ w'.cell? ⟨g, off + i * 4 + 1, none⟩ = some (.int .i64 yn) ∧ w'.cell? ⟨g, off + i * 4 + 2, none⟩ = some (.string yt) ∧ w'.cell? ⟨g, off + i * 4 + 3, none⟩ = some (.slice yp ym yc)) wb) := fun wa wb h1 h2 => by obtain ⟨c0, c1, c2, c3, c4⟩ := CEL.out wa h1; exact ⟨(h2.cell (p := ⟨w.heap.size, 3, none⟩) hv2).trans c0, (h2.cell (p := ⟨g, _, none⟩) hg2).trans c1, (h2.cell (p := ⟨g, _, none⟩) hg2).trans c2, (h2.cell (p := ⟨g, _, none⟩) hg2).trans c3, (h2.cell (p := ⟨g, _, none⟩) hg2).trans c4⟩
            have CE7 : Hid (∀ wb : World, ∀ v, (fun w' => w'.cell? ⟨w.heap.size, 3, none⟩ = some (.slice (some ⟨g, off, none⟩) nk ck) ∧ w'.cell? ⟨g, off + i * 4, none⟩ = some (.int .i64 yk) ∧ w'.cell? ⟨g, off + i * 4 + 1, none⟩ = some (.int .i64 yn) ∧ w'.cell? ⟨g, off + i * 4 + 2, none⟩ = some (.string yt) ∧ w'.cell? ⟨g, off + i * 4 + 3, none⟩ = some (.slice yp ym yc)) wb → (fun w' => w'.cell? ⟨w.heap.size, 3, none⟩ = some (.slice (some ⟨g, off, none⟩) nk ck) ∧ w'.cell? ⟨g, off + i * 4, none⟩ = some (.int .i64 yk) ∧ w'.cell? ⟨g, off + i * 4 + 1, none⟩ = some (.int .i64 yn) ∧ w'.cell? ⟨g, off + i * 4 + 2, none⟩ = some (.string yt) ∧ w'.cell? ⟨g, off + i * 4 + 3, none⟩ = some (.slice yp ym yc)) (wb.setCell ⟨be, 4, none⟩ v)) := fun wb v ⟨c0, c1, c2, c3, c4⟩ => ⟨(World.cell?_of_block (Below.heap_setCell _ _ _ _ hnb)).trans c0, (World.cell?_of_block (Below.heap_setCell _ _ _ _ hngb)).trans c1, (World.cell?_of_block (Below.heap_setCell _ _ _ _ hngb)).trans c2, (World.cell?_of_block (Below.heap_setCell _ _ _ _ hngb)).trans c3, (World.cell?_of_block (Below.heap_setCell _ _ _ _ hngb)).trans c4⟩
            have FIN : Hid (∀ (wa w6 : World) (v6 : Value) (y2 : Ex), Off [p] wr wa → Cur wa p → ndE (m + 1) y2 + 1 ≤ 2 ^ (m + 1) → Below w2.heap.size wa w6 → GrowO 33 6 (OEr (m + 1)) w6 w2.heap.size w6.heap.size v6 (acc ++ [y2]) → Hid (∃ kv acc, Blk (w6.setCell ⟨be, 4, none⟩ v6) be #[.int .i64 K, .int .i64 xn, .string xt, .string ⟨#[]⟩, kv, .slice none 0 0] 33 ∧ GrowO 33 6 (OEr (m + 1)) (w6.setCell ⟨be, 4, none⟩ v6) w2.heap.size (w6.setCell ⟨be, 4, none⟩ v6).heap.size kv acc ∧ acc.length = i + 1 ∧ (acc.map (ndE (m + 1))).sum + acc.length ≤ acc.length * 2 ^ (m + 1) ∧ Cur (w6.setCell ⟨be, 4, none⟩ v6) p ∧ Off [p] w (w6.setCell ⟨be, 4, none⟩ v6) ∧ Blk (w6.setCell ⟨be, 4, none⟩ v6) w.heap.size #[.int .i64 xk, .int .i64 xn, .string xt, .slice (some ⟨g, off, none⟩) nk ck] 26 ∧ Blk (w6.setCell ⟨be, 4, none⟩ v6) (w.heap.size + 1) #[.int .i64 0, .int .i64 0, .string ⟨#[]⟩, .string ⟨#[]⟩, .slice none 0 0, .slice none 0 0] 33)) := fun wa w6 v6 y2 ho hc hy hb hg => by
              have hbe := HBE.out
              have hpp := HP.out
              have hsz := HSZ.out
              have s7 : (w6.setCell ⟨be, 4, none⟩ v6).heap.size = w6.heap.size := by simp [World.setCell]
              have bs : Below be w6 (w6.setCell ⟨be, 4, none⟩ v6) := (Below.refl be w6).setCell (p := ⟨be, 4, none⟩) (Nat.le_refl be) _
              have hrw : w.heap.size + 1 < wr.heap.size := rB.lt
              have eA : Blk w6 be #[.int .i64 K, .int .i64 xn, .string xt, .string ⟨#[]⟩, kv, .slice none 0 0] 33 := (hb.block be hb2).trans ((ho.block be hbl hbp).trans eB)
              have vA : Blk w6 w.heap.size #[.int .i64 xk, .int .i64 xn, .string xt, .slice (some ⟨g, off, none⟩) nk ck] 26 := (hb.block _ hv2).trans ((ho.block _ hvw hvp).trans vB)
              have rA : Blk w6 (w.heap.size + 1) #[.int .i64 0, .int .i64 0, .string ⟨#[]⟩, .string ⟨#[]⟩, .slice none 0 0, .slice none 0 0] 33 := (hb.block _ (by omega)).trans ((ho.block _ hrw HM.out).trans rB)
              refine ⟨v6, acc ++ [y2], eA.same rfl, ?_, by rw [List.length_append, hal]; rfl, ?_, (hc.low (hb.mono (by omega))).low (bs.mono (by omega)), ((hO.trans ho).under (by omega) hb).under (by omega) bs, vA.other hnb, rA.other (by show _ ≠ be; omega)⟩
              · rw [s7]; exact hg.off (OEr.keeps (m + 1)) Off.setCell hb2
              · have e1 : (acc ++ [y2]).length = acc.length + 1 := by simp
                have e2 : ((acc ++ [y2]).map (ndE (m + 1))).sum = (acc.map (ndE (m + 1))).sum + ndE (m + 1) y2 := by simp
                rw [e1, e2, Nat.add_mul, Nat.one_mul]
                generalize 2 ^ (m + 1) = P at hsm hy ⊢
                generalize acc.length * P = Z at hsm ⊢
                omega
            clear hC hO hG hal hsm vB rB eB hat hcs hcl4 hyV hgO HI
            go_wp2_with fail
            refine wp_region_noPanic ?_
            refine wp_region_held_drew (S := (fun w' => w'.cell? ⟨w.heap.size, 3, none⟩ = some (.slice (some ⟨g, off, none⟩) nk ck) ∧ w'.cell? ⟨g, off + i * 4, none⟩ = some (.int .i64 yk) ∧ w'.cell? ⟨g, off + i * 4 + 1, none⟩ = some (.int .i64 yn) ∧ w'.cell? ⟨g, off + i * 4 + 2, none⟩ = some (.string yt) ∧ w'.cell? ⟨g, off + i * 4 + 3, none⟩ = some (.slice yp ym yc))) (by kernel_rfl) (CEL.out _ Off.drew) (fun hHeld => ?_)
            refine tkH 0 (oi := ⟨some 43, .fieldAddr 33 (.tmp 5) 4, 0, "l03_value.go:249", #[], none⟩) (v := ?_) rfl rfl ?_ (by assumption) ?_
            rotate_left 1
            · intro w hSw
              try dsimp only at hSw
              go_simp
              try with_reducible rfl
            try simp only [sqP]
            refine tkH 2 (oi := ⟨some 45, .move (.tmp 0), 51, "l03_value.go:249", #[], none⟩) (v := ?_) rfl rfl ?_ (by assumption) ?_
            rotate_left 1
            · intro w hSw
              try dsimp only at hSw
              go_simp
              try with_reducible rfl
            try simp only [sqP]
            refine tkH 3 (oi := ⟨some 46, .fieldAddr 26 (.tmp 3) 3, 0, "l03_value.go:249", #[], none⟩) (v := ?_) rfl rfl ?_ (by assumption) ?_
            rotate_left 1
            · intro w hSw
              try dsimp only at hSw
              go_simp
              try with_reducible rfl
            try simp only [sqP]
            refine tkH 4 (oi := ⟨some 47, .load 24 (.tmp 46), 24, "l03_value.go:249", #[⟨3, .data⟩], none⟩) (v := ?_) rfl rfl ?_ (by assumption) ?_
            rotate_left 1
            · intro w hSw
              try dsimp only at hSw
              go_simp
              try with_reducible rfl
            try simp only [sqP]
            refine tkH 5 (oi := ⟨some 48, .move (.tmp 6), 3, "l03_value.go:249", #[], none⟩) (v := ?_) rfl rfl ?_ (by assumption) ?_
            rotate_left 1
            · intro w hSw
              try dsimp only at hSw
              go_simp
              try with_reducible rfl
            try simp only [sqP]
            refine tkH 6 (oi := ⟨some 49, .indexAddr 24 (.tmp 47) (.tmp 48), 0, "l03_value.go:249", #[⟨4, .data⟩, ⟨5, .data⟩], none⟩) (v := ?_) rfl rfl ?_ (by assumption) ?_
            rotate_left 1
            · intro w hSw
              try dsimp only at hSw
              go_simp
              try with_reducible rfl
            try simp only [sqP]
            refine tkH 7 (oi := ⟨some 50, .load 26 (.tmp 49), 26, "l03_value.go:249", #[⟨6, .data⟩], none⟩) (v := ?_) rfl rfl ?_ (by assumption) ?_
            rotate_left 1
            · intro w hSw
              try dsimp only at hSw
              go_simp
              try with_reducible rfl
            try simp only [sqP]
            refine twoH 1 8 (o := ⟨some 44, .load 30 (.tmp 43), 30, "l03_value.go:249", #[⟨0, .data⟩], none⟩) (o' := ⟨some 51, .call ⟨.value (.func 33), #[.tmp 45, .tmp 50], #[51, 26]⟩, 33, "l03_value.go:249", #[⟨2, .data⟩, ⟨7, .data⟩], none⟩) rfl rfl (fun K hK => ?_) (fun K hK => ?_)
            · go_simp
              refine hK.out _ _ (CEL.out _ Off.drew) (fun hHeld => ?_)
              clear hK K
              try simp only [sqP]
              refine oneH 8 (o := ⟨some 51, .call ⟨.value (.func 33), #[.tmp 45, .tmp 50], #[51, 26]⟩, 33, "l03_value.go:249", #[⟨2, .data⟩, ⟨7, .data⟩], none⟩) rfl (fun K hK => ?_)
              go_simp
              go_at_call 33
              refine PB.out.mono ?_
              rintro e w3 ⟨pk2, pm2, pt2, ps2, pp2, pn2, pq2, y2, rfl, hT3, hC3, hO3⟩
              have O3 : Hid (Off [p] wr w3) := ⟨hO3.os, hO3.tape, hO3.output, hO3.size, hO3.block⟩
              have C3 : Hid (Cur w3 p) := hC3
              have T3 : Hid (PtT w3 wr.heap.size m [.int .i64 pk2, .int .i64 pm2, .string pt2, .string ps2, .slice pp2 pn2 pq2, .slice none 0 0] y2) := hT3
              have O3a : Hid (Off [p] wr (w3.alloc (.cells #[.int .i64 pk2, .int .i64 pm2, .string pt2, .string ps2, .slice pp2 pn2 pq2, .slice none 0 0] 33))) := O3.out.trans (Off.of_below ((Below.refl _ _).alloc (Nat.le_refl _) _))
              have k4 : w3.cell? ⟨be, 4, none⟩ = some kv := (World.cell?_of_block (O3.out.block be hbl hbp)).trans x4
              have j4 : (w3.alloc (.cells #[.int .i64 pk2, .int .i64 pm2, .string pt2, .string ps2, .slice pp2 pn2 pq2, .slice none 0 0] 33)).cell? ⟨be, 4, none⟩ = some kv := (World.cell?_of_block (O3a.out.block be hbl hbp)).trans x4
              clear hT3 hC3 hO3
              refine hK.out _ _ (CEL.out _ O3.out) (fun hHeld => ?_)
              clear hK K
              try simp only [sqP]
              refine oneH 9 (o := ⟨some 52, .buildSlice 30 1 #[(0, .tmp 51)], 30, "l03_value.go:249", #[⟨8, .data⟩], none⟩) rfl (fun K hK => ?_)
              go_simp
              refine hK.out _ _ (CEL.out _ O3a.out) (fun hHeld => ?_)
              clear hK K
              try simp only [sqP]
              refine oneH 10 (o := ⟨some 53, .call ⟨.builtin .append, #[.tmp 44, .tmp 52], #[30, 30]⟩, 30, "l03_value.go:249", #[⟨1, .data⟩, ⟨9, .data⟩, ⟨8, .chain⟩], none⟩) rfl (fun K hK => ?_)
              refine step_push (OEr.keeps (m + 1)) 30 33 6 96 _ (by rfl) _ _ (by rfl) Tryz.underlying30 info_expD rfl (by decide) (by decide) w2.heap.size wr.heap.size kv acc (by rfl) [.int .i64 pk2, .int .i64 pm2, .string pt2, .string ps2, .slice pp2 pn2 pq2, .slice none 0 0] w3.heap.size (by rfl) (by rfl) y2 (inR wr.heap.size w3.heap.size) (HG.out.off (OEr.keeps (m + 1)) O3.out HPB.out) (HEx.mono ⟨Nat.le_refl _, fun _ _ _ => rfl⟩ (fun g hg => inR_mem.2 hg) (HEx.lowT T3.out.1)) (inR_nodup _ _) (fun a ha => inR_mem.1 ha) rfl exp_oneD (by have := HAL.out; omega) ?_
              intro g6 cap6 w6 hg6 hb6
              have G6 : Hid (GrowO 33 6 (OEr (m + 1)) w6 w2.heap.size w6.heap.size (.slice (some ⟨g6, 0, none⟩) (acc.length + 1) cap6) (acc ++ [y2])) := hg6
              have B6 : Hid (Below w2.heap.size (w3.alloc (.cells #[.int .i64 pk2, .int .i64 pm2, .string pt2, .string ps2, .slice pp2 pn2 pq2, .slice none 0 0] 33)) w6) := hb6
              have n4 : w6.cell? ⟨be, 4, none⟩ = some kv := (hb6.cell (p := ⟨be, 4, none⟩) hb2).trans j4
              have nf4 : w6.frozen? ⟨be, 4, none⟩ = false := (World.frozen?_of_block (hb6.block be hb2)).trans ((World.frozen?_of_block (O3a.out.block be hbl hbp)).trans xf4)
              have C6 := CE6.out _ w6 O3a.out hb6
              clear hg6 hb6
              refine hK.out _ _ (C6) (fun hHeld => ?_)
              clear hK K
              try simp only [sqP]
              refine tkH 11 (oi := ⟨some 54, .fieldAddr 33 (.tmp 5) 4, 0, "l03_value.go:249", #[⟨0, .phase⟩, ⟨1, .phase⟩, ⟨2, .phase⟩, ⟨3, .phase⟩, ⟨4, .phase⟩, ⟨5, .phase⟩, ⟨6, .phase⟩, ⟨7, .phase⟩, ⟨8, .phase⟩, ⟨9, .phase⟩, ⟨10, .phase⟩], none⟩) (v := ?_) rfl rfl ?_ (by assumption) ?_
              rotate_left 1
              · intro w hSw
                try dsimp only at hSw
                go_simp
                try with_reducible rfl
              try simp only [sqP]
              refine oneH 12 (o := ⟨none, .store 30 (.tmp 54) (.tmp 53), 0, "l03_value.go:249", #[⟨11, .data⟩, ⟨10, .data⟩, ⟨10, .chain⟩, ⟨0, .phase⟩, ⟨1, .phase⟩, ⟨2, .phase⟩, ⟨3, .phase⟩, ⟨4, .phase⟩, ⟨5, .phase⟩, ⟨6, .phase⟩, ⟨7, .phase⟩, ⟨8, .phase⟩, ⟨9, .phase⟩, ⟨10, .phase⟩], none⟩) rfl (fun K hK => ?_)
              go_simp
              refine hK.out _ _ (CE7.out w6 _ C6) (fun hHeld => ?_)
              clear hK K
              try simp only [sqP]
              refine wpAnyH_done (by kernel_rfl) ?_ _
              refine NoPanic.normal ?_
              have FX := FIN.out _ w6 (.slice (some ⟨g6, 0, none⟩) (acc.length + 1) cap6) y2 O3a.out (C3.out.alloc _) T3.out.2 B6.out G6.out
              generalize w6.setCell ⟨be, 4, none⟩ (.slice (some ⟨g6, 0, none⟩) (acc.length + 1) cap6) = W7 at FX ⊢
              clear n4 nf4 k4 j4 x4 xf4 a0 a1 a2 a3 v3 hHeld C6
              go_wp2_with fail
              exact ⟨⟨i + 1, by omega, by go_num, FX⟩, by simp [intOf]; omega⟩
            · go_simp
              go_at_call 33
              refine PB.out.mono ?_
              rintro e w3 ⟨pk2, pm2, pt2, ps2, pp2, pn2, pq2, y2, rfl, hT3, hC3, hO3⟩
              have O3 : Hid (Off [p] wr w3) := ⟨hO3.os, hO3.tape, hO3.output, hO3.size, hO3.block⟩
              have C3 : Hid (Cur w3 p) := hC3
              have T3 : Hid (PtT w3 wr.heap.size m [.int .i64 pk2, .int .i64 pm2, .string pt2, .string ps2, .slice pp2 pn2 pq2, .slice none 0 0] y2) := hT3
              have O3a : Hid (Off [p] wr (w3.alloc (.cells #[.int .i64 pk2, .int .i64 pm2, .string pt2, .string ps2, .slice pp2 pn2 pq2, .slice none 0 0] 33))) := O3.out.trans (Off.of_below ((Below.refl _ _).alloc (Nat.le_refl _) _))
              have k4 : w3.cell? ⟨be, 4, none⟩ = some kv := (World.cell?_of_block (O3.out.block be hbl hbp)).trans x4
              have j4 : (w3.alloc (.cells #[.int .i64 pk2, .int .i64 pm2, .string pt2, .string ps2, .slice pp2 pn2 pq2, .slice none 0 0] 33)).cell? ⟨be, 4, none⟩ = some kv := (World.cell?_of_block (O3a.out.block be hbl hbp)).trans x4
              clear hT3 hC3 hO3
              refine hK.out _ _ (CEL.out _ O3.out) (fun hHeld => ?_)
              clear hK K
              try simp only [sqP]
              refine twoH 1 9 (o := ⟨some 44, .load 30 (.tmp 43), 30, "l03_value.go:249", #[⟨0, .data⟩], none⟩) (o' := ⟨some 52, .buildSlice 30 1 #[(0, .tmp 51)], 30, "l03_value.go:249", #[⟨8, .data⟩], none⟩) rfl rfl (fun K hK => ?_) (fun K hK => ?_)
              · go_simp
                refine hK.out _ _ (CEL.out _ O3.out) (fun hHeld => ?_)
                clear hK K
                try simp only [sqP]
                refine oneH 9 (o := ⟨some 52, .buildSlice 30 1 #[(0, .tmp 51)], 30, "l03_value.go:249", #[⟨8, .data⟩], none⟩) rfl (fun K hK => ?_)
                go_simp
                refine hK.out _ _ (CEL.out _ O3a.out) (fun hHeld => ?_)
                clear hK K
                try simp only [sqP]
                refine oneH 10 (o := ⟨some 53, .call ⟨.builtin .append, #[.tmp 44, .tmp 52], #[30, 30]⟩, 30, "l03_value.go:249", #[⟨1, .data⟩, ⟨9, .data⟩, ⟨8, .chain⟩], none⟩) rfl (fun K hK => ?_)
                refine step_push (OEr.keeps (m + 1)) 30 33 6 96 _ (by rfl) _ _ (by rfl) Tryz.underlying30 info_expD rfl (by decide) (by decide) w2.heap.size wr.heap.size kv acc (by rfl) [.int .i64 pk2, .int .i64 pm2, .string pt2, .string ps2, .slice pp2 pn2 pq2, .slice none 0 0] w3.heap.size (by rfl) (by rfl) y2 (inR wr.heap.size w3.heap.size) (HG.out.off (OEr.keeps (m + 1)) O3.out HPB.out) (HEx.mono ⟨Nat.le_refl _, fun _ _ _ => rfl⟩ (fun g hg => inR_mem.2 hg) (HEx.lowT T3.out.1)) (inR_nodup _ _) (fun a ha => inR_mem.1 ha) rfl exp_oneD (by have := HAL.out; omega) ?_
                intro g6 cap6 w6 hg6 hb6
                have G6 : Hid (GrowO 33 6 (OEr (m + 1)) w6 w2.heap.size w6.heap.size (.slice (some ⟨g6, 0, none⟩) (acc.length + 1) cap6) (acc ++ [y2])) := hg6
                have B6 : Hid (Below w2.heap.size (w3.alloc (.cells #[.int .i64 pk2, .int .i64 pm2, .string pt2, .string ps2, .slice pp2 pn2 pq2, .slice none 0 0] 33)) w6) := hb6
                have n4 : w6.cell? ⟨be, 4, none⟩ = some kv := (hb6.cell (p := ⟨be, 4, none⟩) hb2).trans j4
                have nf4 : w6.frozen? ⟨be, 4, none⟩ = false := (World.frozen?_of_block (hb6.block be hb2)).trans ((World.frozen?_of_block (O3a.out.block be hbl hbp)).trans xf4)
                have C6 := CE6.out _ w6 O3a.out hb6
                clear hg6 hb6
                refine hK.out _ _ (C6) (fun hHeld => ?_)
                clear hK K
                try simp only [sqP]
                refine tkH 11 (oi := ⟨some 54, .fieldAddr 33 (.tmp 5) 4, 0, "l03_value.go:249", #[⟨0, .phase⟩, ⟨1, .phase⟩, ⟨2, .phase⟩, ⟨3, .phase⟩, ⟨4, .phase⟩, ⟨5, .phase⟩, ⟨6, .phase⟩, ⟨7, .phase⟩, ⟨8, .phase⟩, ⟨9, .phase⟩, ⟨10, .phase⟩], none⟩) (v := ?_) rfl rfl ?_ (by assumption) ?_
                rotate_left 1
                · intro w hSw
                  try dsimp only at hSw
                  go_simp
                  try with_reducible rfl
                try simp only [sqP]
                refine oneH 12 (o := ⟨none, .store 30 (.tmp 54) (.tmp 53), 0, "l03_value.go:249", #[⟨11, .data⟩, ⟨10, .data⟩, ⟨10, .chain⟩, ⟨0, .phase⟩, ⟨1, .phase⟩, ⟨2, .phase⟩, ⟨3, .phase⟩, ⟨4, .phase⟩, ⟨5, .phase⟩, ⟨6, .phase⟩, ⟨7, .phase⟩, ⟨8, .phase⟩, ⟨9, .phase⟩, ⟨10, .phase⟩], none⟩) rfl (fun K hK => ?_)
                go_simp
                refine hK.out _ _ (CE7.out w6 _ C6) (fun hHeld => ?_)
                clear hK K
                try simp only [sqP]
                refine wpAnyH_done (by kernel_rfl) ?_ _
                refine NoPanic.normal ?_
                have FX := FIN.out _ w6 (.slice (some ⟨g6, 0, none⟩) (acc.length + 1) cap6) y2 O3a.out (C3.out.alloc _) T3.out.2 B6.out G6.out
                generalize w6.setCell ⟨be, 4, none⟩ (.slice (some ⟨g6, 0, none⟩) (acc.length + 1) cap6) = W7 at FX ⊢
                clear n4 nf4 k4 j4 x4 xf4 a0 a1 a2 a3 v3 hHeld C6
                go_wp2_with fail
                exact ⟨⟨i + 1, by omega, by go_num, FX⟩, by simp [intOf]; omega⟩
              · go_simp
                refine hK.out _ _ (CEL.out _ O3a.out) (fun hHeld => ?_)
                clear hK K
                try simp only [sqP]
                refine oneH 1 (o := ⟨some 44, .load 30 (.tmp 43), 30, "l03_value.go:249", #[⟨0, .data⟩], none⟩) rfl (fun K hK => ?_)
                go_simp
                refine hK.out _ _ (CEL.out _ O3a.out) (fun hHeld => ?_)
                clear hK K
                try simp only [sqP]
                refine oneH 10 (o := ⟨some 53, .call ⟨.builtin .append, #[.tmp 44, .tmp 52], #[30, 30]⟩, 30, "l03_value.go:249", #[⟨1, .data⟩, ⟨9, .data⟩, ⟨8, .chain⟩], none⟩) rfl (fun K hK => ?_)
                refine step_push (OEr.keeps (m + 1)) 30 33 6 96 _ (by rfl) _ _ (by rfl) Tryz.underlying30 info_expD rfl (by decide) (by decide) w2.heap.size wr.heap.size kv acc (by rfl) [.int .i64 pk2, .int .i64 pm2, .string pt2, .string ps2, .slice pp2 pn2 pq2, .slice none 0 0] w3.heap.size (by rfl) (by rfl) y2 (inR wr.heap.size w3.heap.size) (HG.out.off (OEr.keeps (m + 1)) O3.out HPB.out) (HEx.mono ⟨Nat.le_refl _, fun _ _ _ => rfl⟩ (fun g hg => inR_mem.2 hg) (HEx.lowT T3.out.1)) (inR_nodup _ _) (fun a ha => inR_mem.1 ha) rfl exp_oneD (by have := HAL.out; omega) ?_
                intro g6 cap6 w6 hg6 hb6
                have G6 : Hid (GrowO 33 6 (OEr (m + 1)) w6 w2.heap.size w6.heap.size (.slice (some ⟨g6, 0, none⟩) (acc.length + 1) cap6) (acc ++ [y2])) := hg6
                have B6 : Hid (Below w2.heap.size (w3.alloc (.cells #[.int .i64 pk2, .int .i64 pm2, .string pt2, .string ps2, .slice pp2 pn2 pq2, .slice none 0 0] 33)) w6) := hb6
                have n4 : w6.cell? ⟨be, 4, none⟩ = some kv := (hb6.cell (p := ⟨be, 4, none⟩) hb2).trans j4
                have nf4 : w6.frozen? ⟨be, 4, none⟩ = false := (World.frozen?_of_block (hb6.block be hb2)).trans ((World.frozen?_of_block (O3a.out.block be hbl hbp)).trans xf4)
                have C6 := CE6.out _ w6 O3a.out hb6
                clear hg6 hb6
                refine hK.out _ _ (C6) (fun hHeld => ?_)
                clear hK K
                try simp only [sqP]
                refine tkH 11 (oi := ⟨some 54, .fieldAddr 33 (.tmp 5) 4, 0, "l03_value.go:249", #[⟨0, .phase⟩, ⟨1, .phase⟩, ⟨2, .phase⟩, ⟨3, .phase⟩, ⟨4, .phase⟩, ⟨5, .phase⟩, ⟨6, .phase⟩, ⟨7, .phase⟩, ⟨8, .phase⟩, ⟨9, .phase⟩, ⟨10, .phase⟩], none⟩) (v := ?_) rfl rfl ?_ (by assumption) ?_
                rotate_left 1
                · intro w hSw
                  try dsimp only at hSw
                  go_simp
                  try with_reducible rfl
                try simp only [sqP]
                refine oneH 12 (o := ⟨none, .store 30 (.tmp 54) (.tmp 53), 0, "l03_value.go:249", #[⟨11, .data⟩, ⟨10, .data⟩, ⟨10, .chain⟩, ⟨0, .phase⟩, ⟨1, .phase⟩, ⟨2, .phase⟩, ⟨3, .phase⟩, ⟨4, .phase⟩, ⟨5, .phase⟩, ⟨6, .phase⟩, ⟨7, .phase⟩, ⟨8, .phase⟩, ⟨9, .phase⟩, ⟨10, .phase⟩], none⟩) rfl (fun K hK => ?_)
                go_simp
                refine hK.out _ _ (CE7.out w6 _ C6) (fun hHeld => ?_)
                clear hK K
                try simp only [sqP]
                refine wpAnyH_done (by kernel_rfl) ?_ _
                refine NoPanic.normal ?_
                have FX := FIN.out _ w6 (.slice (some ⟨g6, 0, none⟩) (acc.length + 1) cap6) y2 O3a.out (C3.out.alloc _) T3.out.2 B6.out G6.out
                generalize w6.setCell ⟨be, 4, none⟩ (.slice (some ⟨g6, 0, none⟩) (acc.length + 1) cap6) = W7 at FX ⊢
                clear n4 nf4 k4 j4 x4 xf4 a0 a1 a2 a3 v3 hHeld C6
                go_wp2_with fail
                exact ⟨⟨i + 1, by omega, by go_num, FX⟩, by simp [intOf]; omega⟩
          · obtain ⟨p4, c4, hkv, -, -⟩ := hG.shape
            rw [hal] at hkv
            subst hkv
            have hii : i = nk := by omega
            subst hii
            have TT : Hid (PtT wr (w.heap.size + 2) n [.int .i64 K, .int .i64 xn, .string xt, .string ⟨#[]⟩, .slice p4 i c4, .slice none 0 0] (.mk K xn xt ⟨#[]⟩ acc [])) := by
              refine ⟨⟨_, _, rfl, HO.out, HX.out.1, HX.out.2, Nat.zero_le _, (OEr.rows hG).mono ⟨Nat.le_refl _, fun _ _ _ => rfl⟩ (fun g hg => by have := HSZ.out; show _ ≤ g; have : w2.heap.size ≤ g := hg; omega) (fun _ _ _ h => h.mono ⟨Nat.le_refl _, fun _ _ _ => rfl⟩ (fun g hg => by have := HSZ.out; show _ ≤ g; have : w2.heap.size ≤ g := hg; omega)), Rows.nil (Nat.zero_le _)⟩, ?_⟩
              show 1 + (acc.map (ndE n)).sum + 1 ≤ 2 ^ (n + 1)
              have h2 : acc.length ≤ 2 := by rw [hal]; exact HK.out.2.1
              have h3 := pow_ge n
              rw [Nat.pow_succ]
              generalize 2 ^ n = P at hsm h3 ⊢
              rcases (by omega : acc.length = 0 ∨ acc.length = 1 ∨ acc.length = 2) with h | h | h <;> rw [h] at hsm <;> omega
            have C4 : Hid (Cur wr p) := hC
            have O4 : Hid (Off [p] w wr) := hO
            have g0 := eB.cell 0 _ rfl
            have g1 := eB.cell 1 _ rfl
            have g2 := eB.cell 2 _ rfl
            have g3 := eB.cell 3 _ rfl
            have g4 := eB.cell 4 _ rfl
            have g5 := eB.cell 5 _ rfl
            have q0 := rB.cell 0 _ rfl
            have q1 := rB.cell 1 _ rfl
            have q2 := rB.cell 2 _ rfl
            have q3 := rB.cell 3 _ rfl
            have q4 := rB.cell 4 _ rfl
            have q5 := rB.cell 5 _ rfl
            have f0 := rB.frozen 0
            have f1 := rB.frozen 1
            have f2 := rB.frozen 2
            have f3 := rB.frozen 3
            have f4 := rB.frozen 4
            have f5 := rB.frozen 5
            clear hG hC hO hsm eB vB rB HI hal
            go_wp2_with fail
            obtain ⟨d1, d2, d3⟩ := pt_end C4.out O4.out HP.out TT.out
            exact bodyPost_ret (v := .agg #[.int .i64 K, .int .i64 xn, .string xt, .string ⟨#[]⟩, .slice p4 i c4, .slice none 0 0]) (by simp [results, Tryz.results33, go_sem, q0, q1, q2, q3, q4, q5]) rfl ⟨_, _, _, _, _, _, _, _, rfl, d1, d2, d3⟩
      | _ => exact hp.elim

theorem l03Pat_all : ∀ n, n ≤ 10 → PatC n
  | 0, h => l03Pat_of h (fun m hm => by omega)
  | n + 1, h => l03Pat_of h (fun m hm => by
    have e : n = m := by omega
    subst e
    exact l03Pat_all n (by omega))
end Go.Proofs.YtmnghlkkfkpjhaaGreatDoor
