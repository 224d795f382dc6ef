/-
  The walk of FnExactVars: it answers true, and nothing that was there has turned. No conditions but the program's contract, which is handed in.
-/
import Derived.Test.YtgmcjmmdhfbfpaaSizeEx
import Derived.Test.YtgmcjmmdhfbfpaaEqEx
import Derived.Test.YtgmcjmmdhfbfpaaExMark
import Derived.Test.YtgmcjmmdhfbfpaaOwnStr
import Derived.Test.YtgmcjmmdhfbfpaaNameSpecB
import Derived.Deep.RegionHeld3
namespace Go.Proofs.Ytgmcjmmdhfbfpaa
open Go.ChangeShapes Go.WideShapes Go.ChangeAt Go.RowKit
set_option linter.unusedVariables false
set_option maxRecDepth 100000

theorem cntE_le : ∀ (d : Nat) (x : Ex), cntE d x ≤ 4 + 5 * wtEx d x
  | 0, _ => by simp [cntE]
  | d + 1, .mk k n t m ks cs => by
    have hS : ∀ (l : List Ex), (l.map (cntE d)).sum ≤ 5 * wtS (wtEx d) l := by
      intro l
      induction l with
      | nil => simp
      | cons y ys ih =>
        have h1 := cntE_le d y
        have h2 : wtS (wtEx d) (y :: ys) = 1 + wtEx d y + wtS (wtEx d) ys := by simp [wtS]; omega
        simp only [List.map_cons, List.sum_cons]; omega
    have hC : ∀ (l : List Cl), (l.map (cntC (cntE d))).sum ≤ 5 * wtS (wtCl (wtEx d)) l := by
      intro l
      induction l with
      | nil => simp
      | cons y ys ih =>
        have h1 := hS y.1
        have h3 := hS y.2
        have h4 : wtCl (wtEx d) y = wtS (wtEx d) y.1 + wtS (wtEx d) y.2 := rfl
        have h5 : cntC (cntE d) y = (y.1.map (cntE d)).sum + (y.2.map (cntE d)).sum := rfl
        have h2 : wtS (wtCl (wtEx d)) (y :: ys) = 1 + wtCl (wtEx d) y + wtS (wtCl (wtEx d)) ys := by simp [wtS]; omega
        simp only [List.map_cons, List.sum_cons]; omega
    have h1 := hS ks
    have h2 := hC cs
    have hw : wtEx (d + 1) (.mk k n t m ks cs) = t.size + m.size + wtS (wtEx d) ks + wtS (wtCl (wtEx d)) cs := rfl
    have hc : cntE (d + 1) (.mk k n t m ks cs) = 4 + (ks.map (cntE d)).sum + (cs.map (cntC (cntE d))).sum := rfl
    rw [hc, hw]; omega
theorem OwnS.offF {w w' : World} {B : Nat} {v : Value} {l : List ByteArray} {fp : List Nat} (h : OwnS w B v l) (ho : Off fp w w') (hne : ∀ g, v.ownBlock = some g → g ∉ fp) : OwnS w' B v l := by
  refine ⟨⟨h.1.1, ?_⟩, Nat.le_trans h.2 ho.size⟩
  rcases h.1.2 with hn | ⟨g, cap, cur, hv, hB, hg, hr⟩
  · exact .inl hn
  · exact .inr ⟨g, cap, cur, hv, hB, (ho.block g (Array.getElem?_eq_some_iff.1 hg).1 (hne g (by rw [hv]; rfl))).trans hg, hr⟩
theorem OwnS.belowF {w w' : World} {B N : Nat} {v : Value} {l : List ByteArray} (h : OwnS w B v l) (ho : Below N w w') (hne : ∀ g, v.ownBlock = some g → g < N) : OwnS w' B v l := by
  refine ⟨⟨h.1.1, ?_⟩, Nat.le_trans h.2 ho.size⟩
  rcases h.1.2 with hn | ⟨g, cap, cur, hv, hB, hg, hr⟩
  · exact .inl hn
  · exact .inr ⟨g, cap, cur, hv, hB, (ho.block g (hne g (by rw [hv]; rfl))).trans hg, hr⟩

set_option maxHeartbeats 8000000 in
theorem fnExactVars_walk (w : World) (d : Nat) (cs : List Value) (x : Ex) (LF : List ByteArray) (h : HEx w (fun g => g < w.heap.size) (d + 1) cs x) (hLF : wtEx (d + 1) x ≤ 1048576 → LF.length ≤ 2097152)
    (hS : ∀ w cs, HEx w All (d + 1) cs x → wtEx (d + 1) x ≤ 1048576 → Calls Try.prog 5 #[.agg cs.toArray] w fun e w' => ∃ u, e = .returned u ∧ OwnS w' w.heap.size u LF ∧ Below w.heap.size w w')
    (hI : ∀ w cs, HEx w All (d + 1) cs x → wtEx (d + 1) x ≤ 1048576 → Calls Try.prog 7 #[.agg cs.toArray] w fun e w' => ∃ u, e = .returned u ∧ OwnS w' w.heap.size u LF ∧ Below w.heap.size w w') :
    Calls Try.prog 3 #[.agg cs.toArray] w fun e w' => e = .returned (.bool true) ∧ Below w.heap.size w w' := by
  have H0 : Hid (∀ w', Below w.heap.size w w' → HEx w' All (d + 1) cs x) := fun w' hb => h.mono ⟨hb.size, fun g hg hl => hb.block g hg⟩ (fun _ _ => trivial)
  have HZ : Hid (HEx w (fun g => g < w.heap.size) (d + 1) cs x) := h
  have HSp : Hid (∀ w cs, HEx w All (d + 1) cs x → wtEx (d + 1) x ≤ 1048576 → Calls Try.prog 5 #[.agg cs.toArray] w fun e w' => ∃ u, e = .returned u ∧ OwnS w' w.heap.size u LF ∧ Below w.heap.size w w') := hS
  have HIm : Hid (∀ w cs, HEx w All (d + 1) cs x → wtEx (d + 1) x ≤ 1048576 → Calls Try.prog 7 #[.agg cs.toArray] w fun e w' => ∃ u, e = .returned u ∧ OwnS w' w.heap.size u LF ∧ Below w.heap.size w w') := hI
  clear hS hI
  obtain ⟨kv, cv, rfl, -, -, -, -, f0, f1⟩ := h
  obtain ⟨p, cap, rfl, -⟩ := f0
  obtain ⟨pc, capc, rfl, -⟩ := f1
  have BA : Hid (Below w.heap.size w (w.alloc (.cells #[.int .i64 x.kind, .int .i64 x.n, .string x.text, .string x.mod, .slice p x.kids.length cap, .slice pc x.clauses.length capc] 25))) := (Below.refl _ _).alloc (Nat.le_refl _) _
  have bA : Hid (Blk (w.alloc (.cells #[.int .i64 x.kind, .int .i64 x.n, .string x.text, .string x.mod, .slice p x.kids.length cap, .slice pc x.clauses.length capc] 25)) w.heap.size #[.int .i64 x.kind, .int .i64 x.n, .string x.text, .string x.mod, .slice p x.kids.length cap, .slice pc x.clauses.length capc] 25) := Blk.new
  have ZA : Hid (HEx (w.alloc (.cells #[.int .i64 x.kind, .int .i64 x.n, .string x.text, .string x.mod, .slice p x.kids.length cap, .slice pc x.clauses.length capc] 25)) (fun g => g < w.heap.size) (d + 1) [.int .i64 x.kind, .int .i64 x.n, .string x.text, .string x.mod, .slice p x.kids.length cap, .slice pc x.clauses.length capc] x) := HZ.out.mono ⟨BA.out.size, fun g hg hl => BA.out.block g hg⟩ (fun _ h => h)
  by_cases hw : wtEx (d + 1) x ≤ 1048576
  · have hr0 : leftOf 1048576 (wtEx (d + 1) x) = ((1048576 - wtEx (d + 1) x : Nat) : Int) := leftOf_ge hw
    have hl := hLF hw
    go_enter Try.func3, Try.ntmps3
    go_wp2_with fail
    refine ((szExp_all (N := w.heap.size) (d + 1)).at x _ 1048576 (by omega) ⟨_, rfl, ZA.out⟩ (by omega)).mono ?_
    rintro e w1 ⟨rfl, hb1⟩
    rw [hr0]
    have B1 : Hid (Below w.heap.size w w1) := BA.out.trans (hb1.mono BA.out.size)
    have b1 : Hid (Blk w1 w.heap.size #[.int .i64 x.kind, .int .i64 x.n, .string x.text, .string x.mod, .slice p x.kids.length cap, .slice pc x.clauses.length capc] 25) := bA.out.next hb1
    clear hb1 hr0 ZA BA bA
    have HC := cntE_le (d + 1) x
    have HWT : Hid (wtEx (d + 1) x ≤ 1048576) := hw
    generalize hwt : wtEx (d + 1) x = wt at hw HC ⊢

    clear hwt
    have y0 := b1.out.cell 0 _ rfl
    have y1 := b1.out.cell 1 _ rfl
    have y2 := b1.out.cell 2 _ rfl
    have y3 := b1.out.cell 3 _ rfl
    have y4 := b1.out.cell 4 _ rfl
    have y5 := b1.out.cell 5 _ rfl
    go_wp2_with fail
    refine (toExp_own (d + 1) _ _ x ⟨_, rfl, H0.out _ B1.out⟩ HWT.out).mono ?_
    rintro e w2 ⟨u, fpa, rfl, ⟨csa, rfl, ox⟩, nda, rga, hb⟩
    obtain ⟨ska, sna, sta, sea, p1a, n1a, q1a, p2a, n2a, q2a, rfl⟩ := ox.shape
    have OXa : Hid (OEx w2 (d + 1) [.int .i64 ska, .int .i64 sna, .string sta, .string sea, .slice p1a n1a q1a, .slice p2a n2a q2a] x fpa) := ox
    have RGa : Hid (fpa.Nodup ∧ ∀ a ∈ fpa, w1.heap.size ≤ a ∧ a < w2.heap.size) := ⟨nda, rga⟩
    have K2 : Hid (Below w1.heap.size w1 w2) := hb
    have B2 : Hid (Below w.heap.size w w2) := B1.out.trans (hb.mono B1.out.size)
    have b2 : Hid (Blk w2 w.heap.size #[.int .i64 x.kind, .int .i64 x.n, .string x.text, .string x.mod, .slice p x.kids.length cap, .slice pc x.clauses.length capc] 25) := b1.out.next hb
    clear hb ox nda rga y0 y1 y2 y3 y4 y5
    go_wp2_with fail
    refine (HSp.out _ _ (OXa.out.tree (fun _ _ => trivial)) HWT.out).mono ?_
    rintro e w3 ⟨uw, rfl, ho, hb⟩
    have Ouw : Hid (OwnS w3 w2.heap.size uw LF) := ho
    have K3 : Hid (Below w2.heap.size w2 w3) := hb
    have B3 : Hid (Below w.heap.size w w3) := B2.out.trans (hb.mono B2.out.size)
    have b3 : Hid (Blk w3 w.heap.size #[.int .i64 x.kind, .int .i64 x.n, .string x.text, .string x.mod, .slice p x.kids.length cap, .slice pc x.clauses.length capc] 25) := b2.out.next hb
    clear hb ho
    have y0 := b3.out.cell 0 _ rfl
    have y1 := b3.out.cell 1 _ rfl
    have y2 := b3.out.cell 2 _ rfl
    have y3 := b3.out.cell 3 _ rfl
    have y4 := b3.out.cell 4 _ rfl
    have y5 := b3.out.cell 5 _ rfl
    go_wp2_with fail
    refine (toExp_own (d + 1) _ _ x ⟨_, rfl, H0.out _ B3.out⟩ HWT.out).mono ?_
    rintro e w4 ⟨u, fpb, rfl, ⟨csb, rfl, ox⟩, ndb, rgb, hb⟩
    obtain ⟨skb, snb, stb, seb, p1b, n1b, q1b, p2b, n2b, q2b, rfl⟩ := ox.shape
    have OXb : Hid (OEx w4 (d + 1) [.int .i64 skb, .int .i64 snb, .string stb, .string seb, .slice p1b n1b q1b, .slice p2b n2b q2b] x fpb) := ox
    have RGb : Hid (fpb.Nodup ∧ ∀ a ∈ fpb, w3.heap.size ≤ a ∧ a < w4.heap.size) := ⟨ndb, rgb⟩
    have K4 : Hid (Below w3.heap.size w3 w4) := hb
    have B4 : Hid (Below w.heap.size w w4) := B3.out.trans (hb.mono B3.out.size)
    have b4 : Hid (Blk w4 w.heap.size #[.int .i64 x.kind, .int .i64 x.n, .string x.text, .string x.mod, .slice p x.kids.length cap, .slice pc x.clauses.length capc] 25) := b3.out.next hb
    clear hb ox ndb rgb y0 y1 y2 y3 y4 y5
    have Ow4 : Hid (OwnS w4 w2.heap.size uw LF) := Ouw.out.next K4.out
    have KX : Hid (Below w4.heap.size w4 (w4.alloc (.cells #[.int .i64 skb, .int .i64 snb, .string stb, .string seb, .slice p1b n1b q1b, .slice p2b n2b q2b] 32))) := (Below.refl _ _).alloc (Nat.le_refl _) _
    have bX : Hid (Blk (w4.alloc (.cells #[.int .i64 skb, .int .i64 snb, .string stb, .string seb, .slice p1b n1b q1b, .slice p2b n2b q2b] 32)) w4.heap.size #[.int .i64 skb, .int .i64 snb, .string stb, .string seb, .slice p1b n1b q1b, .slice p2b n2b q2b] 32) := Blk.new
    have kX : KeepOn fpb w4 (w4.alloc (.cells #[.int .i64 skb, .int .i64 snb, .string stb, .string seb, .slice p1b n1b q1b, .slice p2b n2b q2b] 32)) := KeepOn.below KX.out (fun a ha => (RGb.out.2 a ha).2)
    have OXx : Hid (OEx (w4.alloc (.cells #[.int .i64 skb, .int .i64 snb, .string stb, .string seb, .slice p1b n1b q1b, .slice p2b n2b q2b] 32)) (d + 1) [.int .i64 skb, .int .i64 snb, .string stb, .string seb, .slice p1b n1b q1b, .slice p2b n2b q2b] x fpb) := OXb.out.keep kX
    have sX : (w4.alloc (.cells #[.int .i64 skb, .int .i64 snb, .string stb, .string seb, .slice p1b n1b q1b, .slice p2b n2b q2b] 32)).heap.size = w4.heap.size + 1 := alloc_hs _ _
    clear kX
    go_wp2_with fail
    refine (HIm.out _ _ (OXx.out.tree (fun _ _ => trivial)) HWT.out).mono ?_
    rintro e w5 ⟨ug, rfl, ho, hb⟩
    have LG : Hid (∀ g, ug.ownBlock = some g → w4.heap.size + 1 ≤ g ∧ g < w5.heap.size) := fun g hg => by have := ho.off hg; rw [sX] at this; exact this
    have Oug : Hid (OwnS w5 w4.heap.size ug LF) := OwnS.base ho (by rw [sX]; omega)
    have K5 : Hid (Below w4.heap.size w4 w5) := KX.out.trans (hb.mono KX.out.size)
    have B5 : Hid (Below w.heap.size w w5) := B4.out.trans (K5.out.mono B4.out.size)
    have b5 : Hid (Blk w5 w.heap.size #[.int .i64 x.kind, .int .i64 x.n, .string x.text, .string x.mod, .slice p x.kids.length cap, .slice pc x.clauses.length capc] 25) := b4.out.next K5.out
    have bx5 : Hid (Blk w5 w4.heap.size #[.int .i64 skb, .int .i64 snb, .string stb, .string seb, .slice p1b n1b q1b, .slice p2b n2b q2b] 32) := bX.out.next hb
    clear hb ho KX bX OXx sX
    have Ow5 : Hid (OwnS w5 w2.heap.size uw LF) := Ow4.out.next K5.out
    have kb5 : KeepOn fpb w4 w5 := KeepOn.below K5.out (fun a ha => (RGb.out.2 a ha).2)
    have OXb5 : Hid (OEx w5 (d + 1) [.int .i64 skb, .int .i64 snb, .string stb, .string seb, .slice p1b n1b q1b, .slice p2b n2b q2b] x fpb) := OXb.out.keep kb5
    have LW : Hid (∀ g, uw.ownBlock = some g → g < w3.heap.size) := fun g hg => (Ouw.out.off hg).2
    clear kb5 Ow4
    go_wp2_with fail
    refine (eqS_own Oug.out Ow5.out (by omega)).mono ?_
    rintro e w6 ⟨rfl, hb⟩
    have K6 : Hid (Below w5.heap.size w5 w6) := hb
    have B6 : Hid (Below w.heap.size w w6) := B5.out.trans (hb.mono B5.out.size)
    have b6 : Hid (Blk w6 w.heap.size #[.int .i64 x.kind, .int .i64 x.n, .string x.text, .string x.mod, .slice p x.kids.length cap, .slice pc x.clauses.length capc] 25) := b5.out.next hb
    clear hb
    have Ow6 : Hid (OwnS w6 w2.heap.size uw LF) := Ow5.out.next K6.out
    have Og6 : Hid (OwnS w6 w4.heap.size ug LF) := Oug.out.next K6.out
    have kb6 : KeepOn fpb w5 w6 := KeepOn.below K6.out (fun a ha => Nat.lt_of_lt_of_le (RGb.out.2 a ha).2 K5.out.size)
    have OXb6 : Hid (OEx w6 (d + 1) [.int .i64 skb, .int .i64 snb, .string stb, .string seb, .slice p1b n1b q1b, .slice p2b n2b q2b] x fpb) := OXb5.out.keep kb6
    have bx6 : Hid (Blk w6 w4.heap.size #[.int .i64 skb, .int .i64 snb, .string stb, .string seb, .slice p1b n1b q1b, .slice p2b n2b q2b] 32) := bx5.out.next K6.out
    clear kb6 OXb5 Ow5 bx5
    have y0 := b6.out.cell 0 _ rfl
    have y1 := b6.out.cell 1 _ rfl
    have y2 := b6.out.cell 2 _ rfl
    have y3 := b6.out.cell 3 _ rfl
    have y4 := b6.out.cell 4 _ rfl
    have y5 := b6.out.cell 5 _ rfl
    have z0 := bx6.out.cell 0 _ rfl
    have z1 := bx6.out.cell 1 _ rfl
    have z2 := bx6.out.cell 2 _ rfl
    have z3 := bx6.out.cell 3 _ rfl
    have z4 := bx6.out.cell 4 _ rfl
    have z5 := bx6.out.cell 5 _ rfl
    go_wp2_with fail
    go_region_held3 (fun w' => w'.cell? ⟨w4.heap.size, 0, none⟩ = some (.int .i64 skb) ∧ w'.cell? ⟨w4.heap.size, 1, none⟩ = some (.int .i64 snb) ∧ w'.cell? ⟨w4.heap.size, 2, none⟩ = some (.string stb) ∧ w'.cell? ⟨w4.heap.size, 3, none⟩ = some (.string seb) ∧ w'.cell? ⟨w4.heap.size, 4, none⟩ = some (.slice p1b n1b q1b) ∧ w'.cell? ⟨w4.heap.size, 5, none⟩ = some (.slice p2b n2b q2b) ∧ w'.cell? ⟨w.heap.size, 0, none⟩ = some (.int .i64 x.kind) ∧ w'.cell? ⟨w.heap.size, 1, none⟩ = some (.int .i64 x.n) ∧ w'.cell? ⟨w.heap.size, 2, none⟩ = some (.string x.text) ∧ w'.cell? ⟨w.heap.size, 3, none⟩ = some (.string x.mod) ∧ w'.cell? ⟨w.heap.size, 4, none⟩ = some (.slice p x.kids.length cap) ∧ w'.cell? ⟨w.heap.size, 5, none⟩ = some (.slice pc x.clauses.length capc))
      (first | go_keep | (go_split_ands; refine ⟨?_, ?_, ?_, ?_, ?_, ?_, ?_, ?_, ?_, ?_, ?_, ?_⟩ <;> exact cell_next hb (by assumption)))
      (first
        | (go_at_call 6; refine (toExp_own (d + 1) _ _ x ⟨_, rfl, H0.out _ (by exact B6.out.drew)⟩ HWT.out).mono ?_; rintro e w7 ⟨u, fpc, rfl, ⟨csc, rfl, ox⟩, ndc, rgc, hb⟩; obtain ⟨skc, snc, stc, sec, p1c, n1c, q1c, p2c, n2c, q2c, hsh⟩ := ox.shape; subst hsh; have OXc : Hid (OEx w7 (d + 1) [.int .i64 skc, .int .i64 snc, .string stc, .string sec, .slice p1c n1c q1c, .slice p2c n2c q2c] x fpc) := ox; have K7 : Hid (Below w6.heap.size w6 w7) := ⟨hb.os, hb.tape, hb.output, hb.size, hb.block⟩; clear ox ndc rgc)
        | (go_at_call 9; refine (eqExp_all (d + 1) _ _ _ x ⟨_, rfl, (OXb6.out.keep (KeepOn.below K7.out (fun a ha => OXb6.out.lt a ha))).tree (fun _ _ => trivial)⟩ ⟨_, rfl, OXc.out.tree (fun _ _ => trivial)⟩).mono ?_; rintro e w8 ⟨rfl, hb⟩; have K8 : Hid (Below w7.heap.size w7 w8) := hb))
    go_split_ands
    clear y0 y1 y2 y3 y4 y5 z0 z1 z2 z3 z4 z5 hb
    have B7 : Hid (Below w.heap.size w w7) := B6.out.trans (K7.out.mono B6.out.size)
    have b7 : Hid (Blk w7 w.heap.size #[.int .i64 x.kind, .int .i64 x.n, .string x.text, .string x.mod, .slice p x.kids.length cap, .slice pc x.clauses.length capc] 25) := b6.out.next K7.out
    have B8 : Hid (Below w.heap.size w w8) := B7.out.trans (K8.out.mono B7.out.size)
    have b8 : Hid (Blk w8 w.heap.size #[.int .i64 x.kind, .int .i64 x.n, .string x.text, .string x.mod, .slice p x.kids.length cap, .slice pc x.clauses.length capc] 25) := b7.out.next K8.out
    have Ow7 : Hid (OwnS w7 w2.heap.size uw LF) := Ow6.out.next K7.out
    have Og7 : Hid (OwnS w7 w4.heap.size ug LF) := Og6.out.next K7.out
    have kb7 : KeepOn fpb w6 w7 := KeepOn.below K7.out (fun a ha => OXb6.out.lt a ha)
    have OXb7 : Hid (OEx w7 (d + 1) [.int .i64 skb, .int .i64 snb, .string stb, .string seb, .slice p1b n1b q1b, .slice p2b n2b q2b] x fpb) := OXb6.out.keep kb7
    have bx7 : Hid (Blk w7 w4.heap.size #[.int .i64 skb, .int .i64 snb, .string stb, .string seb, .slice p1b n1b q1b, .slice p2b n2b q2b] 32) := bx6.out.next K7.out
    clear kb7 OXb6 Ow6 Og6 bx6
    have Ow8 : Hid (OwnS w8 w2.heap.size uw LF) := Ow7.out.next K8.out
    have Og8 : Hid (OwnS w8 w4.heap.size ug LF) := Og7.out.next K8.out
    have kb8 : KeepOn fpb w7 w8 := KeepOn.below K8.out (fun a ha => OXb7.out.lt a ha)
    have OXb8 : Hid (OEx w8 (d + 1) [.int .i64 skb, .int .i64 snb, .string stb, .string seb, .slice p1b n1b q1b, .slice p2b n2b q2b] x fpb) := OXb7.out.keep kb8
    have bx8 : Hid (Blk w8 w4.heap.size #[.int .i64 skb, .int .i64 snb, .string stb, .string seb, .slice p1b n1b q1b, .slice p2b n2b q2b] 32) := bx7.out.next K8.out
    clear kb8 OXb7 Ow7 Og7 bx7
    have z0 := bx8.out.cell 0 _ rfl
    have z1 := bx8.out.cell 1 _ rfl
    have z2 := bx8.out.cell 2 _ rfl
    have z3 := bx8.out.cell 3 _ rfl
    have z4 := bx8.out.cell 4 _ rfl
    have z5 := bx8.out.cell 5 _ rfl
    go_wp2_with fail
    refine (markExp_any d _ _ x fpb 1 OXb8.out RGb.out.1 (by omega) (by omega)).mono ?_
    rintro e w9 ⟨⟨k9, h9, h9', rfl⟩, off9⟩
    have S3 : w.heap.size ≤ w3.heap.size := B3.out.size
    have Ow9 : Hid (OwnS w9 w2.heap.size uw LF) := Ow8.out.offF off9 (fun g hg hm => by have h1 := LW.out g hg; have h2 := (RGb.out.2 g hm).1; omega)
    have Og9 : Hid (OwnS w9 w4.heap.size ug LF) := Og8.out.offF off9 (fun g hg hm => by have h1 := (LG.out g hg).1; have h2 := (RGb.out.2 g hm).2; omega)
    have hb : Below w3.heap.size w8 w9 := off9.below (fun g hg => (RGb.out.2 g hg).1) (Nat.le_trans K4.out.size (Nat.le_trans K5.out.size (Nat.le_trans K6.out.size (Nat.le_trans K7.out.size K8.out.size))))
    have B9 : Hid (Below w.heap.size w w9) := B8.out.trans (hb.mono S3)
    have b9 : Hid (Blk w9 w.heap.size #[.int .i64 x.kind, .int .i64 x.n, .string x.text, .string x.mod, .slice p x.kids.length cap, .slice pc x.clauses.length capc] 25) := b8.out.below hb (by have h := B3.out; have h2 := b3.out.lt; omega)
    clear off9 hb OXb8 Ow8 Og8 bx8 z0 z1 z2 z3 z4 z5
    go_wp2_with fail
    refine (eqS_own Og9.out Ow9.out (by omega)).mono ?_
    rintro e w10 ⟨rfl, hb⟩
    have K10 : Hid (Below w9.heap.size w9 w10) := hb
    have B10 : Hid (Below w.heap.size w w10) := B9.out.trans (hb.mono B9.out.size)
    have b10 : Hid (Blk w10 w.heap.size #[.int .i64 x.kind, .int .i64 x.n, .string x.text, .string x.mod, .slice p x.kids.length cap, .slice pc x.clauses.length capc] 25) := b9.out.next hb
    clear hb
    have Ow10 : Hid (OwnS w10 w2.heap.size uw LF) := Ow9.out.next K10.out
    have Og10 : Hid (OwnS w10 w4.heap.size ug LF) := Og9.out.next K10.out
    clear Ow9 Og9
    go_wp2_with fail
    refine (markS_own Og10.out (by omega)).mono ?_
    rintro e w11 ⟨rfl, hm11, hb⟩
    have M11 : Hid (MarkedS w11 ug LF.length) := hm11
    have S4 : w3.heap.size ≤ w4.heap.size := K4.out.size
    have Ow11 : Hid (OwnS w11 w2.heap.size uw LF) := Ow10.out.belowF hb (fun g hg => by have := LW.out g hg; omega)
    have B11 : Hid (Below w.heap.size w w11) := B10.out.trans (hb.mono (Nat.le_trans S3 S4))
    have b11 : Hid (Blk w11 w.heap.size #[.int .i64 x.kind, .int .i64 x.n, .string x.text, .string x.mod, .slice p x.kids.length cap, .slice pc x.clauses.length capc] 25) := b10.out.below hb (by have h2 := b3.out.lt; omega)
    clear hb hm11 Ow10 Og10
    go_wp2_with fail
    refine (heldS_own M11.out (by omega)).mono ?_
    rintro e w12 ⟨rfl, hb⟩
    have K12 : Hid (Below w11.heap.size w11 w12) := hb
    have B12 : Hid (Below w.heap.size w w12) := B11.out.trans (hb.mono B11.out.size)
    have b12 : Hid (Blk w12 w.heap.size #[.int .i64 x.kind, .int .i64 x.n, .string x.text, .string x.mod, .slice p x.kids.length cap, .slice pc x.clauses.length capc] 25) := b11.out.next hb
    clear hb
    have M12 : Hid (MarkedS w12 ug LF.length) := M11.out.next K12.out
    have Ow12 : Hid (OwnS w12 w2.heap.size uw LF) := Ow11.out.next K12.out
    clear M11 Ow11
    have y0 := b12.out.cell 0 _ rfl
    have y1 := b12.out.cell 1 _ rfl
    have y2 := b12.out.cell 2 _ rfl
    have y3 := b12.out.cell 3 _ rfl
    have y4 := b12.out.cell 4 _ rfl
    have y5 := b12.out.cell 5 _ rfl
    go_wp2_with fail
    refine (toExp_own (d + 1) _ _ x ⟨_, rfl, H0.out _ B12.out⟩ HWT.out).mono ?_
    rintro e w13 ⟨u, fpd, rfl, ⟨csd, rfl, ox⟩, ndd, rgd, hb⟩
    obtain ⟨skd, snd, std, sed, p1d, n1d, q1d, p2d, n2d, q2d, rfl⟩ := ox.shape
    have OXd : Hid (OEx w13 (d + 1) [.int .i64 skd, .int .i64 snd, .string std, .string sed, .slice p1d n1d q1d, .slice p2d n2d q2d] x fpd) := ox
    have RGd : Hid (fpd.Nodup ∧ ∀ a ∈ fpd, w12.heap.size ≤ a ∧ a < w13.heap.size) := ⟨ndd, rgd⟩
    have K13 : Hid (Below w12.heap.size w12 w13) := hb
    have B13 : Hid (Below w.heap.size w w13) := B12.out.trans (hb.mono B12.out.size)
    have b13 : Hid (Blk w13 w.heap.size #[.int .i64 x.kind, .int .i64 x.n, .string x.text, .string x.mod, .slice p x.kids.length cap, .slice pc x.clauses.length capc] 25) := b12.out.next hb
    clear hb ox ndd rgd y0 y1 y2 y3 y4 y5
    have M13 : Hid (MarkedS w13 ug LF.length) := M12.out.next K13.out
    have Ow13 : Hid (OwnS w13 w2.heap.size uw LF) := Ow12.out.next K13.out
    clear M12 Ow12
    go_wp2_with fail
    refine (HIm.out _ _ (OXd.out.tree (fun _ _ => trivial)) HWT.out).mono ?_
    rintro e w14 ⟨uh, rfl, ho, hb⟩
    have Ouh : Hid (OwnS w14 w13.heap.size uh LF) := ho
    have K14 : Hid (Below w13.heap.size w13 w14) := hb
    have B14 : Hid (Below w.heap.size w w14) := B13.out.trans (hb.mono B13.out.size)
    have b14 : Hid (Blk w14 w.heap.size #[.int .i64 x.kind, .int .i64 x.n, .string x.text, .string x.mod, .slice p x.kids.length cap, .slice pc x.clauses.length capc] 25) := b13.out.next hb
    clear hb ho
    have M14 : Hid (MarkedS w14 ug LF.length) := M13.out.next K14.out
    have Ow14 : Hid (OwnS w14 w2.heap.size uw LF) := Ow13.out.next K14.out
    clear M13 Ow13
    go_wp2_with fail
    refine (eqS_own Ouh.out Ow14.out (by omega)).mono ?_
    rintro e w15 ⟨rfl, hb⟩
    have K15 : Hid (Below w14.heap.size w14 w15) := hb
    have B15 : Hid (Below w.heap.size w w15) := B14.out.trans (hb.mono B14.out.size)
    have b15 : Hid (Blk w15 w.heap.size #[.int .i64 x.kind, .int .i64 x.n, .string x.text, .string x.mod, .slice p x.kids.length cap, .slice pc x.clauses.length capc] 25) := b14.out.next hb
    clear hb
    have M15 : Hid (MarkedS w15 ug LF.length) := M14.out.next K15.out
    go_wp2_with fail
    refine (heldS_own M15.out (by omega)).mono ?_
    rintro e w16 ⟨rfl, hb⟩
    have K16 : Hid (Below w15.heap.size w15 w16) := hb
    have B16 : Hid (Below w.heap.size w w16) := B15.out.trans (hb.mono B15.out.size)
    have b16 : Hid (Blk w16 w.heap.size #[.int .i64 x.kind, .int .i64 x.n, .string x.text, .string x.mod, .slice p x.kids.length cap, .slice pc x.clauses.length capc] 25) := b15.out.next hb
    clear hb
    go_wp2
    go_ret
    exact ⟨rfl, B16.out⟩
  · have hr0 : leftOf 1048576 (wtEx (d + 1) x) = -1 := leftOf_lt (by omega)
    go_enter Try.func3, Try.ntmps3
    go_wp2_with fail
    refine ((szExp_all (N := w.heap.size) (d + 1)).at x _ 1048576 (by omega) ⟨_, rfl, ZA.out⟩ (by omega)).mono ?_
    rintro e w1 ⟨rfl, hb1⟩
    rw [hr0]
    go_wp2
    go_ret
    exact ⟨rfl, BA.out.trans (hb1.mono BA.out.size)⟩
end Go.Proofs.Ytgmcjmmdhfbfpaa
