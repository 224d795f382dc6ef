/-
  Texts of the proof, packed: LooseWalk, RangeBound, Backward, RangeIdx, NameMath, NameMath2, NameMath4, NameMath5, Chars, Names, VarOk, AtomOk, ModOkMath, NameMath6, NameImplA, SetAt, SetOps, EachRem, CopyN, Tight, StepAll, StepSmall, StepImpl, StepTop, OrdBase, ModOkImplA, ModOkRefs.
-/
import Derived.Test.YtpkhblhcdnohmaaGreatDoorPackA
import Derived.Deep.RegionHeld3
import Derived.RangeFuncNested
import Derived.RangeFuncBound
import Derived.RangeFuncCalls
import Derived.RangeFuncLeaves
import Derived.Shelf.Abstract
import Derived.Shelf.RegionOpen
import Derived.WalkKit
import Derived.OwnWalkIn
import Derived.TacticsInMore
import Derived.LoopNIn
import Derived.LoopIn
import Derived.Maps.OwnIn
import Derived.Maps.AppendAt
import Derived.Test.YtpkhblhcdnohmaaGreatDoorRows
import Derived.ProofKit
import Derived.OpenShut
import Derived.WalkSpells
import Derived.Maps.Own
import Derived.Maps.OwnSet
import Derived.StringKeys
import Derived.Lib.SlMapMerge
import Derived.Maps.Ext
import Derived.Maps.RangeWalk
import Derived.Laws.IdiomRangeMap
import Derived.Lib.Bytealg
import Derived.Laws.Cover1
/-
  The walk of FnExactLoose: it answers true, and nothing that was there has turned. No conditions but both sides' contracts, which are handed in.
-/
namespace Go.Proofs.YtpkhblhcdnohmaaGreatDoor
open Go.ChangeShapes Go.WideShapes Go.ChangeAt Go.RowKit
set_option linter.unusedVariables false
set_option maxRecDepth 100000

set_option maxHeartbeats 16000000 in
theorem fnExactLoose_walk (w : World) (d : Nat) (cs : List Value) (x : Md) (LF : List Rf) (T : World → Prop) (hT : ∀ w', Below w.heap.size w w' → T w') (h : HMd w (fun g => g < w.heap.size) d cs x) (hLF : wtMd d x ≤ 1048576 → LF.length ≤ 2097152)
    (hS : ∀ w cs, HMd w All d cs x → wtMd d x ≤ 1048576 → Calls Tryz.prog 5 #[.agg cs.toArray] w fun e w' => ∃ u, e = .returned u ∧ OwnT ORs w' w.heap.size w'.heap.size u LF ∧ Below w.heap.size w w')
    (hI : ∀ w cs, T w → HMd w All d cs x → wtMd d x ≤ 1048576 → Calls Tryz.prog 7 #[.agg cs.toArray] w fun e w' => ∃ u, e = .returned u ∧ OwnT ORs w' w.heap.size w'.heap.size u LF ∧ Below w.heap.size w w') :
    Calls Tryz.prog 3 #[.agg cs.toArray] w fun e w' => e = .returned (.bool true) ∧ Below w.heap.size w w' := by
  have H0 : Hid (∀ w', Below w.heap.size w w' → HMd w' All d cs x) := fun w' hb => HMd.mono ⟨hb.size, fun g hg hl => hb.block g hg⟩ (fun _ _ => trivial) h
  have HT : Hid (∀ w', Below w.heap.size w w' → T w') := hT
  have HZ : Hid (HMd w (fun g => g < w.heap.size) d cs x) := h
  have HSp : Hid (∀ w cs, HMd w All d cs x → wtMd d x ≤ 1048576 → Calls Tryz.prog 5 #[.agg cs.toArray] w fun e w' => ∃ u, e = .returned u ∧ OwnT ORs w' w.heap.size w'.heap.size u LF ∧ Below w.heap.size w w') := hS
  have HIm : Hid (∀ w cs, T w → HMd w All d cs x → wtMd d x ≤ 1048576 → Calls Tryz.prog 7 #[.agg cs.toArray] w fun e w' => ∃ u, e = .returned u ∧ OwnT ORs w' w.heap.size w'.heap.size u LF ∧ Below w.heap.size w w') := hI
  clear hS hI hT
  obtain ⟨ev, fv, rfl, -, f0, f1⟩ := h
  obtain ⟨p, cap, rfl, -⟩ := f0
  obtain ⟨pc, capc, rfl, -⟩ := f1
  have BA : Hid (Below w.heap.size w (w.alloc (.cells #[.string x.name, .slice p x.exports.length cap, .slice pc x.funs.length capc] 25))) := (Below.refl _ _).alloc (Nat.le_refl _) _
  have bA : Hid (Blk (w.alloc (.cells #[.string x.name, .slice p x.exports.length cap, .slice pc x.funs.length capc] 25)) w.heap.size #[.string x.name, .slice p x.exports.length cap, .slice pc x.funs.length capc] 25) := Blk.new
  have ZA : Hid (HMd (w.alloc (.cells #[.string x.name, .slice p x.exports.length cap, .slice pc x.funs.length capc] 25)) (fun g => g < w.heap.size) d [.string x.name, .slice p x.exports.length cap, .slice pc x.funs.length capc] x) := HMd.mono ⟨BA.out.size, fun g hg hl => BA.out.block g hg⟩ (fun _ h => h) HZ.out
  by_cases hw : wtMd d x ≤ 1048576
  · have hr0 : leftOf 1048576 (wtMd d x) = ((1048576 - wtMd d x : Nat) : Int) := leftOf_ge hw
    have hl := hLF hw
    go_enter Tryz.func3, Tryz.ntmps3
    go_wp2_with fail
    refine ((szModule_all (N := w.heap.size) d).at x _ 1048576 (by omega) ⟨_, rfl, ZA.out⟩ (by omega)).mono ?_
    rintro e w1 ⟨rfl, hb1⟩
    rw [hr0]
    have B1 : Hid (Below w.heap.size w w1) := BA.out.trans (hb1.mono BA.out.size)
    have b1 : Hid (Blk w1 w.heap.size #[.string x.name, .slice p x.exports.length cap, .slice pc x.funs.length capc] 25) := bA.out.next hb1
    clear hb1 hr0 ZA BA bA
    have HC := cntM_le d x
    have HWT : Hid (wtMd d x ≤ 1048576) := hw
    generalize hwt : wtMd d x = wt at hw HC ⊢
    clear hwt
    have y0 := b1.out.cell 0 _ rfl
    have y1 := b1.out.cell 1 _ rfl
    have y2 := b1.out.cell 2 _ rfl
    go_wp2_with fail
    refine (toModule_own d _ _ x ⟨_, rfl, H0.out _ B1.out⟩ HWT.out).mono ?_
    rintro e w2 ⟨u, fpa, rfl, ⟨csa, rfl, ox⟩, nda, rga, hb⟩
    obtain ⟨sta, p1a, n1a, q1a, p2a, n2a, q2a, rfl⟩ := OMd.shape ox
    have OXa : Hid (OMd w2 d [.string sta, .slice p1a n1a q1a, .slice p2a n2a q2a] x fpa) := ox
    have RGa : Hid (fpa.Nodup ∧ ∀ a ∈ fpa, w1.heap.size ≤ a ∧ a < w2.heap.size) := ⟨nda, rga⟩
    have K2 : Hid (Below w1.heap.size w1 w2) := hb
    have B2 : Hid (Below w.heap.size w w2) := B1.out.trans (hb.mono B1.out.size)
    have b2 : Hid (Blk w2 w.heap.size #[.string x.name, .slice p x.exports.length cap, .slice pc x.funs.length capc] 25) := b1.out.next hb
    clear hb ox nda rga y0 y1 y2
    go_wp2_with fail
    refine (HSp.out _ _ (OMd.tree OXa.out (fun _ _ => trivial)) HWT.out).mono ?_
    rintro e w3 ⟨uw, rfl, ho, hb⟩
    have Ow3 : Hid (OwnT ORs w3 w2.heap.size w3.heap.size uw (LF)) := ho
    have K3 : Hid (Below w2.heap.size w2 w3) := hb
    have B3 : Hid (Below w.heap.size w w3) := B2.out.trans (hb.mono B2.out.size)
    have b3 : Hid (Blk w3 w.heap.size #[.string x.name, .slice p x.exports.length cap, .slice pc x.funs.length capc] 25) := b2.out.next hb
    clear hb ho
    have y0 := b3.out.cell 0 _ rfl
    have y1 := b3.out.cell 1 _ rfl
    have y2 := b3.out.cell 2 _ rfl
    go_wp2_with fail
    refine (toModule_own d _ _ x ⟨_, rfl, H0.out _ B3.out⟩ HWT.out).mono ?_
    rintro e w4 ⟨u, fpb, rfl, ⟨csb, rfl, ox⟩, ndb, rgb, hb⟩
    obtain ⟨stb, p1b, n1b, q1b, p2b, n2b, q2b, rfl⟩ := OMd.shape ox
    have OXb : Hid (OMd w4 d [.string stb, .slice p1b n1b q1b, .slice p2b n2b q2b] x fpb) := ox
    have RGb : Hid (fpb.Nodup ∧ ∀ a ∈ fpb, w3.heap.size ≤ a ∧ a < w4.heap.size) := ⟨ndb, rgb⟩
    have K4 : Hid (Below w3.heap.size w3 w4) := hb
    have B4 : Hid (Below w.heap.size w w4) := B3.out.trans (hb.mono B3.out.size)
    have b4 : Hid (Blk w4 w.heap.size #[.string x.name, .slice p x.exports.length cap, .slice pc x.funs.length capc] 25) := b3.out.next hb
    clear hb ox ndb rgb y0 y1 y2
    have Ow4 : Hid (OwnT ORs w4 w2.heap.size w3.heap.size uw (LF)) := OwnT.next ORs.keeps Ow3.out K4.out
    have KX : Hid (Below w4.heap.size w4 (w4.alloc (.cells #[.string stb, .slice p1b n1b q1b, .slice p2b n2b q2b] 31))) := (Below.refl _ _).alloc (Nat.le_refl _) _
    have bX : Hid (Blk (w4.alloc (.cells #[.string stb, .slice p1b n1b q1b, .slice p2b n2b q2b] 31)) w4.heap.size #[.string stb, .slice p1b n1b q1b, .slice p2b n2b q2b] 31) := Blk.new
    have kX : KeepOn fpb w4 (w4.alloc (.cells #[.string stb, .slice p1b n1b q1b, .slice p2b n2b q2b] 31)) := KeepOn.below KX.out (fun a ha => (RGb.out.2 a ha).2)
    have OXx : Hid (OMd (w4.alloc (.cells #[.string stb, .slice p1b n1b q1b, .slice p2b n2b q2b] 31)) d [.string stb, .slice p1b n1b q1b, .slice p2b n2b q2b] x fpb) := OMd.keep OXb.out kX
    have BX : Hid (Below w.heap.size w (w4.alloc (.cells #[.string stb, .slice p1b n1b q1b, .slice p2b n2b q2b] 31))) := B4.out.trans (KX.out.mono B4.out.size)
    have sX : (w4.alloc (.cells #[.string stb, .slice p1b n1b q1b, .slice p2b n2b q2b] 31)).heap.size = w4.heap.size + 1 := alloc_hs _ _
    clear kX
    go_wp2_with fail
    refine (HIm.out _ _ (HT.out _ BX.out) (OMd.tree OXx.out (fun _ _ => trivial)) HWT.out).mono ?_
    rintro e w5 ⟨ug, rfl, ho, hb⟩
    have Og5 : Hid (OwnT ORs w5 w4.heap.size w5.heap.size ug (LF)) := OwnT.base ho (by rw [sX]; omega)
    have K5 : Hid (Below w4.heap.size w4 w5) := KX.out.trans (hb.mono KX.out.size)
    have B5 : Hid (Below w.heap.size w w5) := B4.out.trans (K5.out.mono B4.out.size)
    have b5 : Hid (Blk w5 w.heap.size #[.string x.name, .slice p x.exports.length cap, .slice pc x.funs.length capc] 25) := b4.out.next K5.out
    have bx5 : Hid (Blk w5 w4.heap.size #[.string stb, .slice p1b n1b q1b, .slice p2b n2b q2b] 31) := bX.out.next hb
    clear hb ho KX bX OXx sX BX
    have Ow5 : Hid (OwnT ORs w5 w2.heap.size w3.heap.size uw (LF)) := OwnT.next ORs.keeps Ow4.out K5.out
    have kb5 : KeepOn fpb w4 w5 := KeepOn.below K5.out (fun a ha => (RGb.out.2 a ha).2)
    have OXb5 : Hid (OMd w5 d [.string stb, .slice p1b n1b q1b, .slice p2b n2b q2b] x fpb) := OMd.keep OXb.out kb5
    clear kb5 Ow4
    go_wp2_with fail
    refine (eqRs_own Og5.out Ow5.out).mono ?_
    rintro e w6 ⟨rfl, hb⟩
    have K6 : Hid (Below w5.heap.size w5 w6) := hb
    have B6 : Hid (Below w.heap.size w w6) := B5.out.trans (hb.mono B5.out.size)
    have b6 : Hid (Blk w6 w.heap.size #[.string x.name, .slice p x.exports.length cap, .slice pc x.funs.length capc] 25) := b5.out.next hb
    clear hb
    have Ow6 : Hid (OwnT ORs w6 w2.heap.size w3.heap.size uw (LF)) := OwnT.next ORs.keeps Ow5.out K6.out
    have Og6 : Hid (OwnT ORs w6 w4.heap.size w5.heap.size ug (LF)) := OwnT.next ORs.keeps Og5.out K6.out
    have OXb6 : Hid (OMd w6 d [.string stb, .slice p1b n1b q1b, .slice p2b n2b q2b] x fpb) := OMd.keep OXb5.out (KeepOn.below K6.out (fun a ha => OMd.lt OXb5.out a ha))
    have bx6 : Hid (Blk w6 w4.heap.size #[.string stb, .slice p1b n1b q1b, .slice p2b n2b q2b] 31) := bx5.out.next K6.out
    clear Ow5 Og5 OXb5 bx5
    have y0 := b6.out.cell 0 _ rfl
    have y1 := b6.out.cell 1 _ rfl
    have y2 := b6.out.cell 2 _ rfl
    have z0 := bx6.out.cell 0 _ rfl
    have z1 := bx6.out.cell 1 _ rfl
    have z2 := bx6.out.cell 2 _ rfl
    go_wp2_with fail
    go_region_held3 (fun w' => w'.cell? ⟨w4.heap.size, 0, none⟩ = some (.string stb) ∧ w'.cell? ⟨w4.heap.size, 1, none⟩ = some (.slice p1b n1b q1b) ∧ w'.cell? ⟨w4.heap.size, 2, none⟩ = some (.slice p2b n2b q2b) ∧ w'.cell? ⟨w.heap.size, 0, none⟩ = some (.string x.name) ∧ w'.cell? ⟨w.heap.size, 1, none⟩ = some (.slice p x.exports.length cap) ∧ w'.cell? ⟨w.heap.size, 2, none⟩ = some (.slice pc x.funs.length capc))
      (first | go_keep | (go_split_ands; refine ⟨?_, ?_, ?_, ?_, ?_, ?_⟩ <;> exact cell_next hb (by assumption)))
      (first
        | (go_at_call 6; refine (toModule_own d _ _ x ⟨_, rfl, H0.out _ (by exact B6.out.drew)⟩ HWT.out).mono ?_; rintro e w7 ⟨u, fpc, rfl, ⟨csc, rfl, ox⟩, ndc, rgc, hb⟩; obtain ⟨stc, p1c, n1c, q1c, p2c, n2c, q2c, hsh⟩ := OMd.shape ox; subst hsh; have OXc : Hid (OMd w7 d [.string stc, .slice p1c n1c q1c, .slice p2c n2c q2c] x fpc) := ox; have K7 : Hid (Below w6.heap.size w6 w7) := ⟨hb.os, hb.tape, hb.output, hb.size, hb.block⟩; clear ox ndc rgc)
        | (go_at_call 9; refine (eqModule_all d _ _ _ x ⟨_, rfl, OMd.tree (OMd.keep OXb6.out (KeepOn.below K7.out (fun a ha => OMd.lt OXb6.out a ha))) (fun _ _ => trivial)⟩ ⟨_, rfl, OMd.tree OXc.out (fun _ _ => trivial)⟩).mono ?_; rintro e w8 ⟨rfl, hb⟩; have K8 : Hid (Below w7.heap.size w7 w8) := hb))
    go_split_ands
    clear y0 y1 y2 z0 z1 z2 hb
    have B7 : Hid (Below w.heap.size w w7) := B6.out.trans (K7.out.mono B6.out.size)
    have b7 : Hid (Blk w7 w.heap.size #[.string x.name, .slice p x.exports.length cap, .slice pc x.funs.length capc] 25) := b6.out.next K7.out
    have Ow7 : Hid (OwnT ORs w7 w2.heap.size w3.heap.size uw (LF)) := OwnT.next ORs.keeps Ow6.out K7.out
    have Og7 : Hid (OwnT ORs w7 w4.heap.size w5.heap.size ug (LF)) := OwnT.next ORs.keeps Og6.out K7.out
    have OXb7 : Hid (OMd w7 d [.string stb, .slice p1b n1b q1b, .slice p2b n2b q2b] x fpb) := OMd.keep OXb6.out (KeepOn.below K7.out (fun a ha => OMd.lt OXb6.out a ha))
    have bx7 : Hid (Blk w7 w4.heap.size #[.string stb, .slice p1b n1b q1b, .slice p2b n2b q2b] 31) := bx6.out.next K7.out
    clear Ow6 Og6 OXb6 bx6
    have B8 : Hid (Below w.heap.size w w8) := B7.out.trans (K8.out.mono B7.out.size)
    have b8 : Hid (Blk w8 w.heap.size #[.string x.name, .slice p x.exports.length cap, .slice pc x.funs.length capc] 25) := b7.out.next K8.out
    have Ow8 : Hid (OwnT ORs w8 w2.heap.size w3.heap.size uw (LF)) := OwnT.next ORs.keeps Ow7.out K8.out
    have Og8 : Hid (OwnT ORs w8 w4.heap.size w5.heap.size ug (LF)) := OwnT.next ORs.keeps Og7.out K8.out
    have OXb8 : Hid (OMd w8 d [.string stb, .slice p1b n1b q1b, .slice p2b n2b q2b] x fpb) := OMd.keep OXb7.out (KeepOn.below K8.out (fun a ha => OMd.lt OXb7.out a ha))
    have bx8 : Hid (Blk w8 w4.heap.size #[.string stb, .slice p1b n1b q1b, .slice p2b n2b q2b] 31) := bx7.out.next K8.out
    clear Ow7 Og7 OXb7 bx7
    have z0 := bx8.out.cell 0 _ rfl
    have z1 := bx8.out.cell 1 _ rfl
    have z2 := bx8.out.cell 2 _ rfl
    go_wp2_with fail
    refine (markModule_own d _ _ x fpb 1 OXb8.out RGb.out.1 (by omega) (by omega)).mono ?_
    rintro e w9 ⟨rfl, -, off9⟩
    have S3 : w.heap.size ≤ w3.heap.size := B3.out.size
    have SZ89 : Hid (w8.heap.size ≤ w9.heap.size) := off9.size
    have OR9 : OffR w3.heap.size w4.heap.size w8 w9 := OffR.of off9 RGb.out.2
    have Ow9 : Hid (OwnT ORs w9 w2.heap.size w3.heap.size uw (LF)) := OwnT.offR ORs.keeps Ow8.out OR9 (.inl (Nat.le_refl _))
    have Og9 : Hid (OwnT ORs w9 w4.heap.size w5.heap.size ug (LF)) := OwnT.offR ORs.keeps Og8.out OR9 (.inr (Nat.le_refl _))
    have hb : Below w3.heap.size w8 w9 := OR9.below (Nat.le_refl _) (Nat.le_trans K4.out.size (Nat.le_trans K5.out.size (Nat.le_trans K6.out.size (Nat.le_trans K7.out.size K8.out.size))))
    have B9 : Hid (Below w.heap.size w w9) := B8.out.trans (hb.mono S3)
    have b9 : Hid (Blk w9 w.heap.size #[.string x.name, .slice p x.exports.length cap, .slice pc x.funs.length capc] 25) := b8.out.below hb (by have h := B3.out; have h2 := b3.out.lt; omega)
    have HCN : (0 : Int) ≤ ((1 + cntM d x : Nat) : Int) := by omega
    generalize ((1 + cntM d x : Nat) : Int) = kz at HCN ⊢
    have hkz : ¬ kz < 0 := by omega
    clear off9 OR9 hb OXb8 Ow8 Og8 bx8 z0 z1 z2 HCN
    go_wp2_with fail
    refine (eqRs_own Og9.out Ow9.out).mono ?_
    rintro e w10 ⟨rfl, hb⟩
    have K10 : Hid (Below w9.heap.size w9 w10) := hb
    have B10 : Hid (Below w.heap.size w w10) := B9.out.trans (hb.mono B9.out.size)
    have b10 : Hid (Blk w10 w.heap.size #[.string x.name, .slice p x.exports.length cap, .slice pc x.funs.length capc] 25) := b9.out.next hb
    clear hb
    have Ow10 : Hid (OwnT ORs w10 w2.heap.size w3.heap.size uw (LF)) := OwnT.next ORs.keeps Ow9.out K10.out
    have Og10 : Hid (OwnT ORs w10 w4.heap.size w5.heap.size ug (LF)) := OwnT.next ORs.keeps Og9.out K10.out
    clear Ow9 Og9
    go_wp2_with fail
    refine (markRs_own Og10.out hl).mono ?_
    rintro e w11 ⟨rfl, hm11, or11⟩
    have M11 : Hid (OwnT ORs w11 w4.heap.size w5.heap.size ug (markL markR cntR 1 LF)) := hm11
    have S4 : w3.heap.size ≤ w4.heap.size := K4.out.size
    have Ow11 : Hid (OwnT ORs w11 w2.heap.size w3.heap.size uw (LF)) := OwnT.offR ORs.keeps Ow10.out or11 (.inl S4)
    have hb : Below w4.heap.size w10 w11 := or11.below (Nat.le_refl _) (Nat.le_trans K5.out.size (Nat.le_trans K6.out.size (Nat.le_trans K7.out.size (Nat.le_trans K8.out.size (Nat.le_trans (show w8.heap.size ≤ w9.heap.size by exact SZ89.out) K10.out.size)))))
    have B11 : Hid (Below w.heap.size w w11) := B10.out.trans (hb.mono (Nat.le_trans S3 S4))
    have b11 : Hid (Blk w11 w.heap.size #[.string x.name, .slice p x.exports.length cap, .slice pc x.funs.length capc] 25) := b10.out.below hb (by have h2 := b3.out.lt; omega)
    clear hb or11 hm11 Ow10 Og10
    go_wp2_with fail
    refine (heldRs_own M11.out hl).mono ?_
    rintro e w12 ⟨rfl, hb⟩
    have K12 : Hid (Below w11.heap.size w11 w12) := hb
    have B12 : Hid (Below w.heap.size w w12) := B11.out.trans (hb.mono B11.out.size)
    have b12 : Hid (Blk w12 w.heap.size #[.string x.name, .slice p x.exports.length cap, .slice pc x.funs.length capc] 25) := b11.out.next hb
    clear hb
    have M12 : Hid (OwnT ORs w12 w4.heap.size w5.heap.size ug (markL markR cntR 1 LF)) := OwnT.next ORs.keeps M11.out K12.out
    have Ow12 : Hid (OwnT ORs w12 w2.heap.size w3.heap.size uw (LF)) := OwnT.next ORs.keeps Ow11.out K12.out
    clear M11 Ow11
    have y0 := b12.out.cell 0 _ rfl
    have y1 := b12.out.cell 1 _ rfl
    have y2 := b12.out.cell 2 _ rfl
    go_wp2_with fail
    refine (toModule_own d _ _ x ⟨_, rfl, H0.out _ B12.out⟩ HWT.out).mono ?_
    rintro e w13 ⟨u, fpd, rfl, ⟨csd, rfl, ox⟩, ndd, rgd, hb⟩
    obtain ⟨std, p1d, n1d, q1d, p2d, n2d, q2d, rfl⟩ := OMd.shape ox
    have OXd : Hid (OMd w13 d [.string std, .slice p1d n1d q1d, .slice p2d n2d q2d] x fpd) := ox
    have RGd : Hid (fpd.Nodup ∧ ∀ a ∈ fpd, w12.heap.size ≤ a ∧ a < w13.heap.size) := ⟨ndd, rgd⟩
    have K13 : Hid (Below w12.heap.size w12 w13) := hb
    have B13 : Hid (Below w.heap.size w w13) := B12.out.trans (hb.mono B12.out.size)
    have b13 : Hid (Blk w13 w.heap.size #[.string x.name, .slice p x.exports.length cap, .slice pc x.funs.length capc] 25) := b12.out.next hb
    clear hb ox ndd rgd y0 y1 y2
    have M13 : Hid (OwnT ORs w13 w4.heap.size w5.heap.size ug (markL markR cntR 1 LF)) := OwnT.next ORs.keeps M12.out K13.out
    have Ow13 : Hid (OwnT ORs w13 w2.heap.size w3.heap.size uw (LF)) := OwnT.next ORs.keeps Ow12.out K13.out
    clear M12 Ow12
    go_wp2_with fail
    refine (HIm.out _ _ (HT.out _ B13.out) (OMd.tree OXd.out (fun _ _ => trivial)) HWT.out).mono ?_
    rintro e w14 ⟨uh, rfl, ho, hb⟩
    have Oh14 : Hid (OwnT ORs w14 w13.heap.size w14.heap.size uh (LF)) := ho
    have K14 : Hid (Below w13.heap.size w13 w14) := hb
    have B14 : Hid (Below w.heap.size w w14) := B13.out.trans (hb.mono B13.out.size)
    have b14 : Hid (Blk w14 w.heap.size #[.string x.name, .slice p x.exports.length cap, .slice pc x.funs.length capc] 25) := b13.out.next hb
    clear hb ho
    have M14 : Hid (OwnT ORs w14 w4.heap.size w5.heap.size ug (markL markR cntR 1 LF)) := OwnT.next ORs.keeps M13.out K14.out
    have Ow14 : Hid (OwnT ORs w14 w2.heap.size w3.heap.size uw (LF)) := OwnT.next ORs.keeps Ow13.out K14.out
    clear M13 Ow13
    go_wp2_with fail
    refine (eqRs_own Oh14.out Ow14.out).mono ?_
    rintro e w15 ⟨rfl, hb⟩
    have K15 : Hid (Below w14.heap.size w14 w15) := hb
    have B15 : Hid (Below w.heap.size w w15) := B14.out.trans (hb.mono B14.out.size)
    have b15 : Hid (Blk w15 w.heap.size #[.string x.name, .slice p x.exports.length cap, .slice pc x.funs.length capc] 25) := b14.out.next hb
    clear hb
    have M15 : Hid (OwnT ORs w15 w4.heap.size w5.heap.size ug (markL markR cntR 1 LF)) := OwnT.next ORs.keeps M14.out K15.out
    go_wp2_with fail
    refine (heldRs_own M15.out hl).mono ?_
    rintro e w16 ⟨rfl, hb⟩
    have K16 : Hid (Below w15.heap.size w15 w16) := hb
    have B16 : Hid (Below w.heap.size w w16) := B15.out.trans (hb.mono B15.out.size)
    have b16 : Hid (Blk w16 w.heap.size #[.string x.name, .slice p x.exports.length cap, .slice pc x.funs.length capc] 25) := b15.out.next hb
    clear hb
    go_wp2
    go_ret
    exact ⟨rfl, B16.out⟩
  · have hr0 : leftOf 1048576 (wtMd d x) = -1 := leftOf_lt (by omega)
    go_enter Tryz.func3, Tryz.ntmps3
    go_wp2_with fail
    refine ((szModule_all (N := w.heap.size) d).at x _ 1048576 (by omega) ⟨_, rfl, ZA.out⟩ (by omega)).mono ?_
    rintro e w1 ⟨rfl, hb1⟩
    rw [hr0]
    go_wp2
    go_ret
    exact ⟨rfl, BA.out.trans (hb1.mono BA.out.size)⟩
end Go.Proofs.YtpkhblhcdnohmaaGreatDoor
/-
  A range over a method value: the iterator's receiver is bound; the body never leaves the loop; what the iterator lays for itself lies on while the rounds go.
-/
namespace Go.Proofs.YtpkhblhcdnohmaaGreatDoor
open Go.ChangeShapes Go.WideShapes Go.ChangeAt Go.RowKit Go.Maps Go.WideMaps Go.Shelf
set_option linter.unusedVariables false
set_option maxRecDepth 100000

theorem grown_of {A B : World} (h : Below A.heap.size A B) : A.grownBy B none := ⟨h.os, h.tape, h.output, h.size, fun k hk _ => h.block k hk⟩

theorem range_bound {α : Type} {F : Fence} {n : Nat} {P : Program} {g : Operand} {ps : Array Tmp} {assign body : Code} {Q : Exit → Act → World → Prop} {a : Act} {w : World}
    (hro : F.round = none) (h1 : 1 ≤ n) {gf : Nat} {bs : Array Value} (hg : a.eval g = .func (.func gf) bs #[]) (hFg : F.fn gf) (eg : ∀ args w, (callFunc gf args).run P w = .ok (.enter gf args) w)
    {encs : α → Array Value} (hps : ∀ x, (encs x).size = ps.size) (xs : List α)
    (hseq : ∀ (l : Nat) (J : Option Nat → List α → World → Prop) (W : World), Below w.heap.size w W →
      (∀ q s A B, J q s A → Below A.heap.size A B → J q s B) →
      (∀ s A B b, J none s A → Below A.heap.size A B → A.heap.size ≤ b → b < B.heap.size → J (some b) s B) →
      (∀ q pre x W1, J q pre W1 → pre.length < xs.length → YieldAt F (n - 1 - 1) P l (encs x) W1 fun e W' => e = .returned (.bool true) ∧ J q (pre ++ [x]) W' ∧ ∀ b, q = some b → b < W1.heap.size → W'.heap[b]? = W1.heap[b]?) →
      J none [] W → CallsIn F (n - 1) P gf (bs ++ #[.func (.yield l) #[] #[]]) W fun e W' => (∃ v, e = .returned v) ∧ ∃ q, J q xs W')
    (I : Option Nat → List α → World → Prop) (hI : ∀ q, OwnFrom w.heap.size (I q)) (hIn : ∀ s A B b, I none s A → Below A.heap.size A B → A.heap.size ≤ b → b < B.heap.size → I (some b) s B) (h0 : I none [] w) (a₁ : α → Act)
    (hassign : ∀ (l : Nat) (x : α) (W : World) (K : Act → World → Prop), K (a₁ x) W →
      assign.wpIn (F.inRound l) (n - 1 - 1) P (Exit.then K (fun _ _ _ => False)) { tmps := (ps.zip (encs x)).foldl (fun t (p, v) => t.setIfInBounds p v) a.tmps, defers := [] } W)
    (hbody : ∀ (l : Nat) (q : Option Nat) (pre : List α) (x : α) (W : World), I q pre W → pre.length < xs.length →
      body.wpIn (F.inRound l) (n - 1 - 1) P (fun e _ W' => e = .normal ∧ KeepsOthers W W' ∧ I q (pre ++ [x]) W' ∧ ∀ b, q = some b → b < W.heap.size → W'.heap[b]? = W.heap[b]?) (a₁ x) W)
    (hdone : ∀ (D : Nat) (q : Option Nat) (W : World), w.heap.size ≤ D → I q xs W → W.heap[D]? = some (.deferred (some [])) → Q .normal { a with defers := { target := .collected D, args := #[] } :: a.defers } W) :
    (Code.rangeFunc g ps assign body).wpIn F n P Q a w := by
  refine wpIn_rangeFunc fun fn hfn => ?_
  rw [hro]
  obtain ⟨R, hR⟩ : ∃ R : LoopState → Loop, R = fun st => { state := st, pending := none, fn := fn, tmps := a.tmps, params := ps, assign := assign, body := body, defers := w.heap.size } := ⟨_, rfl⟩
  obtain ⟨L, hL⟩ : ∃ L, L = w.heap.size + 1 := ⟨_, rfl⟩
  obtain ⟨W1, hW1⟩ : ∃ W1, W1 = (w.alloc (.deferred (some []))).alloc (.loop (R .ready)) := ⟨_, rfl⟩
  have b1 : Below w.heap.size w W1 := by rw [hW1]; exact ((Below.refl _ w).alloc (Nat.le_refl _) _).alloc (by simp) _
  have l1 : W1.heap[L]? = some (.loop (R .ready)) := by
    have := World.alloc_heap_new (w.alloc (.deferred (some []))) (.loop (R .ready))
    rw [World.size_alloc] at this
    rw [hW1, hL]; exact this
  have k1 : W1.heap[w.heap.size]? = some (.deferred (some [])) := by rw [hW1]; exact (Below.heap_alloc _ _ _ (by simp)).trans (World.alloc_heap_new w _)
  have i1 : I none [] W1 := by rw [hW1]; exact (hI none).alloc _ ((hI none).alloc _ h0)
  have hLw : w.heap.size ≤ L := by omega
  have hLn : w.heap.size ≠ L := by omega
  refine ⟨L, [{ target := .collected w.heap.size, args := #[] }], W1, { target := .fn (.func gf) #[], args := bs ++ #[.func (.yield L) #[] #[]] }, W1, gf, bs ++ #[.func (.yield L) #[] #[]], W1, ?_, ?_, ?_, ?_, fun _ => h1, ?_⟩
  · rw [hW1, hR, hL]; exact run_enterLoop_outer _ _ _ _ _
  · simp only [resolve, hg]
    simp [go_sem]
  · intro f' hf'; simp [Target.leads] at hf'; subst hf'; exact hFg
  · simp [invoke, go_sem, eg]
  · refine (hseq L (fun q s W => I q s W ∧ W.heap[L]? = some (.loop (R .ready)) ∧ W.heap[w.heap.size]? = some (.deferred (some [])) ∧ ∀ b, q = some b → L < b) W1 b1 ?_ ?_ ?_ ⟨i1, l1, k1, fun b e => by cases e⟩).mono ?_
    · rintro q s A B ⟨ha, hb, hc, hd⟩ hAB
      exact ⟨hI q s A B none ha (grown_of hAB) (fun r e => by cases e), (hAB.block _ (Array.getElem?_eq_some_iff.1 hb).1).trans hb, (hAB.block _ (Array.getElem?_eq_some_iff.1 hc).1).trans hc, hd⟩
    · rintro s A B b ⟨ha, hb, hc, hd⟩ hAB hbs hbB
      exact ⟨hIn s A B b ha hAB hbs hbB, (hAB.block _ (Array.getElem?_eq_some_iff.1 hb).1).trans hb, (hAB.block _ (Array.getElem?_eq_some_iff.1 hc).1).trans hc, fun b' e => by cases e; have := (Array.getElem?_eq_some_iff.1 hb).1; omega⟩
    · rintro q pre x W ⟨hi, hl, hk, hq⟩ hlen
      have hlt : L < W.heap.size := (Array.getElem?_eq_some_iff.1 hl).1
      have hy := run_yield (P := P) (args := encs x) hl (by rw [hR]; exact hps x)
      rw [hR] at hy
      refine ⟨fn, _, assign, body, hy, roundIn_of_wpIn hfn (hassign _ x W _ ⟨_, run_beginRound hl (by rw [hR]), ?_⟩)⟩
      refine wpIn_mono (hbody _ q pre x _ ((hI q).putObj _ hi hLw hl rfl) hlen) ?_
      rintro e a3 W3 ⟨rfl, hk3, hi3, hq3⟩
      have hl2 := hk3.same L _ (World.putObj_heap_same hlt) rfl
      have hk2 := hk3.same w.heap.size _ ((World.putObj_heap_other hLn).trans hk) rfl
      have hr := run_endRound (P := P) none hl2
      refine ⟨_, _, hr, rfl, ⟨(hI q).putObj _ hi3 hLw hl2 rfl, ?_, (World.putObj_heap_other hLn).trans hk2, hq⟩, ?_⟩
      · rw [World.putObj_heap_same (Array.getElem?_eq_some_iff.1 hl2).1, hR]; rfl
      · intro b hb hbl
        have hbL : b ≠ L := by have := hq b hb; omega
        rw [World.putObj_heap_other hbL, hq3 b hb (by simpa using hbl), World.putObj_heap_other hbL]
    · rintro e W2 ⟨⟨v, rfl⟩, q, hi, hl, hk, -⟩
      have he := run_endLoop (P := P) hl (by rw [hR]; simp)
      refine ⟨none, _, by rw [hR] at he; exact he, hdone _ q _ (Nat.le_refl _) ((hI q).putObj _ hi hLw hl rfl) ((World.putObj_heap_other hLn).trans hk)⟩
end Go.Proofs.YtpkhblhcdnohmaaGreatDoor
/-
  slices.Backward over a row of expressions, by contract: a loop that goes on to its end, and may write the map in block mb.
-/
namespace Go.Proofs.YtpkhblhcdnohmaaGreatDoor
open Go.ChangeShapes Go.WideShapes Go.ChangeAt Go.RowKit Go.Maps Go.WideMaps Go.Shelf
set_option linter.unusedVariables false
set_option maxRecDepth 100000
attribute [local go_sem] Oper.semAt_some

/-- What lay below n₀ lies on, but for block mb. -/
def KeepN (n₀ mb : Nat) (W W' : World) : Prop := W.heap.size ≤ W'.heap.size ∧ ∀ g, g < n₀ → g ≠ mb → W'.heap[g]? = W.heap[g]?
theorem KeepN.cell {n₀ mb : Nat} {W W' : World} (h : KeepN n₀ mb W W') {g j : Nat} (hg : g < n₀) (hm : g ≠ mb) : W'.cell? ⟨g, j, none⟩ = W.cell? ⟨g, j, none⟩ := World.cell?_of_block (h.2 g hg hm)
/-- The first k of a row's cells from its end, each with its index. -/
def backAt (L : List (List Value)) (k : Nat) : List (Nat × List Value) := (List.range k).map fun j => (L.length - 1 - j, L.getD (L.length - 1 - j) [])
theorem backAt_succ (L : List (List Value)) (k : Nat) : backAt L (k + 1) = backAt L k ++ [(L.length - 1 - k, L.getD (L.length - 1 - k) [])] := by simp [backAt, List.range_succ]

set_option maxHeartbeats 4000000 in
theorem back1_in (m : Nat) (l Bn n₀ mb n cap : Nat) (p : Option Addr) (L : List (List Value)) (hn : L.length = n) (hnb : n ≤ 9223372036854775807) (hB : Bn < n₀) (hBm : Bn ≠ mb) (J Jx : List (Nat × List Value) → World → Prop)
    (hY : ∀ pre x W, J pre W → pre.length < n → YieldAt Fence.wide m Tryz.prog l #[.int .i64 (x.1 : Nat), .agg x.2.toArray] W fun e W' => (e = .returned (.bool true) ∧ J (pre ++ [x]) W' ∧ KeepN n₀ mb W W') ∨ (e = .returned (.bool false) ∧ Jx (pre ++ [x]) W'))
    (W : World) (hc : W.cell? ⟨Bn, 0, none⟩ = some (.slice p n cap))
    (hL : ∀ i cs, L[i]? = some cs → cs.length = 6 ∧ ∃ g off, p = some ⟨g, off, none⟩ ∧ g < n₀ ∧ g ≠ mb ∧ ∀ j, j < 6 → W.cell? ⟨g, off + i * 6 + j, none⟩ = cs[j]?) (h0 : J [] W) :
    CallsIn Fence.wide (m + 1) Tryz.prog 94 #[.func (.yield l) #[] #[], .pointer (some ⟨Bn, 0, none⟩)] W fun e W' => (∃ v, e = .returned v) ∧ (J (backAt L n) W' ∨ ∃ pre, Jx pre W') := by
  have HL : Hid (∀ i cs, L[i]? = some cs → cs.length = 6 ∧ ∃ g off, p = some ⟨g, off, none⟩ ∧ g < n₀ ∧ g ≠ mb ∧ ∀ j, j < 6 → W.cell? ⟨g, off + i * 6 + j, none⟩ = cs[j]?) := hL
  have HN : Hid (L.length = n) := hn
  clear hL hn
  refine callsIn_of_wp Tryz.func94 rfl trivial ?_ rfl
  simp only [Tryz.ntmps94, List.size_toArray, List.length_cons, List.length_nil, Nat.reduceAdd, Nat.reduceSub, Array.replicate_succ, Array.replicate_zero, List.push_toArray, List.append_toArray, List.nil_append, List.cons_append]
  gi_wp2
  gi_loopw [3] (fun iv wr => ∃ k : Nat, k ≤ n ∧ iv = .int .i64 ((n : Int) - 1 - k) ∧ Hid (J (backAt L k) wr) ∧ Hid (KeepN n₀ mb W wr)) (fun iv _ => (intOf iv + 1).toNat)
  case atStart => exact ⟨0, Nat.zero_le _, by go_num, h0, Nat.le_refl _, fun _ _ _ => rfl⟩
  case round =>
    obtain ⟨k, hk, rfl, HJ, HK⟩ := hrel
    have xb := (HK.out.cell (j := 0) hB hBm).trans hc
    by_cases hlt : k < n
    · obtain ⟨i, hi⟩ : ∃ i, i = n - 1 - k := ⟨_, rfl⟩
      have hin : i < n := by omega
      have hii : (n : Int) - 1 - k = (i : Int) := by omega
      obtain ⟨cs, hcs⟩ : ∃ cs, L[i]? = some cs := ⟨L[i]'(by rw [HN.out]; exact hin), List.getElem?_eq_getElem _⟩
      obtain ⟨hl6, g, off, rfl, hg, hgm, hat⟩ := HL.out i cs hcs
      obtain ⟨c0, c1, c2, c3, c4, c5, rfl⟩ := len6 hl6
      have a0 := (HK.out.cell hg hgm).trans (hat 0 (by omega))
      have a1 := (HK.out.cell hg hgm).trans (hat 1 (by omega))
      have a2 := (HK.out.cell hg hgm).trans (hat 2 (by omega))
      have a3 := (HK.out.cell hg hgm).trans (hat 3 (by omega))
      have a4 := (HK.out.cell hg hgm).trans (hat 4 (by omega))
      have a5 := (HK.out.cell hg hgm).trans (hat 5 (by omega))
      simp at a0 a1 a2 a3 a4 a5
      have HT : Hid (backAt L (k + 1) = backAt L k ++ [(i, [c0, c1, c2, c3, c4, c5])]) := by
        show _ = _
        rw [backAt_succ, HN.out, ← hi, List.getD_eq_getElem?_getD, hcs]
        rfl
      obtain ⟨fn, tmps, assign, body, hy, hR⟩ := hY (backAt L k) (i, [c0, c1, c2, c3, c4, c5]) wr HJ.out (by simp [backAt]; exact hlt)
      have hi0 : (0 : Int) ≤ (i : Int) := by omega
      have hi1 : (i : Int) < (n : Int) := by omega
      have HII : Hid ((n : Int) - 1 - k = (i : Int)) := hii
      have HIK : Hid (i = n - 1 - k) := hi
      rw [hii]
      clear hat hl6 hi hii
      gi_wp2
      refine hR.mono ?_
      rintro e W3 (⟨rfl, hJ3, hk3⟩ | ⟨rfl, hx3⟩)
      rotate_left
      · gi_wp2
        refine bodyPost_ret (results_none rfl _ _ _) rfl ?_
        exact ⟨⟨_, rfl⟩, .inr ⟨_, hx3⟩⟩
      gi_wp2
      go_roundw
      case rel => exact ⟨k + 1, by omega, by have := HII.out; go_num, by show J _ _; rw [HT.out]; exact hJ3, Nat.le_trans HK.out.1 hk3.1, fun g hg hm => (hk3.2 g hg hm).trans (HK.out.2 g hg hm)⟩
      case measure => simp [intOf]
    · have HS : J (backAt L n) wr := by
        have := HJ.out
        rwa [show k = n by omega] at this
      have hneg : ((n : Int) - 1 - k) = -1 := by omega
      rw [hneg]
      gi_wp2
      go_end0
      exact ⟨⟨_, rfl⟩, .inl HS⟩
/-- The iterator's contract, as the library's laws for a caller's loop want it. -/
theorem back_stops (m Bn n₀ mb n cap : Nat) (p : Option Addr) (L : List (List Value)) (hn : L.length = n) (hnb : n ≤ 9223372036854775807) (hB : Bn < n₀) (hBm : Bn ≠ mb) (w : World) (hw : n₀ ≤ w.heap.size) (hc : w.cell? ⟨Bn, 0, none⟩ = some (.slice p n cap))
    (hL : ∀ i cs, L[i]? = some cs → cs.length = 6 ∧ ∃ g off, p = some ⟨g, off, none⟩ ∧ g < n₀ ∧ g ≠ mb ∧ ∀ j, j < 6 → w.cell? ⟨g, off + i * 6 + j, none⟩ = cs[j]?) :
    SeqStopsK Fence.wide (m + 1) Tryz.prog 94 #[.pointer (some ⟨Bn, 0, none⟩)] (fun x : Nat × List Value => #[.int .i64 (x.1 : Nat), .agg x.2.toArray]) (KeepN n₀ mb) (fun xs => xs = backAt L n) (fun _ => True) n w := by
  intro l J Jx W hW _ _ hY h0
  refine (back1_in m l Bn n₀ mb n cap p L hn hnb hB hBm J Jx hY W ((hW.cell (p := ⟨Bn, 0, none⟩) (Nat.lt_of_lt_of_le hB hw)).trans hc) (fun i cs hi => ?_) h0).mono ?_
  · obtain ⟨h1, g, off, h2, h3, h4, h5⟩ := hL i cs hi
    exact ⟨h1, g, off, h2, h3, h4, fun j hj => (hW.cell (p := ⟨g, _, none⟩) (Nat.lt_of_lt_of_le h3 hw)).trans (h5 j hj)⟩
  · rintro e W' ⟨hv, h | ⟨pre, h⟩⟩
    · exact ⟨hv, .inl ⟨_, rfl, h⟩⟩
    · exact ⟨hv, .inr ⟨pre, trivial, h⟩⟩
theorem keepN_t {n₀ mb : Nat} {A B C : World} (h : KeepN n₀ mb A B) (k : KeepN n₀ mb B C) : KeepN n₀ mb A C := ⟨Nat.le_trans h.1 k.1, fun g hg hm => (k.2 g hg hm).trans (h.2 g hg hm)⟩
theorem keepN_b {n₀ mb : Nat} {w : World} (hw : n₀ ≤ w.heap.size) (W : World) (l : Nat) (o o' : Obj) (hl : w.heap.size ≤ l) (_ : W.heap[l]? = some o) (_ : o.isCells = false) (_ : o.isWalk = false) : KeepN n₀ mb W (W.putObj l o') :=
  ⟨by simp, fun g hg _ => World.putObj_heap_other (by omega)⟩
end Go.Proofs.YtpkhblhcdnohmaaGreatDoor
/-
  A range over slices.Backward of a row of expressions, told by the rounds' numbers: each round is told which element it has; the body writes the map in block mb and makes memory, no more.
-/
namespace Go.Proofs.YtpkhblhcdnohmaaGreatDoor
open Go.ChangeShapes Go.WideShapes Go.ChangeAt Go.RowKit Go.Maps Go.WideMaps Go.Shelf
set_option linter.unusedVariables false
set_option maxRecDepth 100000
attribute [local go_sem] Oper.semAt_some

theorem below_put {N : Nat} {W : World} {l : Nat} (o' : Obj) (h : N ≤ l) : Below N W (W.putObj l o') := by
  have g := grownBy_putObj' W l o'
  refine ⟨g.os, g.tape, g.output, g.size, fun k hk => World.putObj_heap_other (by omega)⟩

theorem range_idx {F : Fence} {n : Nat} {P : Program} {g : Operand} {ps : Array Tmp} {assign body : Code} {Q : Exit → Act → World → Prop} {a : Act} {w : World}
    (hro : F.round = none) (h1 : 1 ≤ n) {gf : Nat} {lb : Array Value} (hg : a.eval g = .func (.func gf) #[] lb) (hFg : F.fn gf) (eg : ∀ args w, (callFunc gf args).run P w = .ok (.enter gf args) w)
    {encs : Nat → Array Value} (hps : ∀ k, (encs k).size = ps.size) (N mb : Nat) (hmb : mb < w.heap.size)
    (hseq : ∀ (l : Nat) (J : Nat → World → Prop) (W : World), Below w.heap.size w W →
      (∀ k W1, J k W1 → k < N → YieldAt F (n - 1 - 1) P l (encs k) W1 fun e W' => e = .returned (.bool true) ∧ J (k + 1) W' ∧ KeepN w.heap.size mb W1 W') →
      J 0 W → CallsIn F (n - 1) P gf (#[.func (.yield l) #[] #[]] ++ lb) W fun e W' => (∃ v, e = .returned v) ∧ J N W')
    (I : Nat → World → Prop) (hI : ∀ k A B, I k A → w.heap.size ≤ A.heap.size → Below w.heap.size A B → I k B) (h0 : I 0 w)
    (hround : ∀ (l k : Nat) (W : World), I k W → w.heap.size ≤ W.heap.size → k < N → w.heap.size ≤ l →
      assign.wpIn (F.inRound l) (n - 1 - 1) P (Exit.then (fun a' W' => Off [mb] W W' ∧ ∀ r o', W'.heap[l]? = some (.loop r) → body.wpIn (F.inRound l) (n - 1 - 1) P (fun e _ W3 => e = .normal ∧ I (k + 1) W3 ∧ Off [mb] (W'.putObj l o') W3) a' (W'.putObj l o')) (fun _ _ _ => False))
        { tmps := (ps.zip (encs k)).foldl (fun t (p, v) => t.setIfInBounds p v) a.tmps, defers := [] } W)
    (hdone : ∀ (D : Nat) (W : World), w.heap.size ≤ D → I N W → W.heap[D]? = some (.deferred (some [])) → Q .normal { a with defers := { target := .collected D, args := #[] } :: a.defers } W) :
    (Code.rangeFunc g ps assign body).wpIn F n P Q a w := by
  refine wpIn_rangeFunc fun fn hfn => ?_
  rw [hro]
  obtain ⟨R, hR⟩ : ∃ R : LoopState → Loop, R = fun st => { state := st, pending := none, fn := fn, tmps := a.tmps, params := ps, assign := assign, body := body, defers := w.heap.size } := ⟨_, rfl⟩
  obtain ⟨L, hL⟩ : ∃ L, L = w.heap.size + 1 := ⟨_, rfl⟩
  obtain ⟨W1, hW1⟩ : ∃ W1, W1 = (w.alloc (.deferred (some []))).alloc (.loop (R .ready)) := ⟨_, rfl⟩
  have b1 : Below w.heap.size w W1 := by rw [hW1]; exact ((Below.refl _ w).alloc (Nat.le_refl _) _).alloc (by simp) _
  have l1 : W1.heap[L]? = some (.loop (R .ready)) := by
    have := World.alloc_heap_new (w.alloc (.deferred (some []))) (.loop (R .ready))
    rw [World.size_alloc] at this
    rw [hW1, hL]; exact this
  have k1 : W1.heap[w.heap.size]? = some (.deferred (some [])) := by rw [hW1]; exact (Below.heap_alloc _ _ _ (by simp)).trans (World.alloc_heap_new w _)
  have hLw : w.heap.size ≤ L := by omega
  have hLn : w.heap.size ≠ L := by omega
  refine ⟨L, [{ target := .collected w.heap.size, args := #[] }], W1, { target := .fn (.func gf) lb, args := #[.func (.yield L) #[] #[]] }, W1, gf, #[.func (.yield L) #[] #[]] ++ lb, W1, ?_, ?_, ?_, ?_, fun _ => h1, ?_⟩
  · rw [hW1, hR, hL]; exact run_enterLoop_outer _ _ _ _ _
  · simp only [resolve, hg]
    simp [go_sem]
  · intro f' hf'; simp [Target.leads] at hf'; subst hf'; exact hFg
  · simp [invoke, go_sem, eg]
  · refine (hseq L (fun k W => I k W ∧ W.heap[L]? = some (.loop (R .ready)) ∧ W.heap[w.heap.size]? = some (.deferred (some [])) ∧ w.heap.size ≤ W.heap.size) W1 b1 ?_ ⟨hI 0 w W1 h0 (Nat.le_refl _) b1, l1, k1, b1.size⟩).mono ?_
    · rintro k W ⟨hi, hl, hk, hs⟩ hlen
      have hlt : L < W.heap.size := (Array.getElem?_eq_some_iff.1 hl).1
      have hdlt : w.heap.size < W.heap.size := (Array.getElem?_eq_some_iff.1 hk).1
      have hy := run_yield (P := P) (args := encs k) hl (by rw [hR]; exact hps k)
      rw [hR] at hy
      refine ⟨fn, _, assign, body, hy, roundIn_of_wpIn hfn (wpIn_mono (hround L k W hi hs hlen hLw) ?_)⟩
      rintro e a' W' hp
      cases e with
      | normal =>
        obtain ⟨ho, hb⟩ := hp
        have hmL : L ∉ [mb] := by simp; omega
        have hmD : w.heap.size ∉ [mb] := by simp; omega
        have hl' : W'.heap[L]? = some (.loop (R .ready)) := (ho.block L hlt hmL).trans hl
        have hk' : W'.heap[w.heap.size]? = some (.deferred (some [])) := (ho.block _ hdlt hmD).trans hk
        have hlt' : L < W'.heap.size := (Array.getElem?_eq_some_iff.1 hl').1
        refine ⟨_, run_beginRound hl' (by rw [hR]), wpIn_mono (hb _ _ hl') ?_⟩
        rintro e a3 W3 ⟨rfl, hi3, ho3⟩
        have hlp := World.putObj_heap_same (o := .loop { R .ready with state := .busy }) hlt'
        have hl2 := (ho3.block L (by simpa using hlt') hmL).trans hlp
        have hk2 := (ho3.block w.heap.size (by have := ho.size; simp; omega) hmD).trans ((World.putObj_heap_other hLn).trans hk')
        have hr := run_endRound (P := P) none hl2
        have hsz3 : W.heap.size ≤ W3.heap.size := Nat.le_trans ho.size (by have := ho3.size; simpa using this)
        refine ⟨_, _, hr, rfl, ⟨hI _ W3 _ hi3 (Nat.le_trans hs hsz3) (below_put _ hLw), ?_, (World.putObj_heap_other hLn).trans hk2, by simp; omega⟩, ?_⟩
        · rw [World.putObj_heap_same (Array.getElem?_eq_some_iff.1 hl2).1, hR]; rfl
        · refine ⟨by simp; omega, fun b hb hm => ?_⟩
          have hbL : b ≠ L := by omega
          have hbm : b ∉ [mb] := by simpa using hm
          rw [World.putObj_heap_other hbL, ho3.block b (by have := ho.size; simp; omega) hbm, World.putObj_heap_other hbL]
          exact ho.block b (by omega) hbm
      | _ => exact hp.elim
    · rintro e W2 ⟨⟨v, rfl⟩, hi, hl, hk, hs⟩
      have he := run_endLoop (P := P) hl (by rw [hR]; simp)
      refine ⟨none, _, by rw [hR] at he; exact he, hdone _ _ (Nat.le_refl _) (hI _ W2 _ hi hs (below_put _ hLw)) ((World.putObj_heap_other hLn).trans hk)⟩

set_option maxHeartbeats 4000000 in
theorem back_idx (m : Nat) (l Bn n₀ mb n cap : Nat) (p : Option Addr) (L : List (List Value)) (hn : L.length = n) (hnb : n ≤ 9223372036854775807) (hB : Bn < n₀) (hBm : Bn ≠ mb) (J : Nat → World → Prop)
    (hY : ∀ k W, J k W → k < n → YieldAt Fence.wide m Tryz.prog l #[.int .i64 ((n - 1 - k : Nat) : Nat), .agg (L.getD (n - 1 - k) []).toArray] W fun e W' => e = .returned (.bool true) ∧ J (k + 1) W' ∧ KeepN n₀ mb W W')
    (W : World) (hc : W.cell? ⟨Bn, 0, none⟩ = some (.slice p n cap))
    (hL : ∀ i cs, L[i]? = some cs → cs.length = 6 ∧ ∃ g off, p = some ⟨g, off, none⟩ ∧ g < n₀ ∧ g ≠ mb ∧ ∀ j, j < 6 → W.cell? ⟨g, off + i * 6 + j, none⟩ = cs[j]?) (h0 : J 0 W) :
    CallsIn Fence.wide (m + 1) Tryz.prog 94 #[.func (.yield l) #[] #[], .pointer (some ⟨Bn, 0, none⟩)] W fun e W' => (∃ v, e = .returned v) ∧ J n W' := by
  have HL : Hid (∀ i cs, L[i]? = some cs → cs.length = 6 ∧ ∃ g off, p = some ⟨g, off, none⟩ ∧ g < n₀ ∧ g ≠ mb ∧ ∀ j, j < 6 → W.cell? ⟨g, off + i * 6 + j, none⟩ = cs[j]?) := hL
  have HN : Hid (L.length = n) := hn
  have HY : Hid (∀ k W, J k W → k < n → YieldAt Fence.wide m Tryz.prog l #[.int .i64 ((n - 1 - k : Nat) : Nat), .agg (L.getD (n - 1 - k) []).toArray] W fun e W' => e = .returned (.bool true) ∧ J (k + 1) W' ∧ KeepN n₀ mb W W') := hY
  clear hL hn hY
  refine callsIn_of_wp Tryz.func94 rfl trivial ?_ rfl
  simp only [Tryz.ntmps94, List.size_toArray, List.length_cons, List.length_nil, Nat.reduceAdd, Nat.reduceSub, Array.replicate_succ, Array.replicate_zero, List.push_toArray, List.append_toArray, List.nil_append, List.cons_append]
  gi_wp2
  gi_loopw [3] (fun iv wr => ∃ k : Nat, k ≤ n ∧ iv = .int .i64 ((n : Int) - 1 - k) ∧ Hid (J k wr) ∧ Hid (KeepN n₀ mb W wr)) (fun iv _ => (intOf iv + 1).toNat)
  case atStart => exact ⟨0, Nat.zero_le _, by go_num, h0, Nat.le_refl _, fun _ _ _ => rfl⟩
  case round =>
    obtain ⟨k, hk, rfl, HJ, HK⟩ := hrel
    have xb := (HK.out.cell (j := 0) hB hBm).trans hc
    by_cases hlt : k < n
    · obtain ⟨i, hi⟩ : ∃ i, i = n - 1 - k := ⟨_, rfl⟩
      have hin : i < n := by omega
      have hii : (n : Int) - 1 - k = (i : Int) := by omega
      obtain ⟨cs, hcs⟩ : ∃ cs, L[i]? = some cs := ⟨L[i]'(by rw [HN.out]; exact hin), List.getElem?_eq_getElem _⟩
      obtain ⟨hl6, g, off, rfl, hg, hgm, hat⟩ := HL.out i cs hcs
      obtain ⟨c0, c1, c2, c3, c4, c5, rfl⟩ := len6 hl6
      have a0 := (HK.out.cell hg hgm).trans (hat 0 (by omega))
      have a1 := (HK.out.cell hg hgm).trans (hat 1 (by omega))
      have a2 := (HK.out.cell hg hgm).trans (hat 2 (by omega))
      have a3 := (HK.out.cell hg hgm).trans (hat 3 (by omega))
      have a4 := (HK.out.cell hg hgm).trans (hat 4 (by omega))
      have a5 := (HK.out.cell hg hgm).trans (hat 5 (by omega))
      simp at a0 a1 a2 a3 a4 a5
      have hgd : L.getD i [] = [c0, c1, c2, c3, c4, c5] := by rw [List.getD_eq_getElem?_getD, hcs]; rfl
      have hyy := HY.out k wr HJ.out hlt
      rw [← hi, hgd] at hyy
      obtain ⟨fn, tmps, assign, body, hy, hR⟩ := hyy
      have hi0 : (0 : Int) ≤ (i : Int) := by omega
      have hi1 : (i : Int) < (n : Int) := by omega
      have HII : Hid ((n : Int) - 1 - k = (i : Int)) := hii
      rw [hii]
      clear hat hl6 hi hii hgd
      gi_wp2
      refine hR.mono ?_
      rintro e W3 ⟨rfl, hJ3, hk3⟩
      gi_wp2
      go_roundw
      case rel => exact ⟨k + 1, by omega, by have := HII.out; go_num, hJ3, Nat.le_trans HK.out.1 hk3.1, fun g hg hm => (hk3.2 g hg hm).trans (HK.out.2 g hg hm)⟩
      case measure => simp [intOf]
    · have HS : J n wr := by
        have := HJ.out
        rwa [show k = n by omega] at this
      have hneg : ((n : Int) - 1 - k) = -1 := by omega
      rw [hneg]
      gi_wp2
      go_end0
      exact ⟨⟨_, rfl⟩, HS⟩
theorem back_any (p : Option Addr) (n cap : Nat) (w : World) : Calls Tryz.prog 79 #[.slice p n cap] w fun e w' => e = .returned (.func (.func 94) #[] #[.pointer (some ⟨w.heap.size, 0, none⟩)]) ∧ w' = w.alloc (.cells #[.slice p n cap] 46) := by
  go_enter Tryz.func79, Tryz.ntmps79
  go_wp2
  go_ret
  exact ⟨rfl, rfl⟩
end Go.Proofs.YtpkhblhcdnohmaaGreatDoor
/-
  Chapter 4, plain mathematics: the variables of patterns, what is bound.
-/
namespace Go.Proofs.YtpkhblhcdnohmaaGreatDoor
open Go.ChangeShapes Go.WideShapes Go.ChangeAt Go.RowKit
set_option linter.unusedVariables false

/-- Names of one behind the other, each once. -/
def foldV {α : Type} (f : α → List ByteArray) (l : List ByteArray) (ks : List α) : List ByteArray := ks.foldl (fun acc y => onceS acc (f y)) l
theorem foldV_snoc {α : Type} (f : α → List ByteArray) (l : List ByteArray) (ks : List α) (k : Nat) (y : α) (h : ks[k]? = some y) : foldV f l (ks.take (k + 1)) = onceS (foldV f l (ks.take k)) (f y) := by
  unfold foldV
  rw [List.take_add_one, h]
  simp
theorem foldV_len {α : Type} (f : α → List ByteArray) (wt : α → Nat) : ∀ (ks : List α) (l : List ByteArray), (∀ y ∈ ks, (f y).length ≤ 1 + wt y) → (foldV f l ks).length ≤ l.length + wtS wt ks
  | [], l, _ => by simp [foldV]
  | y :: ys, l, h => by
    have h1 := foldV_len f wt ys (onceS l (f y)) (fun z hz => h z (by simp [hz]))
    have h2 := onceS_length l (f y)
    have h3 := h y (by simp)
    have h4 : wtS wt (y :: ys) = 1 + wt y + wtS wt ys := by simp [wtS]; omega
    have h5 : foldV f l (y :: ys) = foldV f (onceS l (f y)) ys := rfl
    rw [h5, h4]; omega
theorem foldV_mem {α : Type} (f : α → List ByteArray) : ∀ (ks : List α) (l : List ByteArray), ∀ s ∈ foldV f l ks, s ∈ l ∨ ∃ y ∈ ks, s ∈ f y
  | [], l, s, h => .inl h
  | y :: ys, l, s, h => by
    rcases foldV_mem f ys (onceS l (f y)) s h with h | ⟨z, hz, hs⟩
    · rcases onceS_mem l (f y) s h with h | h
      · exact .inl h
      · exact .inr ⟨y, by simp, h⟩
    · exact .inr ⟨z, by simp [hz], hs⟩

/-- The variables of a pattern. -/
def patV : Nat → Ex → List ByteArray
  | 0, _ => []
  | d + 1, .mk k n t m ks cs => foldV (patV d) (if k = 2 then [t] else []) ks
theorem patV_len : ∀ (d : Nat) (x : Ex), (patV d x).length ≤ 1 + wtEx d x
  | 0, _ => by simp [patV]
  | d + 1, .mk k n t m ks cs => by
    have h1 := foldV_len (patV d) (wtEx d) ks (if k = 2 then [t] else []) (fun y _ => patV_len d y)
    have h2 : (if k = 2 then [t] else ([] : List ByteArray)).length ≤ 1 := by split <;> simp
    have hw : wtEx (d + 1) (.mk k n t m ks cs) = t.size + m.size + wtS (wtEx d) ks + wtS (wtCl (wtEx d)) cs := rfl
    have h3 : patV (d + 1) (.mk k n t m ks cs) = foldV (patV d) (if k = 2 then [t] else []) ks := rfl
    rw [h3, hw]; omega
/-- What is bound behind an expression. -/
def bndV : Nat → Ex → List ByteArray
  | 0, _ => []
  | d + 1, .mk k n t m ks cs => match k, ks with
    | 9, [a, b] => onceS (bndV d b) (patV d a)
    | _, ks => foldV (bndV d) [] ks
/-- The texts of an expression are as long as any may be. -/
def exS : Nat → Ex → Prop
  | 0, _ => False
  | d + 1, .mk k n t m ks cs => okS t ∧ (∀ y ∈ ks, exS d y) ∧ ∀ c ∈ cs, (∀ y ∈ c.1, exS d y) ∧ ∀ y ∈ c.2, exS d y
theorem rows_mem' {α : Type} {w : World} {S : Nat → Prop} {c : Nat} {R : List Value → α → Prop} {v : Value} {es : List α} (h : Rows w S c R v es) : ∀ y ∈ es, ∃ cs, R cs y := by
  intro y hy
  obtain ⟨p, cap, _, _, _, hr⟩ := h
  obtain ⟨i, hi⟩ := List.mem_iff_getElem?.1 hy
  obtain ⟨g, off, _, _, _, hat⟩ := hr (by intro e; rw [e] at hi; simp at hi)
  obtain ⟨cs, _, _, hv⟩ := hat i y hi
  exact ⟨cs, hv⟩
theorem HEx.txts {w : World} {S : Nat → Prop} : ∀ {d : Nat} {cs : List Value} {x : Ex}, HEx w S d cs x → exS d x
  | 0, _, _, h => h.elim
  | d + 1, cs, .mk k n t m ks cl, h => by
    obtain ⟨kv, cv, rfl, h1, h2, h3, h4, f0, f1⟩ := h
    refine ⟨h3, fun y hy => ?_, fun c hc => ?_⟩
    · obtain ⟨_, hv⟩ := rows_mem' f0 y hy
      exact hv.txts
    · obtain ⟨_, p, b, _, g0, g1⟩ := rows_mem' f1 c hc
      exact ⟨fun y hy => by obtain ⟨_, hv⟩ := rows_mem' g0 y hy; exact hv.txts, fun y hy => by obtain ⟨_, hv⟩ := rows_mem' g1 y hy; exact hv.txts⟩
theorem patV_ok : ∀ (d : Nat) (x : Ex), exS d x → ∀ s ∈ patV d x, okS s
  | 0, _, h, _, _ => h.elim
  | d + 1, .mk k n t m ks cs, h, s, hs => by
    rcases foldV_mem (patV d) ks _ s hs with h1 | ⟨y, hy, h1⟩
    · split at h1
      · simp at h1; subst h1; exact h.1
      · simp at h1
    · exact patV_ok d y (h.2.1 y hy) s h1
end Go.Proofs.YtpkhblhcdnohmaaGreatDoor
/-
  Chapter 4, plain mathematics: all variables of an expression, each once; how many they can be.
-/
namespace Go.Proofs.YtpkhblhcdnohmaaGreatDoor
open Go.ChangeShapes Go.WideShapes Go.ChangeAt Go.RowKit
set_option linter.unusedVariables false

abbrev keyS (s : ByteArray) : List UInt8 := s.toList
def NdK (l : List ByteArray) : Prop := (l.map keyS).Nodup
def SubK (l : List ByteArray) (m : List (List UInt8)) : Prop := ∀ s ∈ l, keyS s ∈ m

theorem nodup_len {α : Type} [BEq α] [LawfulBEq α] : ∀ (l m : List α), l.Nodup → (∀ x ∈ l, x ∈ m) → l.length ≤ m.length
  | [], m, _, _ => Nat.zero_le _
  | x :: xs, m, hn, hs => by
    have hx : x ∈ m := hs x (by simp)
    rw [List.nodup_cons] at hn
    have h1 := nodup_len xs (m.erase x) hn.2 (fun y hy => (List.mem_erase_of_ne (by intro e; subst e; exact hn.1 hy)).2 (hs y (by simp [hy])))
    have h2 := List.length_erase_of_mem hx
    have h3 : 0 < m.length := List.length_pos_of_mem hx
    simp only [List.length_cons]; omega
theorem NdK.len {l : List ByteArray} {m : List (List UInt8)} (h : NdK l) (hs : SubK l m) : l.length ≤ m.length := by
  have := nodup_len (l.map keyS) m h (fun x hx => by
    obtain ⟨s, hs', rfl⟩ := List.mem_map.1 hx
    exact hs s hs')
  simpa using this

theorem hasS_mem (l : List ByteArray) (s : ByteArray) : hasS l s = true ↔ keyS s ∈ l.map keyS := by
  unfold hasS
  rw [List.any_eq_true, List.mem_map]
  constructor
  · rintro ⟨x, hx, e⟩; exact ⟨x, hx, beq_iff_eq.1 e⟩
  · rintro ⟨x, hx, e⟩; exact ⟨x, hx, beq_iff_eq.2 e⟩
theorem onceS_nd : ∀ (ys l : List ByteArray), NdK l → NdK (onceS l ys)
  | [], l, h => h
  | y :: ys, l, h => by
    refine onceS_nd ys _ ?_
    split
    · exact h
    · rename_i hy
      unfold NdK at *
      rw [List.map_append, List.nodup_append]
      refine ⟨h, by simp, fun a ha b hb => ?_⟩
      simp at hb; subst hb
      intro e; subst e
      exact hy ((hasS_mem l y).2 ha)
theorem onceS_left : ∀ (ys l : List ByteArray) (k : List UInt8), k ∈ l.map keyS → k ∈ (onceS l ys).map keyS
  | [], l, k, h => h
  | y :: ys, l, k, h => by
    refine onceS_left ys _ k ?_
    split
    · exact h
    · rw [List.map_append]; exact List.mem_append_left _ h
theorem onceS_right : ∀ (ys l : List ByteArray) (k : List UInt8), k ∈ ys.map keyS → k ∈ (onceS l ys).map keyS
  | [], l, k, h => by simp at h
  | y :: ys, l, k, h => by
    simp only [List.map_cons, List.mem_cons] at h
    rcases h with rfl | h
    · refine onceS_left ys _ _ ?_
      split
      · rename_i hy; exact (hasS_mem l y).1 hy
      · simp
    · exact onceS_right ys _ k h
theorem foldV_nd {α : Type} (f : α → List ByteArray) : ∀ (ks : List α) (l : List ByteArray), NdK l → NdK (foldV f l ks)
  | [], l, h => h
  | y :: ys, l, h => foldV_nd f ys _ (onceS_nd _ _ h)
theorem foldV_left {α : Type} (f : α → List ByteArray) : ∀ (ks : List α) (l : List ByteArray) (k : List UInt8), k ∈ l.map keyS → k ∈ (foldV f l ks).map keyS
  | [], l, k, h => h
  | y :: ys, l, k, h => foldV_left f ys _ k (onceS_left _ _ k h)
theorem foldV_right {α : Type} (f : α → List ByteArray) : ∀ (ks : List α) (l : List ByteArray) (y : α), y ∈ ks → ∀ k, k ∈ (f y).map keyS → k ∈ (foldV f l ks).map keyS
  | [], l, y, hy, k, h => by simp at hy
  | z :: ys, l, y, hy, k, h => by
    rcases List.mem_cons.1 hy with rfl | hy
    · exact foldV_left f ys _ k (onceS_right _ _ k h)
    · exact foldV_right f ys _ y hy k h

/-- The texts of all variables, as they stand. -/
def varL : Nat → Ex → List (List UInt8)
  | 0, _ => []
  | d + 1, .mk k n t m ks cs => (if k = 2 then [keyS t] else []) ++ (ks.flatMap (varL d) ++ cs.flatMap fun c => c.1.flatMap (varL d) ++ c.2.flatMap (varL d))
theorem flat_len {α : Type} (f : α → List (List UInt8)) (wt : α → Nat) : ∀ (ks : List α), (∀ y ∈ ks, (f y).length ≤ 1 + wt y) → (ks.flatMap f).length ≤ wtS wt ks
  | [], _ => by simp [wtS]
  | y :: ys, h => by
    have h1 := flat_len f wt ys (fun z hz => h z (by simp [hz]))
    have h2 := h y (by simp)
    have h4 : wtS wt (y :: ys) = 1 + wt y + wtS wt ys := by simp [wtS]; omega
    rw [List.flatMap_cons, List.length_append, h4]; omega
theorem varL_len : ∀ (d : Nat) (x : Ex), (varL d x).length ≤ 1 + wtEx d x
  | 0, _ => by simp [varL]
  | d + 1, .mk k n t m ks cs => by
    have h1 := flat_len (varL d) (wtEx d) ks (fun y _ => varL_len d y)
    have h2 : (if k = 2 then [keyS t] else ([] : List (List UInt8))).length ≤ 1 := by split <;> simp
    have h3 := flat_len (fun c : Cl => c.1.flatMap (varL d) ++ c.2.flatMap (varL d)) (wtCl (wtEx d)) cs (fun c _ => by
      have g1 := flat_len (varL d) (wtEx d) c.1 (fun y _ => varL_len d y)
      have g2 := flat_len (varL d) (wtEx d) c.2 (fun y _ => varL_len d y)
      rw [List.length_append]
      have : wtCl (wtEx d) c = wtS (wtEx d) c.1 + wtS (wtEx d) c.2 := rfl
      omega)
    have hw : wtEx (d + 1) (.mk k n t m ks cs) = t.size + m.size + wtS (wtEx d) ks + wtS (wtCl (wtEx d)) cs := rfl
    have hv : varL (d + 1) (.mk k n t m ks cs) = (if k = 2 then [keyS t] else []) ++ (ks.flatMap (varL d) ++ cs.flatMap fun c => c.1.flatMap (varL d) ++ c.2.flatMap (varL d)) := rfl
    have h5 : (cs.flatMap fun c => c.1.flatMap (varL d) ++ c.2.flatMap (varL d)).length ≤ wtS (wtCl (wtEx d)) cs := h3
    rw [hv, hw, List.length_append, List.length_append]
    exact Nat.le_trans (Nat.add_le_add h2 (Nat.add_le_add h1 h5)) (by omega)

theorem patV_nd (d : Nat) (x : Ex) : NdK (patV d x) := by
  cases d with
  | zero => simp [patV, NdK]
  | succ d =>
    obtain ⟨k, n, t, m, ks, cs⟩ := x
    refine foldV_nd _ _ _ ?_
    split <;> simp [NdK]
theorem patV_sub : ∀ (d : Nat) (x : Ex), SubK (patV d x) (varL d x)
  | 0, _ => fun s hs => by simp [patV] at hs
  | d + 1, .mk k n t m ks cs => fun s hs => by
    have hv : varL (d + 1) (.mk k n t m ks cs) = (if k = 2 then [keyS t] else []) ++ (ks.flatMap (varL d) ++ cs.flatMap fun c => c.1.flatMap (varL d) ++ c.2.flatMap (varL d)) := rfl
    rw [hv]
    rcases foldV_mem (patV d) ks _ s hs with h | ⟨y, hy, h⟩
    · split at h
      · rename_i hk
        simp at h; subst h; simp [hk]
      · simp at h
    · exact List.mem_append_right _ (List.mem_append_left _ (List.mem_flatMap.2 ⟨y, hy, patV_sub d y s h⟩))

/-- All variables, each once. -/
def allC (f : Ex → List ByteArray) (acc : List ByteArray) (c : Cl) : List ByteArray := foldV f (foldV f acc c.1) c.2
def allV : Nat → Ex → List ByteArray
  | 0, _ => []
  | d + 1, .mk k n t m ks cs => cs.foldl (allC (allV d)) (foldV (allV d) (patV (d + 1) (.mk k n t m ks cs)) ks)
theorem foldC_nd (f : Ex → List ByteArray) : ∀ (cs : List Cl) (l : List ByteArray), NdK l → NdK (cs.foldl (allC f) l)
  | [], l, h => h
  | c :: cs, l, h => foldC_nd f cs _ (foldV_nd _ _ _ (foldV_nd _ _ _ h))
theorem foldC_left (f : Ex → List ByteArray) : ∀ (cs : List Cl) (l : List ByteArray) (k : List UInt8), k ∈ l.map keyS → k ∈ (cs.foldl (allC f) l).map keyS
  | [], l, k, h => h
  | c :: cs, l, k, h => foldC_left f cs _ k (foldV_left _ _ _ k (foldV_left _ _ _ k h))
theorem foldC_right (f : Ex → List ByteArray) : ∀ (cs : List Cl) (l : List ByteArray) (c : Cl), c ∈ cs → ∀ y, (y ∈ c.1 ∨ y ∈ c.2) → ∀ k, k ∈ (f y).map keyS → k ∈ (cs.foldl (allC f) l).map keyS
  | [], l, c, hc, y, hy, k, h => by simp at hc
  | b :: cs, l, c, hc, y, hy, k, h => by
    rcases List.mem_cons.1 hc with rfl | hc
    · refine foldC_left f cs _ k ?_
      rcases hy with hy | hy
      · exact foldV_left _ _ _ k (foldV_right _ _ _ y hy k h)
      · exact foldV_right _ _ _ y hy k h
    · exact foldC_right f cs _ c hc y hy k h
theorem foldC_mem (f : Ex → List ByteArray) : ∀ (cs : List Cl) (l : List ByteArray), ∀ s ∈ cs.foldl (allC f) l, s ∈ l ∨ ∃ c ∈ cs, ∃ y, (y ∈ c.1 ∨ y ∈ c.2) ∧ s ∈ f y
  | [], l, s, h => .inl h
  | c :: cs, l, s, h => by
    rcases foldC_mem f cs (allC f l c) s h with h | ⟨b, hb, y, hy, hs⟩
    · rcases foldV_mem f c.2 _ s h with h | ⟨y, hy, hs⟩
      · rcases foldV_mem f c.1 _ s h with h | ⟨y, hy, hs⟩
        · exact .inl h
        · exact .inr ⟨c, by simp, y, .inl hy, hs⟩
      · exact .inr ⟨c, by simp, y, .inr hy, hs⟩
    · exact .inr ⟨b, by simp [hb], y, hy, hs⟩
theorem allV_nd (d : Nat) (x : Ex) : NdK (allV d x) := by
  cases d with
  | zero => simp [allV, NdK]
  | succ d =>
    obtain ⟨k, n, t, m, ks, cs⟩ := x
    exact foldC_nd _ _ _ (foldV_nd _ _ _ (patV_nd _ _))
theorem varL_kid {d : Nat} {k n : Int} {t m : ByteArray} {ks : List Ex} {cs : List Cl} {y : Ex} (hy : y ∈ ks) {z : List UInt8} (h : z ∈ varL d y) : z ∈ varL (d + 1) (.mk k n t m ks cs) := by
  show z ∈ (if k = 2 then [keyS t] else []) ++ (ks.flatMap (varL d) ++ cs.flatMap fun c => c.1.flatMap (varL d) ++ c.2.flatMap (varL d))
  exact List.mem_append_right _ (List.mem_append_left _ (List.mem_flatMap.2 ⟨y, hy, h⟩))
theorem varL_cl {d : Nat} {k n : Int} {t m : ByteArray} {ks : List Ex} {cs : List Cl} {c : Cl} (hc : c ∈ cs) {y : Ex} (hy : y ∈ c.1 ∨ y ∈ c.2) {z : List UInt8} (h : z ∈ varL d y) : z ∈ varL (d + 1) (.mk k n t m ks cs) := by
  show z ∈ (if k = 2 then [keyS t] else []) ++ (ks.flatMap (varL d) ++ cs.flatMap fun c => c.1.flatMap (varL d) ++ c.2.flatMap (varL d))
  refine List.mem_append_right _ (List.mem_append_right _ (List.mem_flatMap.2 ⟨c, hc, ?_⟩))
  rcases hy with hy | hy
  · exact List.mem_append_left _ (List.mem_flatMap.2 ⟨y, hy, h⟩)
  · exact List.mem_append_right _ (List.mem_flatMap.2 ⟨y, hy, h⟩)
/-- What has been gathered on the way. -/
structure Got (d : Nat) (x : Ex) (l : List ByteArray) : Prop where
  nd : NdK l
  sub : SubK l (varL d x)
  ok : ∀ s ∈ l, okS s
theorem Got.len {d : Nat} {x : Ex} {l : List ByteArray} (h : Got d x l) (hw : wtEx d x ≤ 1048576) : l.length ≤ 1048577 := by
  have h1 := h.nd.len h.sub
  have h2 := varL_len d x
  omega
theorem allV_sub : ∀ (d : Nat) (x : Ex), SubK (allV d x) (varL d x)
  | 0, _ => fun s hs => by simp [allV] at hs
  | d + 1, .mk k n t m ks cs => fun s hs => by
    rcases foldC_mem (allV d) cs _ s hs with h | ⟨c, hc, y, hy, h⟩
    · rcases foldV_mem (allV d) ks _ s h with h | ⟨y, hy, h⟩
      · exact patV_sub (d + 1) _ s h
      · exact varL_kid hy (allV_sub d y s h)
    · exact varL_cl hc hy (allV_sub d y s h)
theorem allV_ok : ∀ (d : Nat) (x : Ex), exS d x → ∀ s ∈ allV d x, okS s
  | 0, _, h, _, _ => h.elim
  | d + 1, .mk k n t m ks cs, h, s, hs => by
    rcases foldC_mem (allV d) cs _ s hs with h1 | ⟨c, hc, y, hy, h1⟩
    · rcases foldV_mem (allV d) ks _ s h1 with h1 | ⟨y, hy, h1⟩
      · exact patV_ok (d + 1) _ h s h1
      · exact allV_ok d y (h.2.1 y hy) s h1
    · rcases hy with hy | hy
      · exact allV_ok d y ((h.2.2 c hc).1 y hy) s h1
      · exact allV_ok d y ((h.2.2 c hc).2 y hy) s h1
theorem allV_got {d : Nat} {x : Ex} (h : exS d x) : Got d x (allV d x) := ⟨allV_nd d x, allV_sub d x, allV_ok d x h⟩
/-- No variable is left out. -/
theorem allV_all : ∀ (d : Nat) (x : Ex) (z : List UInt8), z ∈ varL d x → z ∈ (allV d x).map keyS
  | 0, _, z, h => by simp [varL] at h
  | d + 1, .mk k n t m ks cs, z, h => by
    have hv : varL (d + 1) (.mk k n t m ks cs) = (if k = 2 then [keyS t] else []) ++ (ks.flatMap (varL d) ++ cs.flatMap fun c => c.1.flatMap (varL d) ++ c.2.flatMap (varL d)) := rfl
    rw [hv] at h
    rcases List.mem_append.1 h with h | h
    · refine foldC_left _ _ _ _ (foldV_left _ _ _ _ ?_)
      split at h
      · rename_i hk
        simp at h; subst h
        refine foldV_left _ _ _ _ ?_
        simp [hk]
      · simp at h
    · rcases List.mem_append.1 h with h | h
      · obtain ⟨y, hy, h⟩ := List.mem_flatMap.1 h
        exact foldC_left _ _ _ _ (foldV_right _ _ _ y hy _ (allV_all d y z h))
      · obtain ⟨c, hc, h⟩ := List.mem_flatMap.1 h
        rcases List.mem_append.1 h with h | h
        · obtain ⟨y, hy, h⟩ := List.mem_flatMap.1 h
          exact foldC_right _ _ _ c hc y (.inl hy) _ (allV_all d y z h)
        · obtain ⟨y, hy, h⟩ := List.mem_flatMap.1 h
          exact foldC_right _ _ _ c hc y (.inr hy) _ (allV_all d y z h)
end Go.Proofs.YtpkhblhcdnohmaaGreatDoor
/-
  Chapter 4, plain mathematics: what is free in an expression, with some names bound ahead, by the specification.
-/
namespace Go.Proofs.YtpkhblhcdnohmaaGreatDoor
open Go.ChangeShapes Go.WideShapes Go.ChangeAt Go.RowKit
set_option linter.unusedVariables false

/-- One expression of a list: what is free in it, with what is bound ahead; what is bound behind it. -/
def stepL (f : Ex → List ByteArray → List ByteArray) (bn : Ex → List ByteArray) (st : List ByteArray × List ByteArray) (x : Ex) : List ByteArray × List ByteArray := (onceS st.1 (f x st.2), onceS st.2 (bn x))
def listV (f : Ex → List ByteArray → List ByteArray) (bn : Ex → List ByteArray) (B : List ByteArray) (ks : List Ex) : List ByteArray := (ks.foldl (stepL f bn) ([], B)).1
theorem runL_snd (f : Ex → List ByteArray → List ByteArray) (bn : Ex → List ByteArray) : ∀ (ks : List Ex) (st : List ByteArray × List ByteArray), (ks.foldl (stepL f bn) st).2 = foldV bn st.2 ks
  | [], st => rfl
  | x :: xs, st => runL_snd f bn xs (stepL f bn st x)
theorem listV_nil (f : Ex → List ByteArray → List ByteArray) (bn : Ex → List ByteArray) (B : List ByteArray) : listV f bn B [] = [] := rfl
theorem listV_snoc (f : Ex → List ByteArray → List ByteArray) (bn : Ex → List ByteArray) (B : List ByteArray) (ks : List Ex) (k : Nat) (y : Ex) (h : ks[k]? = some y) :
    listV f bn B (ks.take (k + 1)) = onceS (listV f bn B (ks.take k)) (f y (foldV bn B (ks.take k))) := by
  have h2 := runL_snd f bn (ks.take k) ([], B)
  unfold listV
  rw [List.take_add_one, h, List.foldl_append]
  simp only [Option.toList_some, List.foldl_cons, List.foldl_nil]
  show onceS _ (f y _) = _
  rw [h2]
theorem runL_mem (f : Ex → List ByteArray → List ByteArray) (bn : Ex → List ByteArray) : ∀ (ks : List Ex) (st : List ByteArray × List ByteArray) (s : ByteArray), s ∈ (ks.foldl (stepL f bn) st).1 → s ∈ st.1 ∨ ∃ y ∈ ks, ∃ B', s ∈ f y B'
  | [], st, s, h => .inl h
  | x :: xs, st, s, h => by
    rcases runL_mem f bn xs (stepL f bn st x) s h with h | ⟨y, hy, B', hs⟩
    · rcases onceS_mem _ _ s h with h | h
      · exact .inl h
      · exact .inr ⟨x, by simp, st.2, h⟩
    · exact .inr ⟨y, by simp [hy], B', hs⟩
theorem listV_mem {f : Ex → List ByteArray → List ByteArray} {bn : Ex → List ByteArray} {B : List ByteArray} {ks : List Ex} {s : ByteArray} (h : s ∈ listV f bn B ks) : ∃ y ∈ ks, ∃ B', s ∈ f y B' := by
  rcases runL_mem f bn ks ([], B) s h with h | h
  · cases h
  · exact h
theorem runL_nd (f : Ex → List ByteArray → List ByteArray) (bn : Ex → List ByteArray) : ∀ (ks : List Ex) (st : List ByteArray × List ByteArray), NdK st.1 → NdK (ks.foldl (stepL f bn) st).1
  | [], st, h => h
  | x :: xs, st, h => runL_nd f bn xs (stepL f bn st x) (onceS_nd _ _ h)
theorem listV_nd (f : Ex → List ByteArray → List ByteArray) (bn : Ex → List ByteArray) (B : List ByteArray) (ks : List Ex) : NdK (listV f bn B ks) := runL_nd f bn ks _ (by simp [NdK])

/-- One clause: its patterns are bound in its body. -/
def clF (f : Ex → List ByteArray → List ByteArray) (bn pt : Ex → List ByteArray) (B out : List ByteArray) (c : Cl) : List ByteArray := onceS out (listV f bn (foldV pt B c.1) c.2)
/-- What is free in an expression, with B bound ahead. -/
def freeV : Nat → Ex → List ByteArray → List ByteArray
  | 0, _, _ => []
  | d + 1, .mk k n t m ks cs, B => match k, ks with
    | 2, _ => if hasS B t then [] else [t]
    | 9, [a, b] => freeV d b B
    | _, ks => cs.foldl (clF (freeV d) (bndV d) (patV d) (foldV (bndV d) B ks)) (listV (freeV d) (bndV d) B ks)
theorem freeV_var (d : Nat) (n : Int) (t m : ByteArray) (ks : List Ex) (cs : List Cl) (B : List ByteArray) : freeV (d + 1) (.mk 2 n t m ks cs) B = if hasS B t then [] else [t] := rfl
theorem freeV_two (d : Nat) (n : Int) (t m : ByteArray) (a b : Ex) (cs : List Cl) (B : List ByteArray) : freeV (d + 1) (.mk 9 n t m [a, b] cs) B = freeV d b B := rfl
theorem freeV_else (d : Nat) (k n : Int) (t m : ByteArray) (ks : List Ex) (cs : List Cl) (B : List ByteArray) (h2 : k ≠ 2) (h9 : ¬ (k = 9 ∧ ks.length = 2)) :
    freeV (d + 1) (.mk k n t m ks cs) B = cs.foldl (clF (freeV d) (bndV d) (patV d) (foldV (bndV d) B ks)) (listV (freeV d) (bndV d) B ks) := by
  conv => lhs; unfold freeV
  split
  · exact absurd rfl h2
  · simp at h9
  · rfl
theorem clF_nd (f : Ex → List ByteArray → List ByteArray) (bn pt : Ex → List ByteArray) (B : List ByteArray) : ∀ (cs : List Cl) (l : List ByteArray), NdK l → NdK (cs.foldl (clF f bn pt B) l)
  | [], l, h => h
  | c :: cs, l, h => clF_nd f bn pt B cs _ (onceS_nd _ _ h)
theorem clF_mem (f : Ex → List ByteArray → List ByteArray) (bn pt : Ex → List ByteArray) (B : List ByteArray) : ∀ (cs : List Cl) (l : List ByteArray) (s : ByteArray), s ∈ cs.foldl (clF f bn pt B) l → s ∈ l ∨ ∃ c ∈ cs, ∃ y ∈ c.2, ∃ B', s ∈ f y B'
  | [], l, s, h => .inl h
  | c :: cs, l, s, h => by
    rcases clF_mem f bn pt B cs _ s h with h | ⟨c', hc, r⟩
    · rcases onceS_mem _ _ s h with h | h
      · exact .inl h
      · obtain ⟨y, hy, B', hs⟩ := listV_mem h
        exact .inr ⟨c, by simp, y, hy, B', hs⟩
    · exact .inr ⟨c', by simp [hc], r⟩
theorem clF_snoc (f : Ex → List ByteArray → List ByteArray) (bn pt : Ex → List ByteArray) (B l : List ByteArray) (cs : List Cl) (k : Nat) (c : Cl) (h : cs[k]? = some c) :
    (cs.take (k + 1)).foldl (clF f bn pt B) l = onceS ((cs.take k).foldl (clF f bn pt B) l) (listV f bn (foldV pt B c.1) c.2) := by
  rw [List.take_add_one, h]; simp [clF]
theorem freeV_nd : ∀ (d : Nat) (x : Ex) (B : List ByteArray), NdK (freeV d x B)
  | 0, _, _ => by simp [freeV, NdK]
  | d + 1, .mk k n t m ks cs, B => by
    by_cases h2 : k = 2
    · subst h2
      rw [freeV_var]
      split <;> simp [NdK]
    · by_cases h9 : k = 9 ∧ ks.length = 2
      · obtain ⟨rfl, hl⟩ := h9
        match ks, hl with
        | [a, b], _ => rw [freeV_two]; exact freeV_nd d b B
      · rw [freeV_else d k n t m ks cs B h2 h9]
        exact clF_nd _ _ _ _ _ _ (listV_nd _ _ _ _)
theorem freeV_sub : ∀ (d : Nat) (x : Ex) (B : List ByteArray), SubK (freeV d x B) (varL d x)
  | 0, _, _ => fun s hs => by simp [freeV] at hs
  | d + 1, .mk k n t m ks cs, B => fun s hs => by
    by_cases h2 : k = 2
    · subst h2
      rw [freeV_var] at hs
      split at hs
      · cases hs
      · simp at hs
        subst hs
        show keyS s ∈ (if (2 : Int) = 2 then [keyS s] else []) ++ _
        simp
    · by_cases h9 : k = 9 ∧ ks.length = 2
      · obtain ⟨rfl, hl⟩ := h9
        match ks, hl with
        | [a, b], _ => rw [freeV_two] at hs; exact varL_kid (by simp) (freeV_sub d b B s hs)
      · rw [freeV_else d k n t m ks cs B h2 h9] at hs
        rcases clF_mem _ _ _ _ _ _ s hs with h | ⟨c, hc, y, hy, B', h⟩
        · obtain ⟨y, hy, B', h⟩ := listV_mem h
          exact varL_kid hy (freeV_sub d y B' s h)
        · exact varL_cl hc (.inr hy) (freeV_sub d y B' s h)
theorem freeV_ok : ∀ (d : Nat) (x : Ex) (B : List ByteArray), exS d x → ∀ s ∈ freeV d x B, okS s
  | 0, _, _, h, _, _ => h.elim
  | d + 1, .mk k n t m ks cs, B, hx, s, hs => by
    by_cases h2 : k = 2
    · subst h2
      rw [freeV_var] at hs
      split at hs
      · cases hs
      · simp at hs
        subst hs
        exact hx.1
    · by_cases h9 : k = 9 ∧ ks.length = 2
      · obtain ⟨rfl, hl⟩ := h9
        match ks, hl with
        | [a, b], _ => rw [freeV_two] at hs; exact freeV_ok d b B (hx.2.1 b (by simp)) s hs
      · rw [freeV_else d k n t m ks cs B h2 h9] at hs
        rcases clF_mem _ _ _ _ _ _ s hs with h | ⟨c, hc, y, hy, B', h⟩
        · obtain ⟨y, hy, B', h⟩ := listV_mem h
          exact freeV_ok d y B' (hx.2.1 y hy) s h
        · exact freeV_ok d y B' ((hx.2.2 c hc).2 y hy) s h
theorem freeV_got {d : Nat} {x : Ex} {B : List ByteArray} (h : exS d x) : Got d x (freeV d x B) := ⟨freeV_nd d x B, freeV_sub d x B, freeV_ok d x B h⟩
theorem freeV_len (d : Nat) (x : Ex) (B : List ByteArray) : (freeV d x B).length ≤ 1 + wtEx d x := Nat.le_trans ((freeV_nd d x B).len (freeV_sub d x B)) (varL_len d x)
/-- How many names a list of expressions has free. -/
theorem listV_len (d : Nat) (B : List ByteArray) (ks : List Ex) : (listV (freeV d) (bndV d) B ks).length ≤ wtS (wtEx d) ks := by
  have h1 := (listV_nd (freeV d) (bndV d) B ks).len (m := ks.flatMap (varL d)) (fun s hs => by
    obtain ⟨y, hy, B', h⟩ := listV_mem hs
    exact List.mem_flatMap.2 ⟨y, hy, freeV_sub d y B' s h⟩)
  exact Nat.le_trans h1 (flat_len (varL d) (wtEx d) ks (fun y _ => varL_len d y))
end Go.Proofs.YtpkhblhcdnohmaaGreatDoor
/-
  Chapter 4, plain mathematics: what is free, told by membership; what is bound ahead is taken away; a list of expressions from its end.
-/
namespace Go.Proofs.YtpkhblhcdnohmaaGreatDoor
open Go.ChangeShapes Go.WideShapes Go.ChangeAt Go.RowKit
set_option linter.unusedVariables false

def inK (z : List UInt8) (l : List ByteArray) : Prop := z ∈ l.map keyS
theorem inK_nil {z : List UInt8} : ¬ inK z [] := by simp [inK]
theorem inK_once {z : List UInt8} {l ys : List ByteArray} : inK z (onceS l ys) ↔ inK z l ∨ inK z ys := by
  constructor
  · intro h
    obtain ⟨s, hs, rfl⟩ := List.mem_map.1 h
    rcases onceS_mem l ys s hs with h | h
    · exact .inl (List.mem_map.2 ⟨s, h, rfl⟩)
    · exact .inr (List.mem_map.2 ⟨s, h, rfl⟩)
  · rintro (h | h)
    · exact onceS_left _ _ _ h
    · exact onceS_right _ _ _ h
theorem inK_fold {α : Type} {z : List UInt8} (f : α → List ByteArray) : ∀ (ks : List α) (l : List ByteArray), inK z (foldV f l ks) ↔ inK z l ∨ ∃ y ∈ ks, inK z (f y)
  | [], l => by simp [foldV]
  | y :: ys, l => by
    have h := inK_fold (z := z) f ys (onceS l (f y))
    have e : foldV f l (y :: ys) = foldV f (onceS l (f y)) ys := rfl
    rw [e, h, inK_once]
    simp only [List.mem_cons, exists_eq_or_imp, or_assoc]
theorem runL_in (f : Ex → List ByteArray → List ByteArray) (bn : Ex → List ByteArray) {z : List UInt8} : ∀ (ks : List Ex) (o B : List ByteArray), inK z (ks.foldl (stepL f bn) (o, B)).1 ↔ inK z o ∨ inK z (listV f bn B ks)
  | [], o, B => by simp [listV, inK]
  | x :: xs, o, B => by
    have h1 := runL_in f bn (z := z) xs (onceS o (f x B)) (onceS B (bn x))
    have h2 := runL_in f bn (z := z) xs (onceS [] (f x B)) (onceS B (bn x))
    have e1 : (x :: xs).foldl (stepL f bn) (o, B) = xs.foldl (stepL f bn) (onceS o (f x B), onceS B (bn x)) := rfl
    have e2 : listV f bn B (x :: xs) = (xs.foldl (stepL f bn) (onceS [] (f x B), onceS B (bn x))).1 := rfl
    rw [e1, e2, h1, h2, inK_once, inK_once]
    have := inK_nil (z := z)
    simp only [this, false_or, or_assoc]
theorem listV_cons (f : Ex → List ByteArray → List ByteArray) (bn : Ex → List ByteArray) {z : List UInt8} (B : List ByteArray) (x : Ex) (xs : List Ex) : inK z (listV f bn B (x :: xs)) ↔ inK z (f x B) ∨ inK z (listV f bn (onceS B (bn x)) xs) := by
  have h := runL_in f bn (z := z) xs (onceS [] (f x B)) (onceS B (bn x))
  have e : listV f bn B (x :: xs) = (xs.foldl (stepL f bn) (onceS [] (f x B), onceS B (bn x))).1 := rfl
  rw [e, h, inK_once]
  have := inK_nil (z := z)
  simp only [this, false_or]
/-- What is bound ahead is taken away, and nothing else. -/
def Takes (f : Ex → List ByteArray → List ByteArray) : Prop := ∀ x B z, inK z (f x B) ↔ inK z (f x []) ∧ ¬ inK z B
theorem listV_takes {f : Ex → List ByteArray → List ByteArray} (bn : Ex → List ByteArray) (hf : Takes f) {z : List UInt8} : ∀ (ks : List Ex) (B : List ByteArray), inK z (listV f bn B ks) ↔ inK z (listV f bn [] ks) ∧ ¬ inK z B
  | [], B => by simp [listV, inK]
  | x :: xs, B => by
    have h1 := listV_takes bn hf (z := z) xs (onceS B (bn x))
    have h2 := listV_takes bn hf (z := z) xs (onceS [] (bn x))
    have h3 := hf x B z
    have := inK_nil (z := z)
    rw [listV_cons, listV_cons, h1, h2, h3, inK_once, inK_once]
    simp only [this, false_or]
    by_cases a : inK z (f x []) <;> by_cases b : inK z B <;> by_cases c : inK z (bn x) <;> simp [a, b, c]
/-- A list from its end: what the first wants, and what those behind want that the first does not bind. -/
theorem listV_back {f : Ex → List ByteArray → List ByteArray} (bn : Ex → List ByteArray) (hf : Takes f) {z : List UInt8} (x : Ex) (xs : List Ex) : inK z (listV f bn [] (x :: xs)) ↔ inK z (f x []) ∨ (inK z (listV f bn [] xs) ∧ ¬ inK z (bn x)) := by
  have h := listV_takes bn hf (z := z) xs (onceS [] (bn x))
  rw [listV_cons, h, inK_once]
  have := inK_nil (z := z)
  simp only [this, false_or]
theorem clF_in (f : Ex → List ByteArray → List ByteArray) (bn pt : Ex → List ByteArray) (B : List ByteArray) {z : List UInt8} : ∀ (cs : List Cl) (l : List ByteArray), inK z (cs.foldl (clF f bn pt B) l) ↔ inK z l ∨ ∃ c ∈ cs, inK z (listV f bn (foldV pt B c.1) c.2)
  | [], l => by simp
  | c :: cs, l => by
    have h := clF_in f bn pt B (z := z) cs (clF f bn pt B l c)
    rw [List.foldl_cons, h]
    unfold clF
    rw [inK_once]
    simp only [List.mem_cons, exists_eq_or_imp, or_assoc]
theorem hasS_in {B : List ByteArray} {t : ByteArray} : hasS B t = true ↔ inK (keyS t) B := hasS_mem B t
theorem freeV_takes : ∀ d, Takes (freeV d)
  | 0, x, B, z => by simp [freeV, inK]
  | d + 1, .mk k n t m ks cs, B, z => by
    have ih := freeV_takes d
    by_cases h2 : k = 2
    · subst h2
      rw [freeV_var, freeV_var]
      have h0 : hasS [] t = false := rfl
      rw [h0]
      by_cases hb : hasS B t = true
      · have hb' := hasS_in.1 hb
        simp only [hb, if_true, Bool.false_eq_true, if_false]
        constructor
        · intro h; exact absurd h inK_nil
        · rintro ⟨h, h'⟩
          have : z = keyS t := by simpa [inK] using h
          subst this
          exact absurd hb' h'
      · have hb' : ¬ inK (keyS t) B := fun h => hb (hasS_in.2 h)
        simp only [hb, Bool.false_eq_true, if_false]
        constructor
        · intro h
          have : z = keyS t := by simpa [inK] using h
          subst this
          exact ⟨h, hb'⟩
        · exact fun h => h.1
    · by_cases h9 : k = 9 ∧ ks.length = 2
      · obtain ⟨rfl, hl⟩ := h9
        match ks, hl with
        | [a, b], _ => rw [freeV_two, freeV_two]; exact ih b B z
      · rw [freeV_else d k n t m ks cs B h2 h9, freeV_else d k n t m ks cs [] h2 h9, clF_in, clF_in, listV_takes (bndV d) ih ks B]
        have hc : ∀ (B : List ByteArray) (c : Cl), inK z (listV (freeV d) (bndV d) (foldV (patV d) (foldV (bndV d) B ks) c.1) c.2) ↔ inK z (listV (freeV d) (bndV d) [] c.2) ∧ ¬ (inK z B ∨ (∃ y ∈ ks, inK z (bndV d y)) ∨ ∃ y ∈ c.1, inK z (patV d y)) := fun B c => by
          rw [listV_takes (bndV d) ih, inK_fold, inK_fold, or_assoc]
        simp only [hc]
        have := inK_nil (z := z)
        simp only [this, false_or]
        constructor
        · rintro (⟨h, h'⟩ | ⟨c, hc, h, h'⟩)
          · exact ⟨.inl h, h'⟩
          · exact ⟨.inr ⟨c, hc, h, fun e => h' (.inr e)⟩, fun e => h' (.inl e)⟩
        · rintro ⟨h | ⟨c, hc, h, h'⟩, hb⟩
          · exact .inl ⟨h, hb⟩
          · refine .inr ⟨c, hc, h, fun e => ?_⟩
            rcases e with e | e
            · exact hb e
            · exact h' e
/-- What is free in a clause by itself. -/
theorem clause_in (d : Nat) (c : Cl) (z : List UInt8) : inK z (listV (freeV d) (bndV d) (foldV (patV d) [] c.1) c.2) ↔ inK z (listV (freeV d) (bndV d) [] c.2) ∧ ¬ ∃ y ∈ c.1, inK z (patV d y) := by
  rw [listV_takes (bndV d) (freeV_takes d), inK_fold]
  have := inK_nil (z := z)
  simp only [this, false_or]
/-- What is free in an expression that is no variable and binds nothing itself: its kids from their end, and what its clauses want that the kids do not bind. -/
theorem freeV_back (d : Nat) (k n : Int) (t m : ByteArray) (ks : List Ex) (cs : List Cl) (h2 : k ≠ 2) (h9 : ¬ (k = 9 ∧ ks.length = 2)) (z : List UInt8) :
    inK z (freeV (d + 1) (.mk k n t m ks cs) []) ↔ inK z (listV (freeV d) (bndV d) [] ks) ∨ ((∃ c ∈ cs, inK z (listV (freeV d) (bndV d) (foldV (patV d) [] c.1) c.2)) ∧ ¬ ∃ y ∈ ks, inK z (bndV d y)) := by
  rw [freeV_else d k n t m ks cs [] h2 h9, clF_in]
  simp only [listV_takes (bndV d) (freeV_takes d) _ (foldV _ _ _), inK_fold]
  have := inK_nil (z := z)
  simp only [this, false_or]
  constructor
  · rintro (h | ⟨c, hc, h, h'⟩)
    · exact .inl h
    · exact .inr ⟨⟨c, hc, h, fun e => h' (.inr e)⟩, fun e => h' (.inl e)⟩
  · rintro (h | ⟨⟨c, hc, h, h'⟩, hb⟩)
    · exact .inl h
    · refine .inr ⟨c, hc, h, fun e => ?_⟩
      rcases e with e | e
      · exact hb e
      · exact h' e
end Go.Proofs.YtpkhblhcdnohmaaGreatDoor
/-
  What the small tests of bytes answer: those of the program (isSmall, isGreat, isDigit, isNamePart) and those of the specification (l01In, l01Small, l01Great, l01Digit, l01Sign). No conditions but that a byte is one.
-/
namespace Go.Proofs.YtpkhblhcdnohmaaGreatDoor
open Go.ChangeShapes Go.WideShapes Go.ChangeAt Go.RowKit
set_option linter.unusedVariables false

def inB (x a b : Int) : Bool := decide (a ≤ x ∧ x ≤ b)
def signB (n : Int) : Bool := inB n 97 122 || inB n 65 90 || inB n 48 57 || n == 95

theorem ret_bool {a b : Bool} (h : a = b) : Ending.returned (.bool a) = .returned (.bool b) := by rw [h]

theorem l01In_any (x a b : Int) (w : World) :
    Calls Tryz.prog 30 #[.int .i64 x, .int .i64 a, .int .i64 b] w fun e w' => e = .returned (.bool (inB x a b)) ∧ w' = w := by
  by_cases h1 : a ≤ x <;> by_cases h2 : x ≤ b
  all_goals
    go_enter Tryz.func30, Tryz.ntmps30
    go_wp2
    go_ret
    exact ⟨ret_bool (by simp [inB, h1, h2]), rfl⟩

theorem l01Small_any (n : Int) (w : World) (h0 : 0 ≤ n) (h1 : n < 256) :
    Calls Tryz.prog 49 #[.int .u8 n] w fun e w' => e = .returned (.bool (inB n 97 122)) ∧ w' = w := by
  go_enter Tryz.func49, Tryz.ntmps49
  go_wp2_with (go_at_call 30; go_must (refine (l01In_any _ _ _ _).mono ?_; rintro e w' ⟨rfl, rfl⟩))
  go_ret
  exact ⟨rfl, rfl⟩

theorem l01Great_any (n : Int) (w : World) (h0 : 0 ≤ n) (h1 : n < 256) :
    Calls Tryz.prog 85 #[.int .u8 n] w fun e w' => e = .returned (.bool (inB n 65 90)) ∧ w' = w := by
  go_enter Tryz.func85, Tryz.ntmps85
  go_wp2_with (go_at_call 30; go_must (refine (l01In_any _ _ _ _).mono ?_; rintro e w' ⟨rfl, rfl⟩))
  go_ret
  exact ⟨rfl, rfl⟩

theorem l01Digit_any (n : Int) (w : World) (h0 : 0 ≤ n) (h1 : n < 256) :
    Calls Tryz.prog 86 #[.int .u8 n] w fun e w' => e = .returned (.bool (inB n 48 57)) ∧ w' = w := by
  go_enter Tryz.func86, Tryz.ntmps86
  go_wp2_with (go_at_call 30; go_must (refine (l01In_any _ _ _ _).mono ?_; rintro e w' ⟨rfl, rfl⟩))
  go_ret
  exact ⟨rfl, rfl⟩

theorem isSmall_any (n : Int) (w : World) (h0 : 0 ≤ n) (h1 : n < 256) :
    Calls Tryz.prog 57 #[.int .u8 n] w fun e w' => e = .returned (.bool (inB n 97 122)) ∧ w' = w := by
  by_cases h1 : 97 ≤ n <;> by_cases h2 : n ≤ 122
  all_goals
    go_enter Tryz.func57, Tryz.ntmps57
    go_wp2
    go_ret
    exact ⟨ret_bool (by simp [inB, h1, h2]), rfl⟩

theorem isGreat_any (n : Int) (w : World) (h0 : 0 ≤ n) (h1 : n < 256) :
    Calls Tryz.prog 89 #[.int .u8 n] w fun e w' => e = .returned (.bool (inB n 65 90)) ∧ w' = w := by
  by_cases h1 : 65 ≤ n <;> by_cases h2 : n ≤ 90
  all_goals
    go_enter Tryz.func89, Tryz.ntmps89
    go_wp2
    go_ret
    exact ⟨ret_bool (by simp [inB, h1, h2]), rfl⟩

theorem isDigit_any (n : Int) (w : World) (h0 : 0 ≤ n) (h1 : n < 256) :
    Calls Tryz.prog 90 #[.int .u8 n] w fun e w' => e = .returned (.bool (inB n 48 57)) ∧ w' = w := by
  by_cases h1 : 48 ≤ n <;> by_cases h2 : n ≤ 57
  all_goals
    go_enter Tryz.func90, Tryz.ntmps90
    go_wp2
    go_ret
    exact ⟨ret_bool (by simp [inB, h1, h2]), rfl⟩

theorem l01Sign_any (n : Int) (w : World) (h0 : 0 ≤ n) (h1 : n < 256) :
    Calls Tryz.prog 70 #[.int .u8 n] w fun e w' => e = .returned (.bool (signB n)) ∧ w' = w := by
  have hb1 : inB n 97 122 = true ∨ inB n 97 122 = false := by cases inB n 97 122 <;> simp
  have hb2 : inB n 65 90 = true ∨ inB n 65 90 = false := by cases inB n 65 90 <;> simp
  have hb3 : inB n 48 57 = true ∨ inB n 48 57 = false := by cases inB n 48 57 <;> simp
  rcases hb1 with hb1 | hb1 <;> rcases hb2 with hb2 | hb2 <;> rcases hb3 with hb3 | hb3
  all_goals
    go_enter Tryz.func70, Tryz.ntmps70
    go_wp2_with (first
      | (go_at_call 49; go_must (refine (l01Small_any _ _ h0 h1).mono ?_; rintro e w' ⟨rfl, rfl⟩))
      | (go_at_call 85; go_must (refine (l01Great_any _ _ h0 h1).mono ?_; rintro e w' ⟨rfl, rfl⟩))
      | (go_at_call 86; go_must (refine (l01Digit_any _ _ h0 h1).mono ?_; rintro e w' ⟨rfl, rfl⟩)))
    go_ret
    exact ⟨ret_bool (by simp [signB, hb1, hb2, hb3]), rfl⟩

theorem isNamePart_any (n : Int) (w : World) (h0 : 0 ≤ n) (h1 : n < 256) :
    Calls Tryz.prog 74 #[.int .u8 n] w fun e w' => e = .returned (.bool (signB n)) ∧ w' = w := by
  have hb1 : inB n 97 122 = true ∨ inB n 97 122 = false := by cases inB n 97 122 <;> simp
  have hb2 : inB n 65 90 = true ∨ inB n 65 90 = false := by cases inB n 65 90 <;> simp
  have hb3 : inB n 48 57 = true ∨ inB n 48 57 = false := by cases inB n 48 57 <;> simp
  rcases hb1 with hb1 | hb1 <;> rcases hb2 with hb2 | hb2 <;> rcases hb3 with hb3 | hb3
  all_goals
    go_enter Tryz.func74, Tryz.ntmps74
    go_wp2_with (first
      | (go_at_call 57; go_must (refine (isSmall_any _ _ h0 h1).mono ?_; rintro e w' ⟨rfl, rfl⟩))
      | (go_at_call 89; go_must (refine (isGreat_any _ _ h0 h1).mono ?_; rintro e w' ⟨rfl, rfl⟩))
      | (go_at_call 90; go_must (refine (isDigit_any _ _ h0 h1).mono ?_; rintro e w' ⟨rfl, rfl⟩)))
    go_ret
    exact ⟨ret_bool (by simp [signB, hb1, hb2, hb3]), rfl⟩
end Go.Proofs.YtpkhblhcdnohmaaGreatDoor
/-
  What l01Name (specification) and nameOk, madeOf (program) answer: whether a text is 1 to 10 signs of names. Condition: the text is no longer than any text may be.
-/
namespace Go.Proofs.YtpkhblhcdnohmaaGreatDoor
open Go.ChangeShapes Go.WideShapes Go.ChangeAt Go.RowKit
set_option linter.unusedVariables false

def allB (l : List UInt8) : Bool := l.all fun c => signB (c.toNat : Int)
def nameB (s : ByteArray) : Bool := allB s.data.toList && decide (1 ≤ s.size ∧ s.size ≤ 10)

theorem take_snoc (s : ByteArray) (k : Nat) (h : k < s.size) : s.data.toList.take (k + 1) = s.data.toList.take k ++ [s[k]] := by
  rw [List.take_succ_eq_append_getElem (by simpa using h)]; rfl
theorem allB_snoc (s : ByteArray) (k : Nat) (h : k < s.size) (ha : allB (s.data.toList.take k) = true) (hs : signB (s[k].toNat : Int) = true) :
    allB (s.data.toList.take (k + 1)) = true := by
  rw [take_snoc s k h]; unfold allB at *; rw [List.all_append, ha]; simp [hs]
theorem allB_no (s : ByteArray) (k : Nat) (h : k < s.size) (hs : signB (s[k].toNat : Int) = false) :
    allB s.data.toList = false := by
  unfold allB
  rw [List.all_eq_false]
  refine ⟨s[k], ?_, by simp [hs]⟩
  exact List.getElem_mem (by simpa using h)
theorem allB_all (s : ByteArray) (k : Nat) (h : s.size ≤ k) (ha : allB (s.data.toList.take k) = true) : allB s.data.toList = true := by
  rwa [List.take_of_length_le (by simpa using h)] at ha

theorem byte_lt (s : ByteArray) (k : Nat) (h : k < s.size) : 0 ≤ ((s[k].toNat : Nat) : Int) ∧ ((s[k].toNat : Nat) : Int) < 256 := by
  have := s[k].toNat_lt; omega

theorem inB_size (n : Nat) : inB (n : Int) 1 10 = decide (1 ≤ n ∧ n ≤ 10) := by
  unfold inB; rw [decide_eq_decide]; omega
theorem nameB_none (s : ByteArray) (h : ¬ 1 ≤ s.size ∨ ¬ s.size ≤ 10) : nameB s = false := by
  unfold nameB; rw [decide_eq_false (by omega), Bool.and_false]
theorem nameB_some (s : ByteArray) (h1 : 1 ≤ s.size) (h2 : s.size ≤ 10) : nameB s = allB s.data.toList := by
  unfold nameB; rw [decide_eq_true ⟨h1, h2⟩, Bool.and_true]

set_option maxHeartbeats 400000 in
theorem l01Name_any (s : ByteArray) (w : World) (hs : s.size ≤ maxLen) :
    Calls Tryz.prog 48 #[.string s] w fun e w' => e = .returned (.bool (nameB s)) ∧ w' = w := by
  unfold maxLen at hs
  go_enter Tryz.func48, Tryz.ntmps48
  go_wp2
  go_loop [3] (fun i => ∃ k : Nat, k ≤ s.size ∧ i = .int .i64 k ∧ allB (s.data.toList.take k) = true) (fun i => s.size - (intOf i).toNat)
  case atStart => exact ⟨0, Nat.zero_le _, rfl, rfl⟩
  case round =>
    obtain ⟨k, hk, rfl, ha⟩ := hrel
    by_cases hlt : k < s.size
    · have hb := byte_lt s k hlt
      have HA : Hid (allB (s.data.toList.take k) = true) := ha
      clear ha
      have hc : signB (s[k].toNat : Int) = true ∨ signB (s[k].toNat : Int) = false := by cases signB (s[k].toNat : Int) <;> simp
      rcases hc with hc | hc
      · go_wp2_with (go_at_call 70; go_must (refine (l01Sign_any _ _ hb.1 hb.2).mono ?_; rintro e w' ⟨rfl, rfl⟩))
        go_round
        case rel => exact ⟨k + 1, by omega, by go_num, allB_snoc s k hlt HA.out hc⟩
        case measure => simp [intOf]; omega
      · go_wp2_with (go_at_call 70; go_must (refine (l01Sign_any _ _ hb.1 hb.2).mono ?_; rintro e w' ⟨rfl, rfl⟩))
        go_ret
        exact ⟨ret_bool (by simp [nameB, allB_no s k hlt hc]), rfl⟩
    · have hall := allB_all s k (by omega) ha
      have HA : Hid (allB s.data.toList = true) := hall
      clear ha hall
      go_wp2_with (go_at_call 30; go_must (refine (l01In_any _ _ _ _).mono ?_; rintro e w' ⟨rfl, rfl⟩))
      go_ret
      exact ⟨ret_bool (by rw [nameB, HA.out, Bool.true_and, inB_size]), rfl⟩

/-- 'madeOf' of isNamePart. -/
theorem madeOf_name (s : ByteArray) (w : World) (hs : s.size ≤ maxLen) :
    Calls Tryz.prog 73 #[.string s, .func (.func 74) #[] #[]] w fun e w' => e = .returned (.bool (allB s.data.toList)) ∧ w' = w := by
  unfold maxLen at hs
  go_enter Tryz.func73, Tryz.ntmps73
  go_wp2
  go_loop [8] (fun i => ∃ k : Nat, k ≤ s.size ∧ i = .int .i64 k ∧ allB (s.data.toList.take k) = true) (fun i => s.size - (intOf i).toNat)
  case atStart => exact ⟨0, Nat.zero_le _, rfl, rfl⟩
  case round =>
    obtain ⟨k, hk, rfl, ha⟩ := hrel
    by_cases hlt : k < s.size
    · have hb := byte_lt s k hlt
      have HA : Hid (allB (s.data.toList.take k) = true) := ha
      clear ha
      have hc : signB (s[k].toNat : Int) = true ∨ signB (s[k].toNat : Int) = false := by cases signB (s[k].toNat : Int) <;> simp
      rcases hc with hc | hc
      · go_wp2_with (go_at_call 74; go_must (refine (isNamePart_any _ _ hb.1 hb.2).mono ?_; rintro e w' ⟨rfl, rfl⟩))
        go_round
        case rel => exact ⟨k + 1, by omega, by go_num, allB_snoc s k hlt HA.out hc⟩
        case measure => simp [intOf]; omega
      · go_wp2_with (go_at_call 74; go_must (refine (isNamePart_any _ _ hb.1 hb.2).mono ?_; rintro e w' ⟨rfl, rfl⟩))
        go_ret
        exact ⟨ret_bool (by rw [allB_no s k hlt hc]), rfl⟩
    · have hall := allB_all s k (by omega) ha
      have HA : Hid (allB s.data.toList = true) := hall
      clear ha hall
      go_wp2
      go_ret
      exact ⟨ret_bool (by rw [HA.out]), rfl⟩

theorem nameOk_any (s : ByteArray) (w : World) (hs : s.size ≤ maxLen) :
    Calls Tryz.prog 56 #[.string s] w fun e w' => e = .returned (.bool (nameB s)) ∧ w' = w := by
  have hs' := hs
  unfold maxLen at hs
  by_cases h1 : 1 ≤ s.size
  · by_cases h2 : s.size ≤ 10
    · go_enter Tryz.func56, Tryz.ntmps56
      go_wp2_with (go_at_call 73; go_must (refine (madeOf_name _ _ hs').mono ?_; rintro e w' ⟨rfl, rfl⟩))
      go_ret
      exact ⟨ret_bool (nameB_some s h1 h2).symm, rfl⟩
    · go_enter Tryz.func56, Tryz.ntmps56
      go_wp2
      go_ret
      exact ⟨ret_bool (nameB_none s (.inr h2)).symm, rfl⟩
  · go_enter Tryz.func56, Tryz.ntmps56
    go_wp2
    go_ret
    exact ⟨ret_bool (nameB_none s (.inl h1)).symm, rfl⟩
end Go.Proofs.YtpkhblhcdnohmaaGreatDoor
/-
  What VarOk answers, of the program and of the specification. Condition: the text is no longer than any text may be.
-/
namespace Go.Proofs.YtpkhblhcdnohmaaGreatDoor
open Go.ChangeShapes Go.WideShapes Go.ChangeAt Go.RowKit
set_option linter.unusedVariables false

def firstN (s : ByteArray) : Int := ((s.data.toList.headD 0).toNat : Int)
def varB (s : ByteArray) : Bool := nameB s && inB (firstN s) 65 90
theorem nameB_size (s : ByteArray) (h : nameB s = true) : 0 < s.size := by
  unfold nameB at h
  rw [Bool.and_eq_true] at h
  have := of_decide_eq_true h.2
  omega
theorem first_eq (s : ByteArray) (h : 0 < s.size) : (s[0].toNat : Int) = firstN s := by
  have e : s.data.toList.headD 0 = s[0] := by
    have h' : 0 < s.data.toList.length := by simpa using h
    rw [List.headD_eq_head?_getD, List.head?_eq_getElem?, List.getElem?_eq_getElem h']
    rfl
  rw [firstN, e]

theorem specVarOk_any (s : ByteArray) (w : World) (hs : s.size ≤ maxLen) :
    Calls Tryz.prog 87 #[.string s] w fun e w' => e = .returned (.bool (varB s)) ∧ w' = w := by
  have hs' := hs
  unfold maxLen at hs
  have hn : nameB s = true ∨ nameB s = false := by cases nameB s <;> simp
  rcases hn with hn | hn
  · have hz := nameB_size s hn
    have hb := byte_lt s 0 hz
    have hf := first_eq s hz
    have HF : Hid ((s[0].toNat : Int) = firstN s) := hf
    clear hf
    go_enter Tryz.func87, Tryz.ntmps87
    go_wp2_with (first
      | (go_at_call 48; go_must (refine (l01Name_any _ _ hs').mono ?_; rintro e w' ⟨rfl, rfl⟩))
      | (go_at_call 85; go_must (refine (l01Great_any _ _ hb.1 hb.2).mono ?_; rintro e w' ⟨rfl, rfl⟩)))
    go_ret
    exact ⟨ret_bool (by rw [varB, hn, HF.out, Bool.true_and]), rfl⟩
  · go_enter Tryz.func87, Tryz.ntmps87
    go_wp2_with (go_at_call 48; go_must (refine (l01Name_any _ _ hs').mono ?_; rintro e w' ⟨rfl, rfl⟩))
    go_ret
    exact ⟨ret_bool (by rw [varB, hn, Bool.false_and]), rfl⟩

theorem implVarOk_any (s : ByteArray) (w : World) (hs : s.size ≤ maxLen) :
    Calls Tryz.prog 115 #[.string s] w fun e w' => e = .returned (.bool (varB s)) ∧ w' = w := by
  have hs' := hs
  unfold maxLen at hs
  have hn : nameB s = true ∨ nameB s = false := by cases nameB s <;> simp
  rcases hn with hn | hn
  · have hz := nameB_size s hn
    have hb := byte_lt s 0 hz
    have hf := first_eq s hz
    have HF : Hid ((s[0].toNat : Int) = firstN s) := hf
    clear hf
    go_enter Tryz.func115, Tryz.ntmps115
    go_wp2_with (first
      | (go_at_call 56; go_must (refine (nameOk_any _ _ hs').mono ?_; rintro e w' ⟨rfl, rfl⟩))
      | (go_at_call 89; go_must (refine (isGreat_any _ _ hb.1 hb.2).mono ?_; rintro e w' ⟨rfl, rfl⟩)))
    go_ret
    exact ⟨ret_bool (by rw [varB, hn, HF.out, Bool.true_and]), rfl⟩
  · go_enter Tryz.func115, Tryz.ntmps115
    go_wp2_with (go_at_call 56; go_must (refine (nameOk_any _ _ hs').mono ?_; rintro e w' ⟨rfl, rfl⟩))
    go_ret
    exact ⟨ret_bool (by rw [varB, hn, Bool.false_and]), rfl⟩
end Go.Proofs.YtpkhblhcdnohmaaGreatDoor
/-
  What AtomOk answers, of the program and of the specification. Conditions: the text is no longer than any text may be; the program's variable of the three words holds them.
-/
namespace Go.Proofs.YtpkhblhcdnohmaaGreatDoor
open Go.ChangeShapes Go.WideShapes Go.ChangeAt Go.RowKit
set_option linter.unusedVariables false

def keyB (s : ByteArray) : Bool := s.toList == [99, 97, 115, 101] || s.toList == [111, 102] || s.toList == [101, 110, 100]
/-- The three words lie in the program's variable. -/
def KeysAt (w : World) : Prop :=
  w.cell? ⟨0, 0, none⟩ = some (.string ⟨#[99, 97, 115, 101]⟩) ∧ w.cell? ⟨0, 1, none⟩ = some (.string ⟨#[111, 102]⟩) ∧ w.cell? ⟨0, 2, none⟩ = some (.string ⟨#[101, 110, 100]⟩)
def atomB (s : ByteArray) : Bool := nameB s && inB (firstN s) 97 122 && !keyB s

theorem keyB_not {s : ByteArray} (h0 : (s.toList == [99, 97, 115, 101]) = false) (h1 : (s.toList == [111, 102]) = false) (h2 : (s.toList == [101, 110, 100]) = false) : keyB s = false := by
  rw [keyB, h0, h1, h2]; rfl

theorem key0_yes {s : ByteArray} (h : ([99, 97, 115, 101] == s.toList) = true) : keyB s = true := by
  have e := (beq_iff_eq.1 h).symm
  simp [keyB, e]
theorem key0_no {s : ByteArray} (h : ([99, 97, 115, 101] == s.toList) = false) : (s.toList == [99, 97, 115, 101]) = false := by
  rw [beq_eq_false_iff_ne] at h ⊢
  exact fun e => h e.symm
theorem key1_yes {s : ByteArray} (h : ([111, 102] == s.toList) = true) : keyB s = true := by
  have e := (beq_iff_eq.1 h).symm
  simp [keyB, e]
theorem key1_no {s : ByteArray} (h : ([111, 102] == s.toList) = false) : (s.toList == [111, 102]) = false := by
  rw [beq_eq_false_iff_ne] at h ⊢
  exact fun e => h e.symm
theorem key2_yes {s : ByteArray} (h : ([101, 110, 100] == s.toList) = true) : keyB s = true := by
  have e := (beq_iff_eq.1 h).symm
  simp [keyB, e]
theorem key2_no {s : ByteArray} (h : ([101, 110, 100] == s.toList) = false) : (s.toList == [101, 110, 100]) = false := by
  rw [beq_eq_false_iff_ne] at h ⊢
  exact fun e => h e.symm

theorem l01Key_any (s : ByteArray) (w : World) :
    Calls Tryz.prog 50 #[.string s] w fun e w' => e = .returned (.bool (keyB s)) ∧ w' = w := by
  go_enter Tryz.func50, Tryz.ntmps50
  go_wp2
  all_goals go_ret
  · exact ⟨ret_bool (by simp [keyB, *]), rfl⟩
  · exact ⟨ret_bool (by simp [keyB, *]), rfl⟩
  · exact ⟨ret_bool (by simp [keyB]), rfl⟩

theorem keys_at0 (w : World) : Sem.run Tryz.prog (Instr.index 109 (.agg #[.string ⟨#[99, 97, 115, 101]⟩, .string ⟨#[111, 102]⟩, .string ⟨#[101, 110, 100]⟩]) (.int .i64 0)) w = .ok (.string ⟨#[99, 97, 115, 101]⟩) w := by kernel_rfl
theorem keys_at1 (w : World) : Sem.run Tryz.prog (Instr.index 109 (.agg #[.string ⟨#[99, 97, 115, 101]⟩, .string ⟨#[111, 102]⟩, .string ⟨#[101, 110, 100]⟩]) (.int .i64 1)) w = .ok (.string ⟨#[111, 102]⟩) w := by kernel_rfl
theorem keys_at2 (w : World) : Sem.run Tryz.prog (Instr.index 109 (.agg #[.string ⟨#[99, 97, 115, 101]⟩, .string ⟨#[111, 102]⟩, .string ⟨#[101, 110, 100]⟩]) (.int .i64 2)) w = .ok (.string ⟨#[101, 110, 100]⟩) w := by kernel_rfl
set_option maxRecDepth 100000 in
theorem isKeyword_any (s : ByteArray) (w : World) (hk : KeysAt w) :
    Calls Tryz.prog 58 #[.string s] w fun e w' => e = .returned (.bool (keyB s)) ∧ w' = w := by
  obtain ⟨h0, h1, h2⟩ := hk
  go_enter Tryz.func58, Tryz.ntmps58
  go_wp2
  go_loop [6] (fun i => ∃ k : Nat, k ≤ 3 ∧ i = .int .i64 k ∧ (1 ≤ k → (s.toList == [99, 97, 115, 101]) = false) ∧ (2 ≤ k → (s.toList == [111, 102]) = false) ∧ (3 ≤ k → (s.toList == [101, 110, 100]) = false)) (fun i => 3 - (intOf i).toNat)
  case atStart => exact ⟨0, by omega, rfl, by omega, by omega, by omega⟩
  case round =>
    obtain ⟨k, hk, rfl, n0, n1, n2⟩ := hrel
    have H0 : Hid (1 ≤ k → (s.toList == [99, 97, 115, 101]) = false) := n0
    have H1 : Hid (2 ≤ k → (s.toList == [111, 102]) = false) := n1
    have H2 : Hid (3 ≤ k → (s.toList == [101, 110, 100]) = false) := n2
    clear n0 n1 n2 h0 h1 h2
    rcases (by omega : k = 0 ∨ k = 1 ∨ k = 2 ∨ k = 3) with rfl | rfl | rfl | rfl
    · have r0 := keys_at0
      go_wp2
      · go_ret
        exact ⟨ret_bool (key0_yes ‹_›).symm, rfl⟩
      · go_round
        case rel => exact ⟨1, by omega, rfl, fun _ => key0_no ‹_›, by omega, by omega⟩
        case measure => simp [intOf]
    · have r1 := keys_at1
      go_wp2
      · go_ret
        exact ⟨ret_bool (key1_yes ‹_›).symm, rfl⟩
      · go_round
        case rel => exact ⟨2, by omega, rfl, fun _ => H0.out (by omega), fun _ => key1_no ‹_›, by omega⟩
        case measure => simp [intOf]
    · have r2 := keys_at2
      go_wp2
      · go_ret
        exact ⟨ret_bool (key2_yes ‹_›).symm, rfl⟩
      · go_round
        case rel => exact ⟨3, by omega, rfl, fun _ => H0.out (by omega), fun _ => H1.out (by omega), fun _ => key2_no ‹_›⟩
        case measure => simp [intOf]
    · go_wp2
      go_ret
      exact ⟨ret_bool (keyB_not (H0.out (by omega)) (H1.out (by omega)) (H2.out (by omega))).symm, rfl⟩

theorem specAtomOk_any (s : ByteArray) (w : World) (hs : s.size ≤ maxLen) :
    Calls Tryz.prog 29 #[.string s] w fun e w' => e = .returned (.bool (atomB s)) ∧ w' = w := by
  have hs' := hs
  unfold maxLen at hs
  have hn : nameB s = true ∨ nameB s = false := by cases nameB s <;> simp
  rcases hn with hn | hn
  · have hz := nameB_size s hn
    have hb := byte_lt s 0 hz
    have hf := first_eq s hz
    have HF : Hid ((s[0].toNat : Int) = firstN s) := hf
    clear hf
    have hi : inB (s[0].toNat : Int) 97 122 = true ∨ inB (s[0].toNat : Int) 97 122 = false := by cases inB (s[0].toNat : Int) 97 122 <;> simp
    rcases hi with hi | hi
    · go_enter Tryz.func29, Tryz.ntmps29
      go_wp2_with (first
        | (go_at_call 48; go_must (refine (l01Name_any _ _ hs').mono ?_; rintro e w' ⟨rfl, rfl⟩))
        | (go_at_call 49; go_must (refine (l01Small_any _ _ hb.1 hb.2).mono ?_; rintro e w' ⟨rfl, rfl⟩))
        | (go_at_call 50; go_must (refine (l01Key_any _ _).mono ?_; rintro e w' ⟨rfl, rfl⟩)))
      go_ret
      exact ⟨ret_bool (by rw [HF.out] at hi; simp [atomB, hn, hi]), rfl⟩
    · go_enter Tryz.func29, Tryz.ntmps29
      go_wp2_with (first
        | (go_at_call 48; go_must (refine (l01Name_any _ _ hs').mono ?_; rintro e w' ⟨rfl, rfl⟩))
        | (go_at_call 49; go_must (refine (l01Small_any _ _ hb.1 hb.2).mono ?_; rintro e w' ⟨rfl, rfl⟩)))
      go_ret
      exact ⟨ret_bool (by rw [HF.out] at hi; simp [atomB, hi]), rfl⟩
  · go_enter Tryz.func29, Tryz.ntmps29
    go_wp2_with (go_at_call 48; go_must (refine (l01Name_any _ _ hs').mono ?_; rintro e w' ⟨rfl, rfl⟩))
    go_ret
    exact ⟨ret_bool (by simp [atomB, hn]), rfl⟩

theorem implAtomOk_any (s : ByteArray) (w : World) (hs : s.size ≤ maxLen) (hk : KeysAt w) :
    Calls Tryz.prog 40 #[.string s] w fun e w' => e = .returned (.bool (atomB s)) ∧ w' = w := by
  have hs' := hs
  unfold maxLen at hs
  have hn : nameB s = true ∨ nameB s = false := by cases nameB s <;> simp
  rcases hn with hn | hn
  · have hz := nameB_size s hn
    have hb := byte_lt s 0 hz
    have hf := first_eq s hz
    have HF : Hid ((s[0].toNat : Int) = firstN s) := hf
    clear hf
    have hi : inB (s[0].toNat : Int) 97 122 = true ∨ inB (s[0].toNat : Int) 97 122 = false := by cases inB (s[0].toNat : Int) 97 122 <;> simp
    rcases hi with hi | hi
    · go_enter Tryz.func40, Tryz.ntmps40
      go_wp2_with (first
        | (go_at_call 56; go_must (refine (nameOk_any _ _ hs').mono ?_; rintro e w' ⟨rfl, rfl⟩))
        | (go_at_call 57; go_must (refine (isSmall_any _ _ hb.1 hb.2).mono ?_; rintro e w' ⟨rfl, rfl⟩))
        | (go_at_call 58; go_must (refine (isKeyword_any _ _ hk).mono ?_; rintro e w' ⟨rfl, rfl⟩)))
      go_ret
      exact ⟨ret_bool (by rw [HF.out] at hi; simp [atomB, hn, hi]), rfl⟩
    · go_enter Tryz.func40, Tryz.ntmps40
      go_wp2_with (first
        | (go_at_call 56; go_must (refine (nameOk_any _ _ hs').mono ?_; rintro e w' ⟨rfl, rfl⟩))
        | (go_at_call 57; go_must (refine (isSmall_any _ _ hb.1 hb.2).mono ?_; rintro e w' ⟨rfl, rfl⟩)))
      go_ret
      exact ⟨ret_bool (by rw [HF.out] at hi; simp [atomB, hi]), rfl⟩
  · go_enter Tryz.func40, Tryz.ntmps40
    go_wp2_with (go_at_call 56; go_must (refine (nameOk_any _ _ hs').mono ?_; rintro e w' ⟨rfl, rfl⟩))
    go_ret
    exact ⟨ret_bool (by simp [atomB, hn]), rfl⟩
end Go.Proofs.YtpkhblhcdnohmaaGreatDoor
/-
  What a right module is, as plain mathematics: expressions, clauses, functions, modules.
-/
namespace Go.Proofs.YtpkhblhcdnohmaaGreatDoor
open Go.ChangeShapes Go.WideShapes Go.ChangeAt Go.RowKit
set_option linter.unusedVariables false

def opB (t : ByteArray) : Bool := t.toList == [61, 61] || t.toList == [60] || t.toList == [43] || t.toList == [45] || t.toList == [42]
def numB (k n : Int) : Bool := if k = 0 then inB n 0 999999999 else decide (n = 0)
def modB (k : Int) (m : ByteArray) : Bool := decide (m.toList = []) || (decide (k = 8) && atomB m)
/-- What an expression's text is, by what its kind wants. -/
def tkB (k : Int) (t : ByteArray) : Bool := if k = 1 then atomB t else if k = 2 then varB t else if k = 3 then opB t else decide (t.toList = [])
def txtK (k : Int) : Int := if k = 1 ∨ k = 8 then 1 else if k = 2 then 2 else if k = 7 then 3 else 0
def txtB (k : Int) (t : ByteArray) : Bool := tkB (txtK k) t
/-- How many kids a kind has, the least and the most. -/
def kidLo (k : Int) : Int := if k = 4 ∨ k = 10 then 1 else if k = 6 ∨ k = 7 ∨ k = 9 then 2 else 0
def kidHi (k : Int) : Int := if k = 4 then 20 else if k = 6 ∨ k = 7 ∨ k = 9 then 2 else if k = 8 then 6 else if k = 10 then 1 else 0
def clsLo (k : Int) : Int := if k = 10 then 1 else 0
def clsHi (k : Int) : Int := if k = 10 then 20 else 0
/-- An expression's own parts. -/
def plainB (k n : Int) (t m : ByteArray) (nk nc : Nat) : Bool :=
  inB k 0 10 && (numB k n && (modB k m && (txtB k t && (inB nk (kidLo k) (kidHi k) && inB nc (clsLo k) (clsHi k)))))
/-- What a pattern may be, and what may be none. -/
def patB (k : Int) (pat : Bool) : Bool := if pat then decide (k ≤ 6) else !decide (k = 3)

def clB (f : Ex → Bool → Bool) (c : Cl) (pats : Int) : Bool := decide ((c.1.length : Int) = pats) && (inB c.2.length 1 20 && (c.1.all (fun y => f y true) && c.2.all (fun y => f y false)))
def kidsB (f : Ex → Bool → Bool) : List Ex → Bool → Bool → Bool
  | [], _, _ => true
  | x :: xs, p0, p => f x p0 && xs.all (fun y => f y p)
def exOk : Nat → Ex → Bool → Int → Bool
  | 0, _, _, _ => false
  | d + 1, .mk k n t m ks cs, pat, deep => decide (0 ≤ deep) && (plainB k n t m ks.length cs.length && (patB k pat && (kidsB (fun y q => exOk d y q (deep - 1)) ks (pat || decide (k = 9)) pat && cs.all (fun c => clB (fun y q => exOk d y q (deep - 1)) c 1))))

theorem kidsB_nil (f : Ex → Bool → Bool) (ks : List Ex) (p0 p : Bool) : kidsB f (ks.take 0) p0 p = true := by simp [kidsB]
theorem kidsB_succ (f : Ex → Bool → Bool) (ks : List Ex) (p0 p : Bool) (k : Nat) (x : Ex) (h : ks[k]? = some x) (ht : kidsB f (ks.take k) p0 p = true) (hx : f x (if k = 0 then p0 else p) = true) : kidsB f (ks.take (k + 1)) p0 p = true := by
  cases ks with
  | nil => simp at h
  | cons y ys =>
    cases k with
    | zero => simp at h hx; subst h; simp [kidsB, hx]
    | succ k =>
      simp only [List.getElem?_cons_succ] at h
      simp only [Nat.add_one_ne_zero, if_false] at hx
      simp only [List.take_succ_cons, kidsB, Bool.and_eq_true] at ht ⊢
      refine ⟨ht.1, ?_⟩
      rw [List.take_add_one, h, List.all_append, ht.2]
      simp [hx]
theorem kidsB_at (f : Ex → Bool → Bool) (ks : List Ex) (p0 p : Bool) (k : Nat) (x : Ex) (h : ks[k]? = some x) (hx : f x (if k = 0 then p0 else p) = false) : kidsB f ks p0 p = false := by
  cases ks with
  | nil => simp at h
  | cons y ys =>
    cases k with
    | zero => simp at h hx; subst h; simp [kidsB, hx]
    | succ k =>
      simp only [List.getElem?_cons_succ] at h
      simp only [Nat.add_one_ne_zero, if_false] at hx
      have : ys.all (fun y => f y p) = false := by rw [List.all_eq_false]; exact ⟨x, List.mem_of_getElem? h, by simp [hx]⟩
      simp [kidsB, this]
theorem kidsB_same (f : Ex → Bool → Bool) (ks : List Ex) (p : Bool) : kidsB f ks p p = ks.all (fun y => f y p) := by
  cases ks <;> simp [kidsB]
theorem allT_succ {α : Type} (f : α → Bool) (xs : List α) (k : Nat) (x : α) (h : xs[k]? = some x) (ht : (xs.take k).all f = true) (hx : f x = true) : (xs.take (k + 1)).all f = true := by
  rw [List.take_add_one, h, List.all_append, ht]; simp [hx]
theorem allT_at {α : Type} (f : α → Bool) (xs : List α) (k : Nat) (x : α) (h : xs[k]? = some x) (hx : f x = false) : xs.all f = false := by
  rw [List.all_eq_false]; exact ⟨x, List.mem_of_getElem? h, by simp [hx]⟩
theorem anyT_succ {α : Type} (f : α → Bool) (xs : List α) (k : Nat) (x : α) (h : xs[k]? = some x) (ht : (xs.take k).any f = false) (hx : f x = false) : (xs.take (k + 1)).any f = false := by
  rw [List.take_add_one, h, List.any_append, ht]; simp [hx]
theorem anyT_at {α : Type} (f : α → Bool) (xs : List α) (k : Nat) (x : α) (h : xs[k]? = some x) (hx : f x = true) : xs.any f = true := by
  rw [List.any_eq_true]; exact ⟨x, List.mem_of_getElem? h, hx⟩
theorem exOk_eq (d : Nat) (k n : Int) (t m : ByteArray) (ks : List Ex) (cs : List Cl) (pat : Bool) (deep : Int) :
    exOk (d + 1) (.mk k n t m ks cs) pat deep = (decide (0 ≤ deep) && (plainB k n t m ks.length cs.length && (patB k pat && (kidsB (fun y q => exOk d y q (deep - 1)) ks (pat || decide (k = 9)) pat && cs.all (fun c => clB (fun y q => exOk d y q (deep - 1)) c 1))))) := rfl
theorem plainB_range {k n : Int} {t m : ByteArray} {nk nc : Nat} (h : plainB k n t m nk nc = true) : 0 ≤ k ∧ k ≤ 10 := by
  unfold plainB at h
  rw [Bool.and_eq_true] at h
  have := h.1
  simp [inB] at this
  omega
end Go.Proofs.YtpkhblhcdnohmaaGreatDoor
/-
  Chapter 4, plain mathematics: of right expressions, what the program's way from the end gives is what the specification tells.
-/
namespace Go.Proofs.YtpkhblhcdnohmaaGreatDoor
open Go.ChangeShapes Go.WideShapes Go.ChangeAt Go.RowKit
set_option linter.unusedVariables false

/-- The names that are wanted ahead of an expression, out of those wanted behind it. -/
def stepS (d : Nat) (x : Ex) (S : List UInt8 → Prop) : List UInt8 → Prop := fun z => inK z (freeV d x []) ∨ (S z ∧ ¬ inK z (bndV d x))
theorem stepS_iff {d : Nat} {x : Ex} {S S' : List UInt8 → Prop} (h : ∀ z, S z ↔ S' z) (z : List UInt8) : stepS d x S z ↔ stepS d x S' z := by
  unfold stepS; rw [h z]
theorem stepS_list (d : Nat) (S : List UInt8 → Prop) (z : List UInt8) : ∀ (ks : List Ex), ks.foldr (stepS d) S z ↔ inK z (listV (freeV d) (bndV d) [] ks) ∨ (S z ∧ ¬ ∃ y ∈ ks, inK z (bndV d y))
  | [] => by
    have := inK_nil (z := z)
    simp [listV_nil, this]
  | x :: xs => by
    have ih := stepS_list d S z xs
    rw [List.foldr_cons, listV_back (bndV d) (freeV_takes d)]
    unfold stepS at ih ⊢
    rw [ih]
    simp only [List.mem_cons, exists_eq_or_imp, not_or]
    by_cases a : inK z (freeV d x []) <;> by_cases b : inK z (bndV d x) <;> simp [a, b]
theorem bndV_two' (d : Nat) (n : Int) (t m : ByteArray) (a b : Ex) (cs : List Cl) : bndV (d + 1) (.mk 9 n t m [a, b] cs) = onceS (bndV d b) (patV d a) := rfl
theorem bndV_else' (d : Nat) (k n : Int) (t m : ByteArray) (ks : List Ex) (cs : List Cl) (h9 : ¬ (k = 9 ∧ ks.length = 2)) : bndV (d + 1) (.mk k n t m ks cs) = foldV (bndV d) [] ks := by
  conv => lhs; unfold bndV
  split
  · simp at h9
  · rfl
/-- What is right has Clauses in a case alone; a variable has nothing; a match has two kids, the first a pattern. -/
theorem exOk_parts {d : Nat} {k n : Int} {t m : ByteArray} {ks : List Ex} {cs : List Cl} {pat : Bool} {deep : Int} (h : exOk (d + 1) (.mk k n t m ks cs) pat deep = true) :
    (k ≠ 10 → cs = []) ∧ (k = 2 → ks = []) ∧ (k = 9 → ∃ a b, ks = [a, b] ∧ exOk d a true (deep - 1) = true ∧ ∃ p, exOk d b p (deep - 1) = true) ∧ (pat = true → k ≤ 6) ∧
    (∀ y ∈ ks, ∃ p, (pat = true → p = true) ∧ exOk d y p (deep - 1) = true) ∧ (∀ c ∈ cs, (∀ y ∈ c.1, exOk d y true (deep - 1) = true) ∧ ∀ y ∈ c.2, exOk d y false (deep - 1) = true) := by
  rw [exOk_eq] at h
  simp only [Bool.and_eq_true, decide_eq_true_eq] at h
  obtain ⟨h0, hp, hpat, hk, hc⟩ := h
  unfold plainB at hp
  simp only [Bool.and_eq_true] at hp
  obtain ⟨hr, -, -, -, hnk, hnc⟩ := hp
  simp [inB] at hr hnk hnc
  have hkid : ∀ y ∈ ks, ∃ p, (pat = true → p = true) ∧ exOk d y p (deep - 1) = true := by
    cases ks with
    | nil => simp
    | cons x xs =>
      simp only [kidsB, Bool.and_eq_true, List.all_eq_true] at hk
      intro y hy
      rcases List.mem_cons.1 hy with rfl | hy
      · exact ⟨_, fun e => by rw [e]; rfl, hk.1⟩
      · exact ⟨_, fun e => e, hk.2 y hy⟩
  refine ⟨fun h => ?_, fun h => ?_, fun h => ?_, fun h => ?_, hkid, fun c hcs => ?_⟩
  · have : clsHi k = 0 := by unfold clsHi; rw [if_neg h]
    rw [this] at hnc
    exact List.length_eq_zero_iff.1 (by omega)
  · subst h
    have : kidHi 2 = 0 := rfl
    rw [this] at hnk
    exact List.length_eq_zero_iff.1 (by omega)
  · subst h
    have h1 : kidHi 9 = 2 := rfl
    have h2 : kidLo 9 = 2 := rfl
    rw [h1, h2] at hnk
    obtain ⟨a, b, rfl⟩ : ∃ a b, ks = [a, b] := by
      have hl : ks.length = 2 := by omega
      match ks, hl with
      | [a, b], _ => exact ⟨a, b, rfl⟩
    refine ⟨a, b, rfl, ?_, ?_⟩
    · simp only [kidsB, Bool.and_eq_true] at hk
      have := hk.1
      simpa using this
    · obtain ⟨p, -, hb⟩ := hkid b (by simp)
      exact ⟨p, hb⟩
  · subst h
    simpa [patB] using hpat
  · rw [List.all_eq_true] at hc
    have := hc c hcs
    unfold clB at this
    simp only [Bool.and_eq_true, List.all_eq_true] at this
    exact ⟨this.2.2.1, this.2.2.2⟩
/-- All variables in a pattern are the pattern's. -/
theorem pat_vars : ∀ (d : Nat) (x : Ex) (deep : Int), exOk d x true deep = true → ∀ z, z ∈ varL d x ↔ inK z (patV d x)
  | 0, _, _, h, _ => by simp [exOk] at h
  | d + 1, .mk k n t m ks cs, deep, h, z => by
    obtain ⟨h1, h2, h3, h4, h5, h6⟩ := exOk_parts h
    have hk := h4 rfl
    have hcs : cs = [] := h1 (by omega)
    subst hcs
    have hv : varL (d + 1) (.mk k n t m ks []) = (if k = 2 then [keyS t] else []) ++ (ks.flatMap (varL d) ++ []) := rfl
    have hp : patV (d + 1) (.mk k n t m ks []) = foldV (patV d) (if k = 2 then [t] else []) ks := rfl
    rw [hv, hp, inK_fold, List.append_nil, List.mem_append, List.mem_flatMap]
    have ih : ∀ y ∈ ks, (z ∈ varL d y ↔ inK z (patV d y)) := fun y hy => by
      obtain ⟨p, e, hy'⟩ := h5 y hy
      rw [e rfl] at hy'
      exact pat_vars d y _ hy' z
    have e1 : (∃ a, a ∈ ks ∧ z ∈ varL d a) ↔ ∃ y, y ∈ ks ∧ inK z (patV d y) := by
      constructor
      · rintro ⟨y, hy, h⟩; exact ⟨y, hy, (ih y hy).1 h⟩
      · rintro ⟨y, hy, h⟩; exact ⟨y, hy, (ih y hy).2 h⟩
    rw [e1]
    by_cases hk2 : k = 2
    · simp [hk2, inK]
    · simp [hk2, inK]
/-- What is free in a clause, by the program's way. -/
theorem clause_step (d : Nat) (c : Cl) (deep : Int) (hp : ∀ y ∈ c.1, exOk d y true deep = true) (z : List UInt8) :
    (c.2.foldr (stepS d) (fun _ => False) z ∧ z ∉ c.1.flatMap (varL d)) ↔ inK z (listV (freeV d) (bndV d) (foldV (patV d) [] c.1) c.2) := by
  rw [stepS_list, clause_in]
  have e1 : z ∈ c.1.flatMap (varL d) ↔ ∃ y ∈ c.1, inK z (patV d y) := by
    rw [List.mem_flatMap]
    constructor
    · rintro ⟨y, hy, h⟩; exact ⟨y, hy, (pat_vars d y deep (hp y hy) z).1 h⟩
    · rintro ⟨y, hy, h⟩; exact ⟨y, hy, (pat_vars d y deep (hp y hy) z).2 h⟩
  rw [e1]
  simp
/-- A variable. -/
theorem step_var (d : Nat) (n : Int) (t m : ByteArray) (cs : List Cl) (S : List UInt8 → Prop) (z : List UInt8) : (S z ∨ z = t.data.toList) ↔ stepS (d + 1) (.mk 2 n t m [] cs) S z := by
  unfold stepS
  rw [freeV_var, bndV_else' _ _ _ _ _ _ _ (by simp)]
  have h0 : hasS [] t = false := rfl
  have h1 : inK z [t] ↔ z = t.data.toList := by
    unfold inK
    simp [keyS, ByteArray.toList_eq]
  have h2 : ¬ inK z (foldV (bndV d) [] []) := inK_nil
  rw [h0]
  simp only [Bool.false_eq_true, if_false, h1, h2, not_false_eq_true, and_true]
  exact Or.comm
/-- A match. -/
theorem step_two (d : Nat) (n : Int) (t m : ByteArray) (a b : Ex) (cs : List Cl) (deep : Int) (ha : exOk d a true deep = true) (S : List UInt8 → Prop) (z : List UInt8) :
    stepS d b (fun z => S z ∧ z ∉ varL d a) z ↔ stepS (d + 1) (.mk 9 n t m [a, b] cs) S z := by
  unfold stepS
  have hp := pat_vars d a deep ha z
  rw [freeV_two, bndV_two', inK_once]
  show _ ∨ ((S z ∧ ¬ z ∈ varL d a) ∧ _) ↔ _
  rw [hp]
  simp only [not_or]
  constructor
  · rintro (h | ⟨⟨h1, h2⟩, h3⟩)
    · exact .inl h
    · exact .inr ⟨h1, h3, h2⟩
  · rintro (h | ⟨h1, h2, h3⟩)
    · exact .inl h
    · exact .inr ⟨⟨h1, h3⟩, h2⟩
/-- What has kids, and maybe clauses. -/
theorem step_else (d : Nat) (k n : Int) (t m : ByteArray) (ks : List Ex) (cs : List Cl) (h2 : k ≠ 2) (h9 : ¬ (k = 9 ∧ ks.length = 2)) (S : List UInt8 → Prop) (z : List UInt8) :
    ks.foldr (stepS d) (fun z => S z ∨ ∃ c ∈ cs, inK z (listV (freeV d) (bndV d) (foldV (patV d) [] c.1) c.2)) z ↔ stepS (d + 1) (.mk k n t m ks cs) S z := by
  have e := freeV_back d k n t m ks cs h2 h9 z
  rw [stepS_list]
  unfold stepS
  rw [e, bndV_else' d k n t m ks cs h9, inK_fold]
  have := inK_nil (z := z)
  simp only [this, false_or]
  constructor
  · rintro (h | ⟨h | h, h'⟩)
    · exact .inl (.inl h)
    · exact .inr ⟨h, h'⟩
    · exact .inl (.inr ⟨h, h'⟩)
  · rintro ((h | ⟨h, h'⟩) | ⟨h, h'⟩)
    · exact .inl h
    · exact .inr ⟨.inr h, h'⟩
    · exact .inr ⟨.inl h, h'⟩
end Go.Proofs.YtpkhblhcdnohmaaGreatDoor
/-
  The program's eachExp and eachOf, by contract.
-/
namespace Go.Proofs.YtpkhblhcdnohmaaGreatDoor
open Go.ChangeShapes Go.WideShapes Go.ChangeAt Go.RowKit Go.Maps Go.WideMaps
set_option linter.unusedVariables false
set_option maxRecDepth 100000

theorem mkMap (w : World) : Sem.run Tryz.prog (Instr.makeMap 82 none) w = .ok (.map (some w.heap.size)) (w.alloc (.map #[] 0)) := by kernel_rfl
theorem lawS : Keyed Tryz.prog 9 := string_keyed Tryz.underlying9
/-- How a value that holds nothing reads. -/
def setR (_ : Value) : Option (DataW Unit × List MemPlace) := some (.agg [], [])
def setD (K : List (List UInt8)) : DataW Unit := K.foldl (fun D x => D.put (.string x) (.agg [])) (.map [])
theorem setD_snoc (K : List (List UInt8)) (x : List UInt8) : setD (K ++ [x]) = (setD K).put (.string x) (.agg []) := by simp [setD, List.foldl_append]
/-- The names that have been put into the map in block mb. -/
def MapAt (w : World) (mb : Nat) (K : List (List UInt8)) : Prop := w.ownsMap Tryz.prog 9 setR mb K.length (setD K)
theorem MapAt.keep {w w' : World} {mb : Nat} {K : List (List UInt8)} (h : MapAt w mb K) (he : w'.heap[mb]? = w.heap[mb]?) : MapAt w' mb K := by
  obtain ⟨es, clock, h1, h2⟩ := h
  exact ⟨es, clock, he.trans h1, h2⟩
theorem MapAt.lt {w : World} {mb : Nat} {K : List (List UInt8)} (h : MapAt w mb K) : mb < w.heap.size := by
  obtain ⟨es, clock, h1, h2⟩ := h
  exact (Array.getElem?_eq_some_iff.1 h1).1

theorem add_any (w : World) (mb : Nat) (K : List (List UInt8)) (s : ByteArray) (h : MapAt w mb K) (hs : okS s) (hK : K.length < maxLen) :
    Calls Tryz.prog 97 #[.map (some mb), .string s] w fun e w' => e = .returned (.tuple #[]) ∧ MapAt w' mb (K ++ [s.data.toList]) ∧ Off [mb] w w' := by
  have H : Hid (MapAt w mb K) := h
  have hk : keyOf Tryz.prog 9 (.string s) = some (.string s.data.toList) := keyOf_string_mk Tryz.underlying9 hs
  clear h
  go_enter Tryz.func97, Tryz.ntmps97
  go_wp2_with (at_mapUpdate; refine wpList_mapUpdate_own _ rfl _ _ _ 82 rfl 9 _ lawS Tryz.underlying82 setR mb K.length (setD K) rfl H.out hK _ _ _ rfl rfl hk (.agg []) [] rfl ?_; intro w1 hm1 hg1)
  go_end0
  refine ⟨rfl, ?_, Off.of_grown hg1 (by simp)⟩
  unfold MapAt
  rw [setD_snoc, List.length_append]
  exact hm1

/-- What the closure that tells names holds: the map, the box of the method that puts a name into it. -/
structure Ev (w : World) (mb tb : Nat) (K : List (List UInt8)) : Prop where
  m : MapAt w mb K
  b : Blk w tb #[.func (.func 97) #[.map (some mb)] #[]] 99
  ne : tb ≠ mb
theorem Ev.next {w w' : World} {mb tb : Nat} {K : List (List UInt8)} (h : Ev w mb tb K) (hb : Below w.heap.size w w') : Ev w' mb tb K :=
  ⟨h.m.keep (hb.block mb h.m.lt), h.b.next hb, h.ne⟩
theorem HEx.offN {w w' : World} {mb d : Nat} {cs : List Value} {x : Ex} (h : HEx w (fun g => g ≠ mb) d cs x) (ho : Off [mb] w w') : HEx w' (fun g => g ≠ mb) d cs x :=
  h.mono ⟨ho.size, fun g hg hl => ho.block g hl (by simpa using hg)⟩ (fun _ h => h)
abbrev FV (tb : Nat) : Value := .func (.func 82) #[] #[.pointer (some ⟨tb, 0, none⟩)]

theorem cbk_any (w : World) (mb tb d : Nat) (cs : List Value) (x : Ex) (K : List (List UInt8)) (h : HEx w (fun g => g ≠ mb) (d + 1) cs x) (hv : Ev w mb tb K) (hK : K.length < 4194304) (A : List (List UInt8)) (hA : (if x.kind = 2 then [keyS x.text] else []) = A) :
    Calls Tryz.prog 82 #[.agg cs.toArray, .pointer (some ⟨tb, 0, none⟩)] w fun e w' => e = .returned (.tuple #[]) ∧ Ev w' mb tb (K ++ A) ∧ Off [mb] w w' := by
  obtain ⟨kv, cv, rfl, -, -, hts, -, f0, f1⟩ := h
  obtain ⟨p, cap, rfl, -⟩ := f0
  obtain ⟨pc, capc, rfl, -⟩ := f1
  have BA : Below w.heap.size w (w.alloc (.cells #[.int .i64 x.kind, .int .i64 x.n, .string x.text, .string x.mod, .slice p x.kids.length cap, .slice pc x.clauses.length capc] 73)) := (Below.refl _ _).alloc (Nat.le_refl _) _
  have HV : Hid (Ev (w.alloc (.cells #[.int .i64 x.kind, .int .i64 x.n, .string x.text, .string x.mod, .slice p x.kids.length cap, .slice pc x.clauses.length capc] 73)) mb tb K) := hv.next BA
  have HBA : Hid (Below w.heap.size w (w.alloc (.cells #[.int .i64 x.kind, .int .i64 x.n, .string x.text, .string x.mod, .slice p x.kids.length cap, .slice pc x.clauses.length capc] 73))) := BA
  have ct := HV.out.b.cell 0 _ rfl
  by_cases hk : x.kind = 2
  · rw [if_pos hk] at hA
    subst hA
    clear hv BA
    rw [hk] at HV HBA ct ⊢
    go_enter Tryz.func82, Tryz.ntmps82
    go_wp2_with fail
    refine (add_any _ mb K x.text HV.out.m hts (by unfold maxLen; omega)).mono ?_
    rintro e w1 ⟨rfl, hm1, ho1⟩
    have h1 : Ev w1 mb tb (K ++ [keyS x.text]) := ⟨by unfold keyS; rw [ByteArray.toList_eq]; exact hm1, (ho1.block tb HV.out.b.lt (by simpa using HV.out.ne)).trans HV.out.b, HV.out.ne⟩
    go_wp2_with fail
    go_end0
    exact ⟨rfl, h1, (Off.of_below HBA.out).trans ho1⟩
  · rw [if_neg hk] at hA
    subst hA
    rw [List.append_nil]
    have hkb : (x.kind == 2) = false := by simpa using hk
    clear hv BA
    go_enter Tryz.func82, Tryz.ntmps82
    go_wp2_with fail
    go_end0
    exact ⟨rfl, HV.out, Off.of_below HBA.out⟩

theorem HEx.shapeN {w : World} {S : Nat → Prop} {d : Nat} {cs : List Value} {x : Ex} (h : HEx w S d cs x) : ∃ sk sn st se p1 n1 q1 p2 n2 q2, cs = [.int .i64 sk, .int .i64 sn, .string st, .string se, .slice p1 n1 q1, .slice p2 n2 q2] := by
  cases d with
  | zero => exact h.elim
  | succ d =>
    obtain ⟨kv, cv, rfl, _, _, _, _, ⟨p1, c1, rfl, _⟩, ⟨p2, c2, rfl, _⟩⟩ := h
    exact ⟨_, _, _, _, _, _, _, _, _, _, rfl⟩
def EeC (d : Nat) : Prop := ∀ (w : World) (mb tb : Nat) (cs : List Value) (x : Ex) (K : List (List UInt8)), HEx w (fun g => g ≠ mb) d cs x → Ev w mb tb K → K.length + (varL d x).length ≤ 2097152 →
    Calls Tryz.prog 81 #[.agg cs.toArray, FV tb] w fun e w' => e = .returned (.tuple #[]) ∧ Ev w' mb tb (K ++ varL d x) ∧ Off [mb] w w'
def EoC (d : Nat) : Prop := ∀ (w : World) (mb tb : Nat) (v : Value) (es : List Ex) (K : List (List UInt8)), Rows w (fun g => g ≠ mb) 6 (HEx w (fun g => g ≠ mb) d) v es → Ev w mb tb K → K.length + (es.flatMap (varL d)).length ≤ 2097152 →
    Calls Tryz.prog 100 #[v, FV tb] w fun e w' => e = .returned (.tuple #[]) ∧ Ev w' mb tb (K ++ es.flatMap (varL d)) ∧ Off [mb] w w'

set_option maxHeartbeats 8000000 in
theorem eachOf_of {d : Nat} (hE : EeC d) : EoC d := by
  intro w mb tb v es K hr hv hK
  obtain ⟨p, cap, rfl, hcl, hcm, hx⟩ := hr
  have hnb : es.length ≤ 9223372036854775807 := by unfold maxLen at hcm; omega
  have HX : Hid (es ≠ [] → ∃ g off, p = some ⟨g, off, none⟩ ∧ g ≠ mb ∧ g < w.heap.size ∧ ∀ i x, es[i]? = some x → ∃ cs, cs.length = 6 ∧ (∀ j, j < 6 → w.cell? ⟨g, off + i * 6 + j, none⟩ = cs[j]?) ∧ HEx w (fun g => g ≠ mb) d cs x) := hx
  have HV : Hid (Ev w mb tb K) := hv
  have HK : Hid (K.length + (es.flatMap (varL d)).length ≤ 2097152) := hK
  generalize hn : es.length = n at *
  have HN : Hid (es.length = n) := hn
  clear hx hv hK hn
  go_enter Tryz.func100, Tryz.ntmps100
  go_wp2_with fail
  go_loopw [8] (fun iv wr => ∃ k : Nat, k ≤ n ∧ iv = .int .i64 k ∧ Hid (Ev wr mb tb (K ++ (es.take k).flatMap (varL d))) ∧ Hid (Off [mb] w wr)) (fun iv _ => n - (intOf iv).toNat)
  case atStart => exact ⟨0, Nat.zero_le _, rfl, by show Ev _ _ _ _; simpa using HV.out, Off.refl _ _⟩
  case round =>
    obtain ⟨k, hk, rfl, HVk, HOk⟩ := hrel
    by_cases hlt : k < n
    · obtain ⟨x, hxk⟩ : ∃ x, es[k]? = some x := ⟨es[k]'(by rw [HN.out]; exact hlt), List.getElem?_eq_getElem _⟩
      obtain ⟨g, off, rfl, hgm, hgl, hat⟩ := HX.out (by intro h; rw [h] at hxk; simp at hxk)
      obtain ⟨cs, hcsl, hcs, r1⟩ := hat k x hxk
      have E1 : Hid (HEx wr (fun g => g ≠ mb) d cs x) := r1.offN HOk.out
      obtain ⟨c0, c1, c2, c3, c4, c5, rfl⟩ := len6 hcsl
      have hge : wr.heap[g]? = w.heap[g]? := HOk.out.block g hgl (by simpa using hgm)
      have a0 := (World.cell?_of_block (a := ⟨g, off + k * 6 + 0, none⟩) hge).trans (hcs 0 (by omega))
      have a1 := (World.cell?_of_block (a := ⟨g, off + k * 6 + 1, none⟩) hge).trans (hcs 1 (by omega))
      have a2 := (World.cell?_of_block (a := ⟨g, off + k * 6 + 2, none⟩) hge).trans (hcs 2 (by omega))
      have a3 := (World.cell?_of_block (a := ⟨g, off + k * 6 + 3, none⟩) hge).trans (hcs 3 (by omega))
      have a4 := (World.cell?_of_block (a := ⟨g, off + k * 6 + 4, none⟩) hge).trans (hcs 4 (by omega))
      have a5 := (World.cell?_of_block (a := ⟨g, off + k * 6 + 5, none⟩) hge).trans (hcs 5 (by omega))
      simp at a0 a1 a2 a3 a4 a5
      have HJ : Hid (K ++ (es.take (k + 1)).flatMap (varL d) = K ++ (es.take k).flatMap (varL d) ++ varL d x) := by
        show _ = _
        rw [List.take_add_one, hxk]; simp
      have HKk : Hid ((K ++ (es.take k).flatMap (varL d)).length + (varL d x).length ≤ 2097152) := by
        have h1 := HK.out
        have h2 : (es.flatMap (varL d)) = (es.take k).flatMap (varL d) ++ (varL d x ++ (es.drop (k + 1)).flatMap (varL d)) := by
          have h3 : es = es.take k ++ x :: es.drop (k + 1) := by
            have h4 := List.take_append_drop k es
            rw [List.drop_eq_getElem_cons (by rw [HN.out]; exact hlt)] at h4
            have h5 : es[k]'(by rw [HN.out]; exact hlt) = x := (List.getElem?_eq_some_iff.1 hxk).2
            rw [h5] at h4
            exact h4.symm
          conv => lhs; rw [h3]
          simp
        rw [h2] at h1
        show _ ≤ _
        simp only [List.length_append] at h1 ⊢
        omega
      generalize K ++ (es.take k).flatMap (varL d) = Kk at *
      have hki : (k : Int) < (n : Int) := by omega
      have hk0 : (0 : Int) ≤ (k : Int) := by omega
      clear hat hcs hcsl r1 hge
      obtain ⟨sk, sn, st, se, p1, n1, q1, p2, n2, q2, hsh⟩ := HEx.shapeN E1.out
      simp only [List.cons.injEq, and_true] at hsh
      obtain ⟨rfl, rfl, rfl, rfl, rfl, rfl⟩ := hsh
      have HBA : Hid (Below wr.heap.size wr (wr.alloc (.cells #[.int .i64 sk, .int .i64 sn, .string st, .string se, .slice p1 n1 q1, .slice p2 n2 q2] 73))) := (Below.refl _ _).alloc (Nat.le_refl _) _
      go_wp2_with fail
      refine (hE _ mb tb _ x Kk (E1.out.offN (Off.of_below HBA.out)) (HVk.out.next HBA.out) HKk.out).mono ?_
      rintro e w1 ⟨rfl, hv1, ho1⟩
      go_wp2_with fail
      exact ⟨⟨k + 1, by omega, by go_num, by show Ev _ _ _ _; rw [HJ.out]; exact hv1, (HOk.out.trans (Off.of_below HBA.out)).trans ho1⟩, by simp [intOf]; omega⟩
    · have HS : Hid (Ev wr mb tb (K ++ es.flatMap (varL d))) := by
        have := HVk.out
        rwa [List.take_of_length_le (by rw [HN.out]; omega)] at this
      go_wp2_with fail
      go_end0
      exact ⟨rfl, HS.out, HOk.out⟩

set_option maxHeartbeats 8000000 in
theorem eachExp_of {d : Nat} (hO : EoC d) : EeC (d + 1) := by
  intro w mb tb cs x K h hv hK
  have HEX : Hid (HEx w (fun g => g ≠ mb) (d + 1) cs x) := h
  obtain ⟨kv, cv, rfl, -, -, hts, -, f0, f1⟩ := h
  obtain ⟨kx, nx, tx, mx, ks, cl⟩ := x
  simp only [Ex.kind, Ex.n, Ex.text, Ex.mod, Ex.kids, Ex.clauses] at *
  have hvl : varL (d + 1) (.mk kx nx tx mx ks cl) = (if kx = 2 then [keyS tx] else []) ++ (ks.flatMap (varL d) ++ cl.flatMap fun c => c.1.flatMap (varL d) ++ c.2.flatMap (varL d)) := rfl
  rw [hvl] at hK ⊢
  generalize hA : (if kx = 2 then [keyS tx] else ([] : List (List UInt8))) = A at hK ⊢
  have HA : Hid ((if kx = 2 then [keyS tx] else ([] : List (List UInt8))) = A) := hA
  simp only [List.length_append] at hK
  have F0 : Hid (Rows w (fun g => g ≠ mb) 6 (HEx w (fun g => g ≠ mb) d) kv ks) := f0
  obtain ⟨p, cap, rfl, -⟩ := id f0
  obtain ⟨pc, capc, rfl, hcl', hcm', hxc⟩ := f1
  have hnc : cl.length ≤ 9223372036854775807 := by unfold maxLen at hcm'; omega
  have HXC : Hid (cl ≠ [] → ∃ g off, pc = some ⟨g, off, none⟩ ∧ g ≠ mb ∧ g < w.heap.size ∧ ∀ i x, cl[i]? = some x → ∃ cs, cs.length = 2 ∧ (∀ j, j < 2 → w.cell? ⟨g, off + i * 2 + j, none⟩ = cs[j]?) ∧ HCl w (fun g => g ≠ mb) (HEx w (fun g => g ≠ mb) d) cs x) := hxc
  have HKK : Hid (K.length + (A.length + ((ks.flatMap (varL d)).length + (cl.flatMap fun c => c.1.flatMap (varL d) ++ c.2.flatMap (varL d)).length)) ≤ 2097152) := hK
  generalize hm : cl.length = nc at *
  have HNC : Hid (cl.length = nc) := hm
  have HBA : Hid (Below w.heap.size w (w.alloc (.cells #[.int .i64 kx, .int .i64 nx, .string tx, .string mx, .slice p ks.length cap, .slice pc nc capc] 73))) := (Below.refl _ _).alloc (Nat.le_refl _) _
  have HV : Hid (Ev (w.alloc (.cells #[.int .i64 kx, .int .i64 nx, .string tx, .string mx, .slice p ks.length cap, .slice pc nc capc] 73)) mb tb K) := hv.next HBA.out
  have bA : Hid (Blk (w.alloc (.cells #[.int .i64 kx, .int .i64 nx, .string tx, .string mx, .slice p ks.length cap, .slice pc nc capc] 73)) w.heap.size #[.int .i64 kx, .int .i64 nx, .string tx, .string mx, .slice p ks.length cap, .slice pc nc capc] 73) := Blk.new
  have hmb : mb ≠ w.heap.size := by have := hv.m.lt; omega
  clear f0 hxc hA hm hvl hv hK
  go_enter Tryz.func81, Tryz.ntmps81
  go_wp2_with fail
  refine (cbk_any _ mb tb d _ _ K (HEX.out.offN (Off.of_below HBA.out)) HV.out (by have := HKK.out; omega) A HA.out).mono ?_
  rintro e w1 ⟨rfl, hv1, ho1⟩
  have HV1 : Hid (Ev w1 mb tb (K ++ A)) := hv1
  have HO1 : Hid (Off [mb] w w1) := (Off.of_below HBA.out).trans ho1
  have b1 : Hid (Blk w1 w.heap.size #[.int .i64 kx, .int .i64 nx, .string tx, .string mx, .slice p ks.length cap, .slice pc nc capc] 73) := (ho1.block w.heap.size bA.out.lt (by simpa using fun e => hmb e.symm)).trans bA.out
  have x4 := b1.out.cell 4 _ rfl
  clear hv1 ho1 HV bA
  go_wp2_with fail
  refine (hO _ mb tb _ ks (K ++ A) (Rows.mono F0.out ⟨HO1.out.size, fun g hg hl => HO1.out.block g hl (by simpa using hg)⟩ (fun _ h => h) (fun _ _ _ h => HEx.offN h HO1.out)) HV1.out (by have := HKK.out; simp only [List.length_append]; omega)).mono ?_
  rintro e w2 ⟨rfl, hv2, ho2⟩
  have HV2 : Hid (Ev w2 mb tb (K ++ A ++ ks.flatMap (varL d))) := hv2
  have HO2 : Hid (Off [mb] w w2) := HO1.out.trans ho2
  have b2 : Hid (Blk w2 w.heap.size #[.int .i64 kx, .int .i64 nx, .string tx, .string mx, .slice p ks.length cap, .slice pc nc capc] 73) := (ho2.block w.heap.size b1.out.lt (by simpa using fun e => hmb e.symm)).trans b1.out
  have x5 := b2.out.cell 5 _ rfl
  clear hv2 ho2 x4 b1 HV1 HO1
  go_wp2_with fail
  go_loopw [16] (fun iv wr => ∃ k : Nat, k ≤ nc ∧ iv = .int .i64 k ∧ Hid (Ev wr mb tb (K ++ A ++ ks.flatMap (varL d) ++ (cl.take k).flatMap fun c => c.1.flatMap (varL d) ++ c.2.flatMap (varL d))) ∧ Hid (Off [mb] w wr)) (fun iv _ => nc - (intOf iv).toNat)
  case atStart => exact ⟨0, Nat.zero_le _, rfl, by show Ev _ _ _ _; simpa using HV2.out, HO2.out⟩
  case round =>
    obtain ⟨k, hk, rfl, HVk, HOk⟩ := hrel
    clear x5 HV2 HO2 b2
    by_cases hlt : k < nc
    · obtain ⟨c, hck⟩ : ∃ c, cl[k]? = some c := ⟨cl[k]'(by rw [HNC.out]; exact hlt), List.getElem?_eq_getElem _⟩
      obtain ⟨g, off, rfl, hgm, hgl, hat⟩ := HXC.out (by intro h; rw [h] at hck; simp at hck)
      obtain ⟨cs, hcsl, hcs, pv, bv, rfl, rp, rb⟩ := hat k c hck
      have SK : Hid (SameOn (fun g => g ≠ mb) w wr) := ⟨HOk.out.size, fun g hg hl => HOk.out.block g hl (by simpa using hg)⟩
      have RP : Hid (Rows wr (fun g => g ≠ mb) 6 (HEx wr (fun g => g ≠ mb) d) pv c.1) := Rows.mono rp SK.out (fun _ h => h) (fun _ _ _ h => HEx.offN h HOk.out)
      have RB : Hid (Rows wr (fun g => g ≠ mb) 6 (HEx wr (fun g => g ≠ mb) d) bv c.2) := Rows.mono rb SK.out (fun _ h => h) (fun _ _ _ h => HEx.offN h HOk.out)
      obtain ⟨pp, capp, rfl, -⟩ := rp
      obtain ⟨pb, capb, rfl, -⟩ := rb
      have hge : wr.heap[g]? = w.heap[g]? := HOk.out.block g hgl (by simpa using hgm)
      have a0 := (World.cell?_of_block (a := ⟨g, off + k * 2 + 0, none⟩) hge).trans (hcs 0 (by omega))
      have a1 := (World.cell?_of_block (a := ⟨g, off + k * 2 + 1, none⟩) hge).trans (hcs 1 (by omega))
      simp at a0 a1
      have HJ : Hid ((K ++ A ++ ks.flatMap (varL d) ++ (cl.take (k + 1)).flatMap fun c => c.1.flatMap (varL d) ++ c.2.flatMap (varL d)) = (K ++ A ++ ks.flatMap (varL d) ++ (cl.take k).flatMap fun c => c.1.flatMap (varL d) ++ c.2.flatMap (varL d)) ++ c.1.flatMap (varL d) ++ c.2.flatMap (varL d)) := by
        show _ = _
        rw [List.take_add_one, hck]; simp
      have HKk : Hid ((K ++ A ++ ks.flatMap (varL d) ++ (cl.take k).flatMap fun c => c.1.flatMap (varL d) ++ c.2.flatMap (varL d)).length + (c.1.flatMap (varL d)).length + (c.2.flatMap (varL d)).length ≤ 2097152) := by
        have h1 := HKK.out
        have h2 : (cl.flatMap fun c => c.1.flatMap (varL d) ++ c.2.flatMap (varL d)) = ((cl.take k).flatMap fun c => c.1.flatMap (varL d) ++ c.2.flatMap (varL d)) ++ ((c.1.flatMap (varL d) ++ c.2.flatMap (varL d)) ++ (cl.drop (k + 1)).flatMap fun c => c.1.flatMap (varL d) ++ c.2.flatMap (varL d)) := by
          have h3 : cl = cl.take k ++ c :: cl.drop (k + 1) := by
            have h4 := List.take_append_drop k cl
            rw [List.drop_eq_getElem_cons (by rw [HNC.out]; exact hlt)] at h4
            have h5 : cl[k]'(by rw [HNC.out]; exact hlt) = c := (List.getElem?_eq_some_iff.1 hck).2
            rw [h5] at h4
            exact h4.symm
          conv => lhs; rw [h3]
          simp
        rw [h2] at h1
        show _ ≤ _
        simp only [List.length_append] at h1 ⊢
        omega
      generalize (K ++ A ++ ks.flatMap (varL d) ++ (cl.take k).flatMap fun c => c.1.flatMap (varL d) ++ c.2.flatMap (varL d)) = Kk at *
      have hki : (k : Int) < (nc : Int) := by omega
      have hk0 : (0 : Int) ≤ (k : Int) := by omega
      have hmw : mb ≠ wr.heap.size := by have := HVk.out.m.lt; omega
      have HBC : Hid (Below wr.heap.size wr (wr.alloc (.cells #[.slice pp c.1.length capp, .slice pb c.2.length capb] 48))) := (Below.refl _ _).alloc (Nat.le_refl _) _
      have bC : Hid (Blk (wr.alloc (.cells #[.slice pp c.1.length capp, .slice pb c.2.length capb] 48)) wr.heap.size #[.slice pp c.1.length capp, .slice pb c.2.length capb] 48) := Blk.new
      clear hat hcs hcsl hge
      go_wp2_with fail
      refine (hO _ mb tb _ c.1 Kk (Rows.mono RP.out ⟨HBC.out.size, fun g _ hl => HBC.out.block g hl⟩ (fun _ h => h) (fun _ _ _ h => HEx.offN h (Off.of_below HBC.out))) (HVk.out.next HBC.out) (by have := HKk.out; omega)).mono ?_
      rintro e w3 ⟨rfl, hv3, ho3⟩
      have HV3 : Hid (Ev w3 mb tb (Kk ++ c.1.flatMap (varL d))) := hv3
      have HO3 : Hid (Off [mb] wr w3) := (Off.of_below HBC.out).trans ho3
      have b3 : Blk w3 wr.heap.size #[.slice pp c.1.length capp, .slice pb c.2.length capb] 48 := (ho3.block wr.heap.size bC.out.lt (by simpa using fun e => hmw e.symm)).trans bC.out
      have y1 := b3.cell 1 _ rfl
      clear hv3 ho3 bC b3 a0 a1
      go_wp2_with fail
      refine (hO _ mb tb _ c.2 (Kk ++ c.1.flatMap (varL d)) (Rows.mono RB.out ⟨HO3.out.size, fun g hg hl => HO3.out.block g hl (by simpa using hg)⟩ (fun _ h => h) (fun _ _ _ h => HEx.offN h HO3.out)) HV3.out (by have := HKk.out; simp only [List.length_append]; omega)).mono ?_
      rintro e w4 ⟨rfl, hv4, ho4⟩
      go_wp2_with fail
      exact ⟨⟨k + 1, by omega, by go_num, by show Ev _ _ _ _; rw [HJ.out]; exact hv4, (HOk.out.trans HO3.out).trans ho4⟩, by simp [intOf]; omega⟩
    · have HS : Hid (Ev wr mb tb (K ++ (A ++ (ks.flatMap (varL d) ++ cl.flatMap fun c => c.1.flatMap (varL d) ++ c.2.flatMap (varL d))))) := by
        have := HVk.out
        rw [List.take_of_length_le (by rw [HNC.out]; omega)] at this
        show Ev _ _ _ _
        simpa only [List.append_assoc] using this
      go_wp2_with fail
      go_end0
      exact ⟨rfl, HS.out, HOk.out⟩

theorem eachExp_all : ∀ d, EeC d
  | 0 => fun w mb tb cs x K h _ _ => h.elim
  | d + 1 => eachExp_of (eachOf_of (eachExp_all d))

/-- eachVar with the method that puts a name into a map. -/
theorem eachVar_any (w : World) (mb d : Nat) (cs : List Value) (x : Ex) (K : List (List UInt8)) (h : HEx w (fun g => g ≠ mb) d cs x) (hm : MapAt w mb K) (hK : K.length + (varL d x).length ≤ 2097152) :
    Calls Tryz.prog 65 #[.agg cs.toArray, .func (.func 97) #[.map (some mb)] #[]] w fun e w' => e = .returned (.tuple #[]) ∧ MapAt w' mb (K ++ varL d x) ∧ Off [mb] w w' := by
  obtain ⟨sk, sn, st, se, p1, n1, q1, p2, n2, q2, rfl⟩ := HEx.shapeN h
  have HH : Hid (HEx w (fun g => g ≠ mb) d [.int .i64 sk, .int .i64 sn, .string st, .string se, .slice p1 n1 q1, .slice p2 n2 q2] x) := h
  have HM : Hid (MapAt w mb K) := hm
  have hlt := hm.lt
  clear h hm
  go_enter Tryz.func65, Tryz.ntmps65
  go_wp2_with fail
  have hB : Below w.heap.size w ((w.alloc (.cells #[.int .i64 sk, .int .i64 sn, .string st, .string se, .slice p1 n1 q1, .slice p2 n2 q2] 73)).alloc (.cells #[.func (.func 97) #[.map (some mb)] #[]] 99)) := ((Below.refl _ _).alloc (Nat.le_refl _) _).alloc (by simp) _
  have hE : Ev ((w.alloc (.cells #[.int .i64 sk, .int .i64 sn, .string st, .string se, .slice p1 n1 q1, .slice p2 n2 q2] 73)).alloc (.cells #[.func (.func 97) #[.map (some mb)] #[]] 99)) mb (w.heap.size + 1) K := ⟨HM.out.keep (hB.block mb hlt), by
    have := Blk.new (w := w.alloc (.cells #[.int .i64 sk, .int .i64 sn, .string st, .string se, .slice p1 n1 q1, .slice p2 n2 q2] 73)) (cs := #[.func (.func 97) #[.map (some mb)] #[]]) (t := 99)
    rwa [alloc_hs] at this, by omega⟩
  refine (eachExp_all d _ mb (w.heap.size + 1) _ x K (HH.out.offN (Off.of_below hB)) hE hK).mono ?_
  rintro e w1 ⟨rfl, hv1, ho1⟩
  go_wp2_with fail
  go_end0
  exact ⟨rfl, hv1.m, (Off.of_below hB).trans ho1⟩
end Go.Proofs.YtpkhblhcdnohmaaGreatDoor
/-
  A set of names in a map of the program, told by membership.
-/
namespace Go.Proofs.YtpkhblhcdnohmaaGreatDoor
open Go.ChangeShapes Go.WideShapes Go.ChangeAt Go.RowKit Go.Maps Go.WideMaps
set_option linter.unusedVariables false
set_option maxRecDepth 100000

theorem lawN : Keyed Tryz.prog 9 := string_keyed Tryz.underlying9
structure SetOkN (D : DataW Unit) : Prop where
  tidy : Tidy D
  keys : ∀ es, D = .map es → ∀ p ∈ es, (∃ x, p.1 = .string x) ∧ p.2 = .agg []
theorem SetOkN.put {D : DataW Unit} (h : SetOkN D) (x : List UInt8) : SetOkN (D.put (.string x) (.agg [])) := by
  refine ⟨h.tidy.put (k := .string x) trivial _, fun es he p hp => ?_⟩
  obtain ⟨es0, rfl, hp0⟩ := h.tidy
  have he' : DataW.insert (Lit.string x, DataW.agg []) (es0.filter fun p => !p.1.sameKey (.string x)) = es := by simpa [DataW.put] using he
  rw [← he'] at hp
  have hp2 := ((insert_perm (Lit.string x, (DataW.agg [] : DataW Unit)) (es0.filter fun p => !p.1.sameKey (.string x))).mem_iff).1 hp
  rcases List.mem_cons.1 hp2 with rfl | hp2
  · exact ⟨⟨x, rfl⟩, rfl⟩
  · exact h.keys es0 rfl p (List.mem_filter.1 hp2).1
theorem SetOkN.del {D : DataW Unit} (h : SetOkN D) (x : List UInt8) : SetOkN (D.del (.string x)) := by
  refine ⟨h.tidy.del _, fun es he p hp => ?_⟩
  obtain ⟨es0, rfl, hp0⟩ := h.tidy
  have he' : (es0.filter fun p => !p.1.sameKey (.string x)) = es := by simpa [DataW.del] using he
  rw [← he'] at hp
  exact h.keys es0 rfl p (List.mem_filter.1 hp).1
/-- The map in block mb holds just the names of S; at most n have been put in. -/
def SetAt (w : World) (mb n : Nat) (S : List UInt8 → Prop) : Prop :=
  ∃ D, w.ownsMap Tryz.prog 9 unitElem mb n D ∧ SetOkN D ∧ ∀ z, has D (.string z) = true ↔ S z
theorem SetAt.keep {w w' : World} {mb n : Nat} {S : List UInt8 → Prop} (h : SetAt w mb n S) (he : w'.heap[mb]? = w.heap[mb]?) : SetAt w' mb n S := by
  obtain ⟨D, ⟨es, clock, h1, h2⟩, h3⟩ := h
  exact ⟨D, ⟨es, clock, he.trans h1, h2⟩, h3⟩
theorem SetAt.lt {w : World} {mb n : Nat} {S : List UInt8 → Prop} (h : SetAt w mb n S) : mb < w.heap.size := by
  obtain ⟨D, ⟨es, clock, h1, h2⟩, h3⟩ := h
  exact (Array.getElem?_eq_some_iff.1 h1).1
theorem SetAt.iff {w : World} {mb n : Nat} {S S' : List UInt8 → Prop} (h : SetAt w mb n S) (hS : ∀ z, S z ↔ S' z) : SetAt w mb n S' := by
  obtain ⟨D, h1, h2, h3⟩ := h
  exact ⟨D, h1, h2, fun z => (h3 z).trans (hS z)⟩
theorem SetAt.more {w : World} {mb n n' : Nat} {S : List UInt8 → Prop} (h : SetAt w mb n S) (hn : n ≤ n') : SetAt w mb n' S := by
  obtain ⟨D, h1, h2⟩ := h
  exact ⟨D, h1.mono hn, h2⟩
theorem SetAt.made (w : World) : SetAt (w.alloc (.map #[] 0)) w.heap.size 0 (fun _ => False) :=
  ⟨.map [], World.ownsMap_made w _ _ _, ⟨⟨[], rfl, List.Pairwise.nil⟩, fun es he p hp => by cases he; cases hp⟩, fun z => by simp [has_eq]⟩
end Go.Proofs.YtpkhblhcdnohmaaGreatDoor
/-
  The program's names.add and names.remove, by contract.
-/
namespace Go.Proofs.YtpkhblhcdnohmaaGreatDoor
open Go.ChangeShapes Go.WideShapes Go.ChangeAt Go.RowKit Go.Maps Go.WideMaps
set_option linter.unusedVariables false
set_option maxRecDepth 100000

theorem addN_any (w : World) (mb n : Nat) (S : List UInt8 → Prop) (s : ByteArray) (h : SetAt w mb n S) (hs : okS s) (hn : n < maxLen) :
    Calls Tryz.prog 97 #[.map (some mb), .string s] w fun e w' => e = .returned (.tuple #[]) ∧ SetAt w' mb (n + 1) (fun z => S z ∨ z = s.data.toList) ∧ Off [mb] w w' := by
  obtain ⟨D, hm, hD, hh⟩ := h
  have H : Hid (w.ownsMap Tryz.prog 9 unitElem mb n D) := hm
  have hk : keyOf Tryz.prog 9 (.string s) = some (.string s.data.toList) := keyOf_string_mk Tryz.underlying9 hs
  clear hm
  go_enter Tryz.func97, Tryz.ntmps97
  go_wp2_with (at_mapUpdate; refine wpList_mapUpdate_own _ rfl _ _ _ 82 rfl 9 _ lawN Tryz.underlying82 unitElem mb n D rfl H.out hn _ _ _ rfl rfl hk (.agg []) [] unitElem_mk ?_; intro w1 hm1 hg1)
  go_end0
  refine ⟨rfl, ⟨_, hm1, hD.put _, fun z => ?_⟩, Off.of_grown hg1 (by simp)⟩
  by_cases hz : z = s.data.toList
  · subst hz
    have hM : IsMap D := by obtain ⟨es, rfl, _⟩ := hD.tidy; exact ⟨es, rfl⟩
    simp [has_put_same hM (k := Lit.string s.data.toList) trivial]
  · rw [has_put_other (by intro e; cases e; exact hz rfl), hh z]
    simp [hz]
theorem removeN_any (w : World) (mb n : Nat) (S : List UInt8 → Prop) (s : ByteArray) (h : SetAt w mb n S) (hs : okS s) :
    Calls Tryz.prog 66 #[.map (some mb), .string s] w fun e w' => e = .returned (.tuple #[]) ∧ SetAt w' mb n (fun z => S z ∧ z ≠ s.data.toList) ∧ Off [mb] w w' := by
  obtain ⟨D, hm, hD, hh⟩ := h
  have H : Hid (w.ownsMap Tryz.prog 9 unitElem mb n D) := hm
  have hk : keyOf Tryz.prog 9 (.string s) = some (.string s.data.toList) := keyOf_string_mk Tryz.underlying9 hs
  clear hm
  go_enter Tryz.func66, Tryz.ntmps66
  go_wp2_with (at_delete; refine wpList_delete_own _ rfl _ _ 82 9 rfl _ lawN Tryz.underlying82 unitElem mb n D rfl H.out _ _ rfl hk ?_; intro w1 hm1 hg1)
  go_end0
  refine ⟨rfl, ⟨_, hm1, hD.del _, fun z => ?_⟩, Off.of_grown hg1.grown (by simp)⟩
  by_cases hz : z = s.data.toList
  · subst hz
    simp [has_del_same]
  · rw [has_del_other (by intro e; cases e; exact hz rfl), hh z]
    simp [hz]
end Go.Proofs.YtpkhblhcdnohmaaGreatDoor
/-
  The program's eachVar with names.remove, by contract.
-/
namespace Go.Proofs.YtpkhblhcdnohmaaGreatDoor
open Go.ChangeShapes Go.WideShapes Go.ChangeAt Go.RowKit Go.Maps Go.WideMaps
set_option linter.unusedVariables false
set_option maxRecDepth 100000
variable {n0 : Nat} {S0 : List UInt8 → Prop}

/-- The map holds the names of S0 but for those of K. -/
def RemAt (n0 : Nat) (S0 : List UInt8 → Prop) (w : World) (mb : Nat) (K : List (List UInt8)) : Prop := SetAt w mb n0 (fun z => S0 z ∧ z ∉ K)
theorem RemAt.keep {w w' : World} {mb : Nat} {K : List (List UInt8)} (h : RemAt n0 S0 w mb K) (he : w'.heap[mb]? = w.heap[mb]?) : RemAt n0 S0 w' mb K := SetAt.keep h he
theorem RemAt.lt {w : World} {mb : Nat} {K : List (List UInt8)} (h : RemAt n0 S0 w mb K) : mb < w.heap.size := SetAt.lt h
theorem rem_any (w : World) (mb : Nat) (K : List (List UInt8)) (s : ByteArray) (h : RemAt n0 S0 w mb K) (hs : okS s) (hK : K.length < maxLen) :
    Calls Tryz.prog 66 #[.map (some mb), .string s] w fun e w' => e = .returned (.tuple #[]) ∧ RemAt n0 S0 w' mb (K ++ [s.data.toList]) ∧ Off [mb] w w' := by
  refine (removeN_any w mb n0 _ s h hs).mono ?_
  rintro e w' ⟨rfl, h1, ho⟩
  refine ⟨rfl, h1.iff (fun z => ?_), ho⟩
  simp only [List.mem_append, List.mem_singleton, not_or, and_assoc]

/-- What the closure that tells names holds: the map, the box of the method that puts a name into it. -/
structure EvR (n0 : Nat) (S0 : List UInt8 → Prop) (w : World) (mb tb : Nat) (K : List (List UInt8)) : Prop where
  m : RemAt n0 S0 w mb K
  b : Blk w tb #[.func (.func 66) #[.map (some mb)] #[]] 99
  ne : tb ≠ mb
theorem EvR.next {w w' : World} {mb tb : Nat} {K : List (List UInt8)} (h : EvR n0 S0 w mb tb K) (hb : Below w.heap.size w w') : EvR n0 S0 w' mb tb K :=
  ⟨h.m.keep (hb.block mb h.m.lt), h.b.next hb, h.ne⟩
theorem cbkR_any (w : World) (mb tb d : Nat) (cs : List Value) (x : Ex) (K : List (List UInt8)) (h : HEx w (fun g => g ≠ mb) (d + 1) cs x) (hv : EvR n0 S0 w mb tb K) (hK : K.length < 4194304) (A : List (List UInt8)) (hA : (if x.kind = 2 then [keyS x.text] else []) = A) :
    Calls Tryz.prog 82 #[.agg cs.toArray, .pointer (some ⟨tb, 0, none⟩)] w fun e w' => e = .returned (.tuple #[]) ∧ EvR n0 S0 w' mb tb (K ++ A) ∧ Off [mb] w w' := by
  obtain ⟨kv, cv, rfl, -, -, hts, -, f0, f1⟩ := h
  obtain ⟨p, cap, rfl, -⟩ := f0
  obtain ⟨pc, capc, rfl, -⟩ := f1
  have BA : Below w.heap.size w (w.alloc (.cells #[.int .i64 x.kind, .int .i64 x.n, .string x.text, .string x.mod, .slice p x.kids.length cap, .slice pc x.clauses.length capc] 73)) := (Below.refl _ _).alloc (Nat.le_refl _) _
  have HV : Hid (EvR n0 S0 (w.alloc (.cells #[.int .i64 x.kind, .int .i64 x.n, .string x.text, .string x.mod, .slice p x.kids.length cap, .slice pc x.clauses.length capc] 73)) mb tb K) := hv.next BA
  have HBA : Hid (Below w.heap.size w (w.alloc (.cells #[.int .i64 x.kind, .int .i64 x.n, .string x.text, .string x.mod, .slice p x.kids.length cap, .slice pc x.clauses.length capc] 73))) := BA
  have ct := HV.out.b.cell 0 _ rfl
  by_cases hk : x.kind = 2
  · rw [if_pos hk] at hA
    subst hA
    clear hv BA
    rw [hk] at HV HBA ct ⊢
    go_enter Tryz.func82, Tryz.ntmps82
    go_wp2_with fail
    refine (rem_any _ mb K x.text HV.out.m hts (by unfold maxLen; omega)).mono ?_
    rintro e w1 ⟨rfl, hm1, ho1⟩
    have h1 : EvR n0 S0 w1 mb tb (K ++ [keyS x.text]) := ⟨by unfold keyS; rw [ByteArray.toList_eq]; exact hm1, (ho1.block tb HV.out.b.lt (by simpa using HV.out.ne)).trans HV.out.b, HV.out.ne⟩
    go_wp2_with fail
    go_end0
    exact ⟨rfl, h1, (Off.of_below HBA.out).trans ho1⟩
  · rw [if_neg hk] at hA
    subst hA
    rw [List.append_nil]
    have hkb : (x.kind == 2) = false := by simpa using hk
    clear hv BA
    go_enter Tryz.func82, Tryz.ntmps82
    go_wp2_with fail
    go_end0
    exact ⟨rfl, HV.out, Off.of_below HBA.out⟩

def EeR (n0 : Nat) (S0 : List UInt8 → Prop) (d : Nat) : Prop := ∀ (w : World) (mb tb : Nat) (cs : List Value) (x : Ex) (K : List (List UInt8)), HEx w (fun g => g ≠ mb) d cs x → EvR n0 S0 w mb tb K → K.length + (varL d x).length ≤ 2097152 →
    Calls Tryz.prog 81 #[.agg cs.toArray, FV tb] w fun e w' => e = .returned (.tuple #[]) ∧ EvR n0 S0 w' mb tb (K ++ varL d x) ∧ Off [mb] w w'
def EoR (n0 : Nat) (S0 : List UInt8 → Prop) (d : Nat) : Prop := ∀ (w : World) (mb tb : Nat) (v : Value) (es : List Ex) (K : List (List UInt8)), Rows w (fun g => g ≠ mb) 6 (HEx w (fun g => g ≠ mb) d) v es → EvR n0 S0 w mb tb K → K.length + (es.flatMap (varL d)).length ≤ 2097152 →
    Calls Tryz.prog 100 #[v, FV tb] w fun e w' => e = .returned (.tuple #[]) ∧ EvR n0 S0 w' mb tb (K ++ es.flatMap (varL d)) ∧ Off [mb] w w'

set_option maxHeartbeats 8000000 in
theorem eachOfR_of {d : Nat} (hE : EeR n0 S0 d) : EoR n0 S0 d := by
  intro w mb tb v es K hr hv hK
  obtain ⟨p, cap, rfl, hcl, hcm, hx⟩ := hr
  have hnb : es.length ≤ 9223372036854775807 := by unfold maxLen at hcm; omega
  have HX : Hid (es ≠ [] → ∃ g off, p = some ⟨g, off, none⟩ ∧ g ≠ mb ∧ g < w.heap.size ∧ ∀ i x, es[i]? = some x → ∃ cs, cs.length = 6 ∧ (∀ j, j < 6 → w.cell? ⟨g, off + i * 6 + j, none⟩ = cs[j]?) ∧ HEx w (fun g => g ≠ mb) d cs x) := hx
  have HV : Hid (EvR n0 S0 w mb tb K) := hv
  have HK : Hid (K.length + (es.flatMap (varL d)).length ≤ 2097152) := hK
  generalize hn : es.length = n at *
  have HN : Hid (es.length = n) := hn
  clear hx hv hK hn
  go_enter Tryz.func100, Tryz.ntmps100
  go_wp2_with fail
  go_loopw [8] (fun iv wr => ∃ k : Nat, k ≤ n ∧ iv = .int .i64 k ∧ Hid (EvR n0 S0 wr mb tb (K ++ (es.take k).flatMap (varL d))) ∧ Hid (Off [mb] w wr)) (fun iv _ => n - (intOf iv).toNat)
  case atStart => exact ⟨0, Nat.zero_le _, rfl, by show EvR n0 S0 _ _ _ _; simpa using HV.out, Off.refl _ _⟩
  case round =>
    obtain ⟨k, hk, rfl, HVk, HOk⟩ := hrel
    by_cases hlt : k < n
    · obtain ⟨x, hxk⟩ : ∃ x, es[k]? = some x := ⟨es[k]'(by rw [HN.out]; exact hlt), List.getElem?_eq_getElem _⟩
      obtain ⟨g, off, rfl, hgm, hgl, hat⟩ := HX.out (by intro h; rw [h] at hxk; simp at hxk)
      obtain ⟨cs, hcsl, hcs, r1⟩ := hat k x hxk
      have E1 : Hid (HEx wr (fun g => g ≠ mb) d cs x) := r1.offN HOk.out
      obtain ⟨c0, c1, c2, c3, c4, c5, rfl⟩ := len6 hcsl
      have hge : wr.heap[g]? = w.heap[g]? := HOk.out.block g hgl (by simpa using hgm)
      have a0 := (World.cell?_of_block (a := ⟨g, off + k * 6 + 0, none⟩) hge).trans (hcs 0 (by omega))
      have a1 := (World.cell?_of_block (a := ⟨g, off + k * 6 + 1, none⟩) hge).trans (hcs 1 (by omega))
      have a2 := (World.cell?_of_block (a := ⟨g, off + k * 6 + 2, none⟩) hge).trans (hcs 2 (by omega))
      have a3 := (World.cell?_of_block (a := ⟨g, off + k * 6 + 3, none⟩) hge).trans (hcs 3 (by omega))
      have a4 := (World.cell?_of_block (a := ⟨g, off + k * 6 + 4, none⟩) hge).trans (hcs 4 (by omega))
      have a5 := (World.cell?_of_block (a := ⟨g, off + k * 6 + 5, none⟩) hge).trans (hcs 5 (by omega))
      simp at a0 a1 a2 a3 a4 a5
      have HJ : Hid (K ++ (es.take (k + 1)).flatMap (varL d) = K ++ (es.take k).flatMap (varL d) ++ varL d x) := by
        show _ = _
        rw [List.take_add_one, hxk]; simp
      have HKk : Hid ((K ++ (es.take k).flatMap (varL d)).length + (varL d x).length ≤ 2097152) := by
        have h1 := HK.out
        have h2 : (es.flatMap (varL d)) = (es.take k).flatMap (varL d) ++ (varL d x ++ (es.drop (k + 1)).flatMap (varL d)) := by
          have h3 : es = es.take k ++ x :: es.drop (k + 1) := by
            have h4 := List.take_append_drop k es
            rw [List.drop_eq_getElem_cons (by rw [HN.out]; exact hlt)] at h4
            have h5 : es[k]'(by rw [HN.out]; exact hlt) = x := (List.getElem?_eq_some_iff.1 hxk).2
            rw [h5] at h4
            exact h4.symm
          conv => lhs; rw [h3]
          simp
        rw [h2] at h1
        show _ ≤ _
        simp only [List.length_append] at h1 ⊢
        omega
      generalize K ++ (es.take k).flatMap (varL d) = Kk at *
      have hki : (k : Int) < (n : Int) := by omega
      have hk0 : (0 : Int) ≤ (k : Int) := by omega
      clear hat hcs hcsl r1 hge
      obtain ⟨sk, sn, st, se, p1, n1, q1, p2, n2, q2, hsh⟩ := HEx.shapeN E1.out
      simp only [List.cons.injEq, and_true] at hsh
      obtain ⟨rfl, rfl, rfl, rfl, rfl, rfl⟩ := hsh
      have HBA : Hid (Below wr.heap.size wr (wr.alloc (.cells #[.int .i64 sk, .int .i64 sn, .string st, .string se, .slice p1 n1 q1, .slice p2 n2 q2] 73))) := (Below.refl _ _).alloc (Nat.le_refl _) _
      go_wp2_with fail
      refine (hE _ mb tb _ x Kk (E1.out.offN (Off.of_below HBA.out)) (HVk.out.next HBA.out) HKk.out).mono ?_
      rintro e w1 ⟨rfl, hv1, ho1⟩
      go_wp2_with fail
      exact ⟨⟨k + 1, by omega, by go_num, by show EvR n0 S0 _ _ _ _; rw [HJ.out]; exact hv1, (HOk.out.trans (Off.of_below HBA.out)).trans ho1⟩, by simp [intOf]; omega⟩
    · have HS : Hid (EvR n0 S0 wr mb tb (K ++ es.flatMap (varL d))) := by
        have := HVk.out
        rwa [List.take_of_length_le (by rw [HN.out]; omega)] at this
      go_wp2_with fail
      go_end0
      exact ⟨rfl, HS.out, HOk.out⟩

set_option maxHeartbeats 8000000 in
theorem eachExpR_of {d : Nat} (hO : EoR n0 S0 d) : EeR n0 S0 (d + 1) := by
  intro w mb tb cs x K h hv hK
  have HEX : Hid (HEx w (fun g => g ≠ mb) (d + 1) cs x) := h
  obtain ⟨kv, cv, rfl, -, -, hts, -, f0, f1⟩ := h
  obtain ⟨kx, nx, tx, mx, ks, cl⟩ := x
  simp only [Ex.kind, Ex.n, Ex.text, Ex.mod, Ex.kids, Ex.clauses] at *
  have hvl : varL (d + 1) (.mk kx nx tx mx ks cl) = (if kx = 2 then [keyS tx] else []) ++ (ks.flatMap (varL d) ++ cl.flatMap fun c => c.1.flatMap (varL d) ++ c.2.flatMap (varL d)) := rfl
  rw [hvl] at hK ⊢
  generalize hA : (if kx = 2 then [keyS tx] else ([] : List (List UInt8))) = A at hK ⊢
  have HA : Hid ((if kx = 2 then [keyS tx] else ([] : List (List UInt8))) = A) := hA
  simp only [List.length_append] at hK
  have F0 : Hid (Rows w (fun g => g ≠ mb) 6 (HEx w (fun g => g ≠ mb) d) kv ks) := f0
  obtain ⟨p, cap, rfl, -⟩ := id f0
  obtain ⟨pc, capc, rfl, hcl', hcm', hxc⟩ := f1
  have hnc : cl.length ≤ 9223372036854775807 := by unfold maxLen at hcm'; omega
  have HXC : Hid (cl ≠ [] → ∃ g off, pc = some ⟨g, off, none⟩ ∧ g ≠ mb ∧ g < w.heap.size ∧ ∀ i x, cl[i]? = some x → ∃ cs, cs.length = 2 ∧ (∀ j, j < 2 → w.cell? ⟨g, off + i * 2 + j, none⟩ = cs[j]?) ∧ HCl w (fun g => g ≠ mb) (HEx w (fun g => g ≠ mb) d) cs x) := hxc
  have HKK : Hid (K.length + (A.length + ((ks.flatMap (varL d)).length + (cl.flatMap fun c => c.1.flatMap (varL d) ++ c.2.flatMap (varL d)).length)) ≤ 2097152) := hK
  generalize hm : cl.length = nc at *
  have HNC : Hid (cl.length = nc) := hm
  have HBA : Hid (Below w.heap.size w (w.alloc (.cells #[.int .i64 kx, .int .i64 nx, .string tx, .string mx, .slice p ks.length cap, .slice pc nc capc] 73))) := (Below.refl _ _).alloc (Nat.le_refl _) _
  have HV : Hid (EvR n0 S0 (w.alloc (.cells #[.int .i64 kx, .int .i64 nx, .string tx, .string mx, .slice p ks.length cap, .slice pc nc capc] 73)) mb tb K) := hv.next HBA.out
  have bA : Hid (Blk (w.alloc (.cells #[.int .i64 kx, .int .i64 nx, .string tx, .string mx, .slice p ks.length cap, .slice pc nc capc] 73)) w.heap.size #[.int .i64 kx, .int .i64 nx, .string tx, .string mx, .slice p ks.length cap, .slice pc nc capc] 73) := Blk.new
  have hmb : mb ≠ w.heap.size := by have := hv.m.lt; omega
  clear f0 hxc hA hm hvl hv hK
  go_enter Tryz.func81, Tryz.ntmps81
  go_wp2_with fail
  refine (cbkR_any _ mb tb d _ _ K (HEX.out.offN (Off.of_below HBA.out)) HV.out (by have := HKK.out; omega) A HA.out).mono ?_
  rintro e w1 ⟨rfl, hv1, ho1⟩
  have HV1 : Hid (EvR n0 S0 w1 mb tb (K ++ A)) := hv1
  have HO1 : Hid (Off [mb] w w1) := (Off.of_below HBA.out).trans ho1
  have b1 : Hid (Blk w1 w.heap.size #[.int .i64 kx, .int .i64 nx, .string tx, .string mx, .slice p ks.length cap, .slice pc nc capc] 73) := (ho1.block w.heap.size bA.out.lt (by simpa using fun e => hmb e.symm)).trans bA.out
  have x4 := b1.out.cell 4 _ rfl
  clear hv1 ho1 HV bA
  go_wp2_with fail
  refine (hO _ mb tb _ ks (K ++ A) (Rows.mono F0.out ⟨HO1.out.size, fun g hg hl => HO1.out.block g hl (by simpa using hg)⟩ (fun _ h => h) (fun _ _ _ h => HEx.offN h HO1.out)) HV1.out (by have := HKK.out; simp only [List.length_append]; omega)).mono ?_
  rintro e w2 ⟨rfl, hv2, ho2⟩
  have HV2 : Hid (EvR n0 S0 w2 mb tb (K ++ A ++ ks.flatMap (varL d))) := hv2
  have HO2 : Hid (Off [mb] w w2) := HO1.out.trans ho2
  have b2 : Hid (Blk w2 w.heap.size #[.int .i64 kx, .int .i64 nx, .string tx, .string mx, .slice p ks.length cap, .slice pc nc capc] 73) := (ho2.block w.heap.size b1.out.lt (by simpa using fun e => hmb e.symm)).trans b1.out
  have x5 := b2.out.cell 5 _ rfl
  clear hv2 ho2 x4 b1 HV1 HO1
  go_wp2_with fail
  go_loopw [16] (fun iv wr => ∃ k : Nat, k ≤ nc ∧ iv = .int .i64 k ∧ Hid (EvR n0 S0 wr mb tb (K ++ A ++ ks.flatMap (varL d) ++ (cl.take k).flatMap fun c => c.1.flatMap (varL d) ++ c.2.flatMap (varL d))) ∧ Hid (Off [mb] w wr)) (fun iv _ => nc - (intOf iv).toNat)
  case atStart => exact ⟨0, Nat.zero_le _, rfl, by show EvR n0 S0 _ _ _ _; simpa using HV2.out, HO2.out⟩
  case round =>
    obtain ⟨k, hk, rfl, HVk, HOk⟩ := hrel
    clear x5 HV2 HO2 b2
    by_cases hlt : k < nc
    · obtain ⟨c, hck⟩ : ∃ c, cl[k]? = some c := ⟨cl[k]'(by rw [HNC.out]; exact hlt), List.getElem?_eq_getElem _⟩
      obtain ⟨g, off, rfl, hgm, hgl, hat⟩ := HXC.out (by intro h; rw [h] at hck; simp at hck)
      obtain ⟨cs, hcsl, hcs, pv, bv, rfl, rp, rb⟩ := hat k c hck
      have SK : Hid (SameOn (fun g => g ≠ mb) w wr) := ⟨HOk.out.size, fun g hg hl => HOk.out.block g hl (by simpa using hg)⟩
      have RP : Hid (Rows wr (fun g => g ≠ mb) 6 (HEx wr (fun g => g ≠ mb) d) pv c.1) := Rows.mono rp SK.out (fun _ h => h) (fun _ _ _ h => HEx.offN h HOk.out)
      have RB : Hid (Rows wr (fun g => g ≠ mb) 6 (HEx wr (fun g => g ≠ mb) d) bv c.2) := Rows.mono rb SK.out (fun _ h => h) (fun _ _ _ h => HEx.offN h HOk.out)
      obtain ⟨pp, capp, rfl, -⟩ := rp
      obtain ⟨pb, capb, rfl, -⟩ := rb
      have hge : wr.heap[g]? = w.heap[g]? := HOk.out.block g hgl (by simpa using hgm)
      have a0 := (World.cell?_of_block (a := ⟨g, off + k * 2 + 0, none⟩) hge).trans (hcs 0 (by omega))
      have a1 := (World.cell?_of_block (a := ⟨g, off + k * 2 + 1, none⟩) hge).trans (hcs 1 (by omega))
      simp at a0 a1
      have HJ : Hid ((K ++ A ++ ks.flatMap (varL d) ++ (cl.take (k + 1)).flatMap fun c => c.1.flatMap (varL d) ++ c.2.flatMap (varL d)) = (K ++ A ++ ks.flatMap (varL d) ++ (cl.take k).flatMap fun c => c.1.flatMap (varL d) ++ c.2.flatMap (varL d)) ++ c.1.flatMap (varL d) ++ c.2.flatMap (varL d)) := by
        show _ = _
        rw [List.take_add_one, hck]; simp
      have HKk : Hid ((K ++ A ++ ks.flatMap (varL d) ++ (cl.take k).flatMap fun c => c.1.flatMap (varL d) ++ c.2.flatMap (varL d)).length + (c.1.flatMap (varL d)).length + (c.2.flatMap (varL d)).length ≤ 2097152) := by
        have h1 := HKK.out
        have h2 : (cl.flatMap fun c => c.1.flatMap (varL d) ++ c.2.flatMap (varL d)) = ((cl.take k).flatMap fun c => c.1.flatMap (varL d) ++ c.2.flatMap (varL d)) ++ ((c.1.flatMap (varL d) ++ c.2.flatMap (varL d)) ++ (cl.drop (k + 1)).flatMap fun c => c.1.flatMap (varL d) ++ c.2.flatMap (varL d)) := by
          have h3 : cl = cl.take k ++ c :: cl.drop (k + 1) := by
            have h4 := List.take_append_drop k cl
            rw [List.drop_eq_getElem_cons (by rw [HNC.out]; exact hlt)] at h4
            have h5 : cl[k]'(by rw [HNC.out]; exact hlt) = c := (List.getElem?_eq_some_iff.1 hck).2
            rw [h5] at h4
            exact h4.symm
          conv => lhs; rw [h3]
          simp
        rw [h2] at h1
        show _ ≤ _
        simp only [List.length_append] at h1 ⊢
        omega
      generalize (K ++ A ++ ks.flatMap (varL d) ++ (cl.take k).flatMap fun c => c.1.flatMap (varL d) ++ c.2.flatMap (varL d)) = Kk at *
      have hki : (k : Int) < (nc : Int) := by omega
      have hk0 : (0 : Int) ≤ (k : Int) := by omega
      have hmw : mb ≠ wr.heap.size := by have := HVk.out.m.lt; omega
      have HBC : Hid (Below wr.heap.size wr (wr.alloc (.cells #[.slice pp c.1.length capp, .slice pb c.2.length capb] 48))) := (Below.refl _ _).alloc (Nat.le_refl _) _
      have bC : Hid (Blk (wr.alloc (.cells #[.slice pp c.1.length capp, .slice pb c.2.length capb] 48)) wr.heap.size #[.slice pp c.1.length capp, .slice pb c.2.length capb] 48) := Blk.new
      clear hat hcs hcsl hge
      go_wp2_with fail
      refine (hO _ mb tb _ c.1 Kk (Rows.mono RP.out ⟨HBC.out.size, fun g _ hl => HBC.out.block g hl⟩ (fun _ h => h) (fun _ _ _ h => HEx.offN h (Off.of_below HBC.out))) (HVk.out.next HBC.out) (by have := HKk.out; omega)).mono ?_
      rintro e w3 ⟨rfl, hv3, ho3⟩
      have HV3 : Hid (EvR n0 S0 w3 mb tb (Kk ++ c.1.flatMap (varL d))) := hv3
      have HO3 : Hid (Off [mb] wr w3) := (Off.of_below HBC.out).trans ho3
      have b3 : Blk w3 wr.heap.size #[.slice pp c.1.length capp, .slice pb c.2.length capb] 48 := (ho3.block wr.heap.size bC.out.lt (by simpa using fun e => hmw e.symm)).trans bC.out
      have y1 := b3.cell 1 _ rfl
      clear hv3 ho3 bC b3 a0 a1
      go_wp2_with fail
      refine (hO _ mb tb _ c.2 (Kk ++ c.1.flatMap (varL d)) (Rows.mono RB.out ⟨HO3.out.size, fun g hg hl => HO3.out.block g hl (by simpa using hg)⟩ (fun _ h => h) (fun _ _ _ h => HEx.offN h HO3.out)) HV3.out (by have := HKk.out; simp only [List.length_append]; omega)).mono ?_
      rintro e w4 ⟨rfl, hv4, ho4⟩
      go_wp2_with fail
      exact ⟨⟨k + 1, by omega, by go_num, by show EvR n0 S0 _ _ _ _; rw [HJ.out]; exact hv4, (HOk.out.trans HO3.out).trans ho4⟩, by simp [intOf]; omega⟩
    · have HS : Hid (EvR n0 S0 wr mb tb (K ++ (A ++ (ks.flatMap (varL d) ++ cl.flatMap fun c => c.1.flatMap (varL d) ++ c.2.flatMap (varL d))))) := by
        have := HVk.out
        rw [List.take_of_length_le (by rw [HNC.out]; omega)] at this
        show EvR n0 S0 _ _ _ _
        simpa only [List.append_assoc] using this
      go_wp2_with fail
      go_end0
      exact ⟨rfl, HS.out, HOk.out⟩

theorem eachExpR_all : ∀ d, EeR n0 S0 d
  | 0 => fun w mb tb cs x K h _ _ => h.elim
  | d + 1 => eachExpR_of (eachOfR_of (eachExpR_all d))

/-- eachVar with the method that puts a name into a map. -/
theorem eachVarR_any (w : World) (mb d : Nat) (cs : List Value) (x : Ex) (K : List (List UInt8)) (h : HEx w (fun g => g ≠ mb) d cs x) (hm : RemAt n0 S0 w mb K) (hK : K.length + (varL d x).length ≤ 2097152) :
    Calls Tryz.prog 65 #[.agg cs.toArray, .func (.func 66) #[.map (some mb)] #[]] w fun e w' => e = .returned (.tuple #[]) ∧ RemAt n0 S0 w' mb (K ++ varL d x) ∧ Off [mb] w w' := by
  obtain ⟨sk, sn, st, se, p1, n1, q1, p2, n2, q2, rfl⟩ := HEx.shapeN h
  have HH : Hid (HEx w (fun g => g ≠ mb) d [.int .i64 sk, .int .i64 sn, .string st, .string se, .slice p1 n1 q1, .slice p2 n2 q2] x) := h
  have HM : Hid (RemAt n0 S0 w mb K) := hm
  have hlt := hm.lt
  clear h hm
  go_enter Tryz.func65, Tryz.ntmps65
  go_wp2_with fail
  have hB : Below w.heap.size w ((w.alloc (.cells #[.int .i64 sk, .int .i64 sn, .string st, .string se, .slice p1 n1 q1, .slice p2 n2 q2] 73)).alloc (.cells #[.func (.func 66) #[.map (some mb)] #[]] 99)) := ((Below.refl _ _).alloc (Nat.le_refl _) _).alloc (by simp) _
  have hE : EvR n0 S0 ((w.alloc (.cells #[.int .i64 sk, .int .i64 sn, .string st, .string se, .slice p1 n1 q1, .slice p2 n2 q2] 73)).alloc (.cells #[.func (.func 66) #[.map (some mb)] #[]] 99)) mb (w.heap.size + 1) K := ⟨HM.out.keep (hB.block mb hlt), by
    have := Blk.new (w := w.alloc (.cells #[.int .i64 sk, .int .i64 sn, .string st, .string se, .slice p1 n1 q1, .slice p2 n2 q2] 73)) (cs := #[.func (.func 66) #[.map (some mb)] #[]]) (t := 99)
    rwa [alloc_hs] at this, by omega⟩
  refine (eachExpR_all d _ mb (w.heap.size + 1) _ x K (HH.out.offN (Off.of_below hB)) hE hK).mono ?_
  rintro e w1 ⟨rfl, hv1, ho1⟩
  go_wp2_with fail
  go_end0
  exact ⟨rfl, hv1.m, (Off.of_below hB).trans ho1⟩
end Go.Proofs.YtpkhblhcdnohmaaGreatDoor
/-
  maps.Copy of one set of names into another, by contract.
-/
namespace Go.Proofs.YtpkhblhcdnohmaaGreatDoor
open Go.ChangeShapes Go.WideShapes Go.ChangeAt Go.RowKit Go.Maps Go.WideMaps
set_option linter.unusedVariables false
set_option maxRecDepth 100000

set_option maxHeartbeats 4000000 in
theorem copyD_any (bd bs nd ns : Nat) (Dd Ds : DataW Unit) (w : World) (hd : w.ownsMap Tryz.prog 9 unitElem bd nd Dd) (hs : w.ownsMap Tryz.prog 9 unitElem bs ns Ds) (hne : bd ≠ bs) (hroom : nd + Maps.size Ds ≤ maxLen) :
    Calls Tryz.prog 107 #[.map (some bd), .map (some bs)] w fun e w' => e = .returned (.tuple #[]) ∧ w'.ownsMap Tryz.prog 9 unitElem bd (nd + Maps.size Ds) (Lib.mergeD Dd Ds) ∧ w.grownBy w' (some bd) := by
  have hbd := hd.lt
  have hbs := hs.lt
  go_enter Tryz.func107, Tryz.ntmps107
  go_wp2_with (at_range; refine wpList_range_own _ rfl _ 82 rfl 9 _ lawN Tryz.underlying82 unitElem bs ns _ rfl hs ?_; intro w0 hrg0 hg0 hs0)
  go_frame
  go_loopw [8] (fun _ wr => ∃ (left : Lit → Bool) (cnt : Nat) (Dout : DataW Unit), wr.ranges Tryz.prog 9 unitElem bs w.heap.size ns Ds left cnt ∧ cnt ≤ Maps.size Ds ∧ wr.ownsMap Tryz.prog 9 unitElem bd (nd + (Maps.size Ds - cnt)) Dout ∧ Merged Dout Dd Ds left ∧ w.grownBy wr (some bd)) (fun _ wr => wr.rangeLeft bs w.heap.size)
  case atStart => exact ⟨_, _, Dd, hrg0, Nat.le_refl _, (hd.kept hg0 (by simp)).mono (by omega), merged_start Dd Ds, hg0.but _⟩
  case round =>
    obtain ⟨left, cnt, Dout, hrg, hcs, hout, hM, hgw⟩ := hrel
    go_wp2_with (at_next; refine wpList_next_ranges _ rfl _ rfl 9 lawN unitElem id id (fun key _ _ => ⟨key, rfl⟩) (fun v _ _ => ⟨v, rfl⟩) bs w.heap.size ns _ _ _ rfl hrg ?_ ?_)
    · intro hc0 hl0
      go_wp2_with fail
      go_end0
      subst hc0
      have e := merged_eq lawN.one hM hl0 (hout.canon lawN) (hd.canonK lawN) (hs.canonK lawN)
      subst e
      exact ⟨rfl, by simpa using hout, hgw⟩
    · intro x c kl yd yp w1 cnt1 hkey hlx hv hat hrg1 hlt hg1 hs1 hen
      obtain ⟨rfl, hyd⟩ := unitElem_inv hv
      have hout1 := hout.kept hg1 (fun e => by have := Option.some.inj e; omega)
      have ga : w1.grownBy (w1.alloc (.cells #[] 136)) none := World.grownBy_alloc _ _ _
      have hout3 := hout1.kept ga (by simp)
      have hrg3 := hrg1.kept ga (by simp) (by simp)
      go_wp2_with (at_mapUpdate; refine wpList_mapUpdate_own _ rfl _ _ _ 82 rfl 9 _ lawN Tryz.underlying82 unitElem bd _ _ rfl hout3 (by omega) _ _ _ rfl rfl hkey yd yp hv ?_; intro w2 hout2 hg2; go_frame)
      have hrg2 := hrg3.kept hg2 (fun e => hne (Option.some.inj e).symm) (fun e => by have := Option.some.inj e; omega)
      go_roundw
      case rel => exact ⟨_, cnt1, _, hrg2, by omega, hout2.mono (by omega), merged_step hM hout.isMap (lawN.key hkey) hat, ((hgw.andThen hg1 (fun j hj => .inl (by cases hj; exact Nat.le_refl _))).andThen ga (fun j hj => by cases hj)).andThen hg2 (fun j hj => .inr hj)⟩
      case measure => rw [hrg2.left_eq, hrg.left_eq]; exact hlt
/-- The one set then holds the other's names too. -/
theorem has_merge {D : DataW Unit} (hD : SetOkN D) : ∀ (es : List (Lit × DataW Unit)), (∀ p ∈ es, (∃ x, p.1 = .string x) ∧ p.2 = .agg []) → SetOkN (es.foldl (fun D p => D.put p.1 p.2) D) ∧ ∀ z, has (es.foldl (fun D p => D.put p.1 p.2) D) (.string z) = true ↔ has D (.string z) = true ∨ ∃ p ∈ es, p.1 = .string z
  | [], _ => ⟨hD, fun z => by simp⟩
  | q :: qs, h => by
    obtain ⟨⟨x, hx⟩, hq⟩ := h q (by simp)
    have hD' : SetOkN (D.put q.1 q.2) := by rw [hx, hq]; exact hD.put x
    obtain ⟨h1, h2⟩ := has_merge hD' qs (fun p hp => h p (by simp [hp]))
    refine ⟨h1, fun z => ?_⟩
    rw [List.foldl_cons, h2 z]
    have hM : IsMap D := by obtain ⟨es, rfl, _⟩ := hD.tidy; exact ⟨es, rfl⟩
    by_cases hz : z = x
    · subst hz
      rw [hx]
      simp [has_put_same hM (k := Lit.string z) trivial, hx]
    · rw [hx, has_put_other (by intro e; cases e; exact hz rfl)]
      have : ¬ Lit.string x = Lit.string z := by intro e; cases e; exact hz rfl
      simp [hx, this]
theorem SetAt.size {w : World} {mb n : Nat} {D : DataW Unit} (hm : w.ownsMap Tryz.prog 9 unitElem mb n D) : Maps.size D ≤ n := by
  obtain ⟨es, clock, -, -, h1, rfl⟩ := hm
  have h2 : ∀ (q : List (Lit × DataW Unit)), (q.foldr DataW.insert []).length = q.length := fun q => by
    induction q with
    | nil => rfl
    | cons x xs ih => rw [List.foldr_cons, DataW.length_insert, ih]; rfl
  show (List.foldr DataW.insert [] _).length ≤ _
  rw [h2, List.length_map, Array.length_toList]
  exact h1
theorem copyN_any (w : World) (bd bs nd ns : Nat) (S T : List UInt8 → Prop) (hd : SetAt w bd nd S) (hs : SetAt w bs ns T) (hne : bd ≠ bs) (hroom : nd + ns ≤ maxLen) :
    Calls Tryz.prog 107 #[.map (some bd), .map (some bs)] w fun e w' => e = .returned (.tuple #[]) ∧ SetAt w' bd (nd + ns) (fun z => S z ∨ T z) ∧ Off [bd] w w' := by
  obtain ⟨Dd, hmd, hDd, hhd⟩ := hd
  obtain ⟨Ds, hms, hDs, hhs⟩ := hs
  have hsz := SetAt.size hms
  refine (copyD_any bd bs nd ns Dd Ds w hmd hms hne (by omega)).mono ?_
  rintro e w' ⟨rfl, ho, hg⟩
  obtain ⟨es, rfl, hp⟩ := hDs.tidy
  obtain ⟨h1, h2⟩ := has_merge hDd es (hDs.keys es rfl)
  refine ⟨rfl, ⟨_, ho.mono (by omega), h1, fun z => (h2 z).trans ?_⟩, Off.of_grown hg (by simp)⟩
  show _ ↔ S z ∨ T z
  rw [hhd z, ← hhs z, has_eq, List.any_eq_true]
  constructor
  · rintro (h | ⟨p, hp', e⟩)
    · exact .inl h
    · exact .inr ⟨p, hp', by rw [e]; exact WideAt.sameKey_self trivial⟩
  · rintro (h | ⟨p, hp', e⟩)
    · exact .inl h
    · exact .inr ⟨p, hp', WideAt.sameKey_eq e⟩
end Go.Proofs.YtpkhblhcdnohmaaGreatDoor
/-
  What is held lies in the heap.
-/
namespace Go.Proofs.YtpkhblhcdnohmaaGreatDoor
open Go.ChangeShapes Go.WideShapes Go.ChangeAt Go.RowKit
set_option linter.unusedVariables false

/-- What is held lies in the heap. -/
theorem Rows.tight {α : Type} {w : World} {S : Nat → Prop} {c : Nat} {R R' : List Value → α → Prop} {v : Value} {xs : List α} (h : Rows w S c R v xs) (hR : ∀ cs x, R cs x → R' cs x) : Rows w (fun g => g < w.heap.size) c R' v xs := by
  obtain ⟨p, cap, hv, h1, h2, h3⟩ := h
  refine ⟨p, cap, hv, h1, h2, fun hne => ?_⟩
  obtain ⟨g, off, hp, hg, hlt, hx⟩ := h3 hne
  refine ⟨g, off, hp, hlt, hlt, fun i x hi => ?_⟩
  obtain ⟨cs, hl, hc, hr⟩ := hx i x hi
  exact ⟨cs, hl, hc, hR cs x hr⟩
theorem HEx.tight {w : World} {S : Nat → Prop} : ∀ {d : Nat} {cs : List Value} {x : Ex}, HEx w S d cs x → HEx w (fun g => g < w.heap.size) d cs x
  | 0, _, _, h => h.elim
  | d + 1, cs, x, h => by
    obtain ⟨kv, cv, rfl, h1, h2, h3, h4, hk, hc⟩ := h
    refine ⟨kv, cv, rfl, h1, h2, h3, h4, hk.tight (fun _ _ h => h.tight), hc.tight (fun _ _ h => ?_)⟩
    obtain ⟨p, b, rfl, g1, g2⟩ := h
    exact ⟨p, b, rfl, g1.tight (fun _ _ h => h.tight), g2.tight (fun _ _ h => h.tight)⟩
end Go.Proofs.YtpkhblhcdnohmaaGreatDoor
/-
  The program's names.stepAheadOfAll, by contract: a list of right expressions from its end.
-/
namespace Go.Proofs.YtpkhblhcdnohmaaGreatDoor
open Go.ChangeShapes Go.WideShapes Go.ChangeAt Go.RowKit Go.Maps Go.WideMaps Go.Shelf
set_option linter.unusedVariables false
set_option maxRecDepth 100000
attribute [local go_sem] Oper.semAt_some

def StA (d : Nat) : Prop := ∀ (w : World) (mb n : Nat) (S : List UInt8 → Prop) (cs : List Value) (x : Ex) (pat : Bool) (deep : Int), HEx w (fun g => g ≠ mb) d cs x → exOk d x pat deep = true → SetAt w mb n S → n + (varL d x).length ≤ 2097152 →
    Calls Tryz.prog 80 #[.map (some mb), .agg cs.toArray] w fun e w' => e = .returned (.tuple #[]) ∧ SetAt w' mb (n + (varL d x).length) (stepS d x S) ∧ Off [mb] w w'
def StO (d : Nat) : Prop := ∀ (w : World) (mb n : Nat) (S : List UInt8 → Prop) (v : Value) (es : List Ex), Rows w (fun g => g ≠ mb) 6 (HEx w (fun g => g ≠ mb) d) v es → (∀ y ∈ es, ∃ p deep, exOk d y p deep = true) → SetAt w mb n S → n + (es.flatMap (varL d)).length ≤ 2097152 →
    Calls Tryz.prog 64 #[.map (some mb), v] w fun e w' => e = .returned (.tuple #[]) ∧ SetAt w' mb (n + (es.flatMap (varL d)).length) (es.foldr (stepS d) S) ∧ Off [mb] w w'

theorem Off.under {fp : List Nat} {w A B : World} {N : Nat} (h : Off fp w A) (hN : w.heap.size ≤ N) (hb : Below N A B) : Off fp w B :=
  ⟨hb.os.trans h.os, hb.tape.trans h.tape, hb.output.trans h.output, Nat.le_trans h.size hb.size, fun g hg hf => (hb.block g (by omega)).trans (h.block g hg hf)⟩
/-- A row's elements, each with its cells. -/
theorem rows_list {w : World} {S : Nat → Prop} {R : List Value → Ex → Prop} {p : Option Addr} {n cap : Nat} {es : List Ex} (h : Rows w S 6 R (.slice p n cap) es) :
    ∃ L : List (List Value), L.length = es.length ∧ ∀ i cs, L[i]? = some cs → cs.length = 6 ∧ (∃ g off, p = some ⟨g, off, none⟩ ∧ S g ∧ g < w.heap.size ∧ ∀ j, j < 6 → w.cell? ⟨g, off + i * 6 + j, none⟩ = cs[j]?) ∧ ∀ x, es[i]? = some x → R cs x := by
  obtain ⟨p', cap', hv, -, -, hx⟩ := h
  simp only [Value.slice.injEq] at hv
  obtain ⟨rfl, -, rfl⟩ := hv
  by_cases hne : es = []
  · subst hne; exact ⟨[], rfl, fun i cs h => by simp at h⟩
  obtain ⟨g, off, rfl, hS, hg, hat⟩ := hx hne
  have : ∀ i ∈ List.range es.length, ∃ cs : List Value, cs.length = 6 ∧ (∀ j, j < 6 → w.cell? ⟨g, off + i * 6 + j, none⟩ = cs[j]?) ∧ ∀ x, es[i]? = some x → R cs x := fun i hi => by
    have hi' : i < es.length := by simpa using hi
    obtain ⟨cs, h1, h2, h3⟩ := hat i _ (List.getElem?_eq_getElem hi')
    exact ⟨cs, h1, h2, fun x hx => by rw [List.getElem?_eq_getElem hi'] at hx; cases hx; exact h3⟩
  obtain ⟨L, hL, hat'⟩ := pick this
  refine ⟨L, by simpa using hL, fun i cs hi => ?_⟩
  obtain ⟨i', hi', h1, h2, h3⟩ := hat' i cs hi
  have hlt : i < es.length := by have := (List.getElem?_eq_some_iff.1 hi).1; rw [hL] at this; simpa using this
  obtain rfl : i' = i := by
    rw [List.getElem?_range hlt] at hi'; exact (Option.some.inj hi').symm
  exact ⟨h1, ⟨g, off, rfl, hS, hg, h2⟩, h3⟩
theorem drop_back {α : Type} (es : List α) (n k : Nat) (x : α) (hn : es.length = n) (hk : k < n) (hx : es[n - 1 - k]? = some x) : es.drop (n - (k + 1)) = x :: es.drop (n - k) := by
  have h1 : n - (k + 1) = n - 1 - k := by omega
  have h2 : n - k = n - 1 - k + 1 := by omega
  obtain ⟨h3, h4⟩ := List.getElem?_eq_some_iff.1 hx
  rw [h1, h2, List.drop_eq_getElem_cons h3, h4]

theorem flat_drop {α β : Type} (f : α → List β) (es : List α) (i : Nat) : ((es.drop i).flatMap f).length ≤ (es.flatMap f).length := by
  conv => rhs; rw [← List.take_append_drop i es]
  rw [List.flatMap_append, List.length_append]
  omega
structure StI (w : World) (mb n d : Nat) (S : List UInt8 → Prop) (es : List Ex) (W : World) : Prop where
  set : SetAt W mb (n + (es.flatMap (varL d)).length) (es.foldr (stepS d) S)
  off : Off [mb] w W
  box : Blk W w.heap.size #[.map (some mb)] 82
set_option maxHeartbeats 8000000 in
theorem ofAll_of {d : Nat} (hA : StA d) : StO d := by
  intro w mb n S v es h hok hset hcnt
  obtain ⟨p, cap, rfl, hcl, hcm, -⟩ := id h
  obtain ⟨L, hLl, hLat⟩ := rows_list h
  have hnb : es.length ≤ 9223372036854775807 := by unfold maxLen at hcm; omega
  have hmb := hset.lt
  have HSET : Hid (SetAt w mb n S) := hset
  have HCNT : Hid (n + (es.flatMap (varL d)).length ≤ 2097152) := hcnt
  have HOK : Hid (∀ y ∈ es, ∃ p deep, exOk d y p deep = true) := hok
  have HLT : Hid (∀ i cs, L[i]? = some cs → cs.length = 6 ∧ (∃ g off, p = some ⟨g, off, none⟩ ∧ g ≠ mb ∧ g < w.heap.size ∧ ∀ j, j < 6 → w.cell? ⟨g, off + i * 6 + j, none⟩ = cs[j]?) ∧ ∀ x, es[i]? = some x → HEx w (fun g => g ≠ mb) d cs x) := hLat
  have HLL : Hid (L.length = es.length) := hLl
  have HA : Hid (StA d) := hA
  generalize hN : es.length = N at *
  have HN : Hid (es.length = N) := hN
  clear h hok hset hcnt hLat hA hN hLl
  have hfB : Fence.wide.fn 79 := trivial
  refine (callsIn_wide (n := 7)).1 ?_
  refine callsIn_of_wp_marks Tryz.func64 rfl trivial ?_ rfl
  simp only [Tryz.ntmps64, List.size_toArray, List.length_cons, List.length_nil, Nat.reduceAdd, Nat.reduceSub, Array.replicate_succ, Array.replicate_zero, List.push_toArray, List.append_toArray, List.nil_append, List.cons_append]
  gi_wp2_with (gi_at_call 79; refine ((callsIn_wide (n := 6)).2 (back_any _ _ _ _)).mono ?_; rintro e w' ⟨rfl, rfl⟩)
  have BW : Below w.heap.size w ((w.alloc (.cells #[.map (some mb)] 82)).alloc (.cells #[.slice p N cap] 46)) := ((Below.refl _ _).alloc (Nat.le_refl _) _).alloc (by simp) _
  have bM : Blk ((w.alloc (.cells #[.map (some mb)] 82)).alloc (.cells #[.slice p N cap] 46)) w.heap.size #[.map (some mb)] 82 := Blk.new.alloc
  have bS : Blk ((w.alloc (.cells #[.map (some mb)] 82)).alloc (.cells #[.slice p N cap] 46)) (w.heap.size + 1) #[.slice p N cap] 46 := by
    have := Blk.new (w := w.alloc (.cells #[.map (some mb)] 82)) (cs := #[.slice p N cap]) (t := 46)
    rwa [alloc_hs] at this
  have hsz : ((w.alloc (.cells #[.map (some mb)] 82)).alloc (.cells #[.slice p N cap] 46)).heap.size = w.heap.size + 2 := by rw [alloc_hs, alloc_hs]
  generalize hWW : (w.alloc (.cells #[.map (some mb)] 82)).alloc (.cells #[.slice p N cap] 46) = w0 at *
  refine range_idx rfl (by omega) (gf := 94) (lb := #[.pointer (some ⟨w.heap.size + 1, 0, none⟩)]) rfl trivial (enters_of Tryz.func94 (by kernel_rfl) rfl)
    (encs := fun k => #[.int .i64 ((N - 1 - k : Nat) : Nat), .agg (L.getD (N - 1 - k) []).toArray]) (fun _ => rfl) N mb (by omega)
    (fun l J W hW hY h0 => back_idx 5 l (w.heap.size + 1) w0.heap.size mb N cap p L HLL.out hnb (by omega) (by omega) J hY W ((hW.cell (p := ⟨w.heap.size + 1, 0, none⟩) (by show w.heap.size + 1 < _; omega)).trans (bS.cell 0 _ rfl)) (fun i cs hi => ?lat) h0)
    (fun k W => StI w mb n d S (es.drop (N - k)) W)
    (fun k A B h hA hB => ⟨h.set.keep (hB.block mb (by omega)), h.off.under (by omega) hB, h.box.below hB (by omega)⟩)
    (by rw [Nat.sub_zero, List.drop_of_length_le (by rw [HN.out]; exact Nat.le_refl _)]; exact ⟨HSET.out.keep (BW.block mb hmb), Off.of_below BW, bM⟩) ?round ?done
  case lat =>
    obtain ⟨h1, ⟨g, off, h2, h3, h4, h5⟩, -⟩ := HLT.out i cs hi
    exact ⟨h1, g, off, h2, by omega, h3, fun j hj => (hW.cell (p := ⟨g, _, none⟩) (by show g < _; omega)).trans ((BW.cell (p := ⟨g, _, none⟩) h4).trans (h5 j hj))⟩
  case round =>
    rintro l k W ⟨hs, ho, hm⟩ hsW hk hl
    have hi : N - 1 - k < N := by omega
    obtain ⟨cs, hcs⟩ : ∃ cs, L[N - 1 - k]? = some cs := ⟨L[N - 1 - k]'(by rw [HLL.out]; exact hi), List.getElem?_eq_getElem _⟩
    obtain ⟨x, hx⟩ : ∃ x, es[N - 1 - k]? = some x := ⟨es[N - 1 - k]'(by rw [HN.out]; exact hi), List.getElem?_eq_getElem _⟩
    have hgd : L.getD (N - 1 - k) [] = cs := by rw [List.getD_eq_getElem?_getD, hcs]; rfl
    obtain ⟨-, -, h3⟩ := HLT.out _ cs hcs
    have hex := h3 x hx
    obtain ⟨sk, sn, st, se, p1, n1, q1, p2, n2, q2, hsh⟩ := HEx.shapeN hex
    subst hsh
    rw [hgd]
    have HS : Hid (SetAt W mb (n + ((es.drop (N - k)).flatMap (varL d)).length) ((es.drop (N - k)).foldr (stepS d) S)) := hs
    have HX : Hid (HEx w (fun g => g ≠ mb) d [.int .i64 sk, .int .i64 sn, .string st, .string se, .slice p1 n1 q1, .slice p2 n2 q2] x) := hex
    have HO : Hid (Off [mb] w W) := ho
    have HM : Hid (Blk W w.heap.size #[.map (some mb)] 82) := hm
    have HD : Hid (es.drop (N - (k + 1)) = x :: es.drop (N - k)) := drop_back es N k x HN.out hk hx
    have HFL : Hid (n + ((es.drop (N - k)).flatMap (varL d)).length + (varL d x).length ≤ 2097152) := by
      have h1 := flat_drop (varL d) es (N - (k + 1))
      have h2 := HCNT.out
      rw [HD.out, List.flatMap_cons, List.length_append] at h1
      show _ ≤ _
      omega
    obtain ⟨px, dx, hpx⟩ := HOK.out x (List.mem_of_getElem? hx)
    have HPX : Hid (exOk d x px dx = true) := hpx
    clear hs hex ho hm hgd h3 hpx
    gi_wp2
    refine ⟨Off.of_below ((Below.refl _ _).alloc (Nat.le_refl _) _), fun r o' hl' => ?_⟩
    have bB := Blk.new (w := W) (cs := #[.int .i64 sk, .int .i64 sn, .string st, .string se, .slice p1 n1 q1, .slice p2 n2 q2]) (t := 73)
    have BA : Below w0.heap.size W (W.alloc (.cells #[.int .i64 sk, .int .i64 sn, .string st, .string se, .slice p1 n1 q1, .slice p2 n2 q2] 73)) := (Below.refl _ _).alloc hsW _
    have hne : W.heap.size ≠ l := fun e => by
      unfold Blk at bB
      rw [e, hl'] at bB
      cases bB
    generalize W.alloc (.cells #[.int .i64 sk, .int .i64 sn, .string st, .string se, .slice p1 n1 q1, .slice p2 n2 q2] 73) = W' at *
    have BP : Below w0.heap.size W' (W'.putObj l o') := below_put o' hl
    have bB2 : Blk (W'.putObj l o') W.heap.size #[.int .i64 sk, .int .i64 sn, .string st, .string se, .slice p1 n1 q1, .slice p2 n2 q2] 73 := (World.putObj_heap_other hne).trans bB
    have BQ : Below w0.heap.size W (W'.putObj l o') := BA.trans BP
    have bM2 : Blk (W'.putObj l o') w.heap.size #[.map (some mb)] 82 := HM.out.below BQ (by omega)
    have HO2 : Hid (Off [mb] w (W'.putObj l o')) := HO.out.under (by omega) BQ
    have HS2 : Hid (SetAt (W'.putObj l o') mb (n + ((es.drop (N - k)).flatMap (varL d)).length) ((es.drop (N - k)).foldr (stepS d) S)) := HS.out.keep (BQ.block mb (by omega))
    generalize W'.putObj l o' = W2 at *
    have c0 := bM2.cell 0 _ rfl
    have d0 := bB2.cell 0 _ rfl
    have d1 := bB2.cell 1 _ rfl
    have d2 := bB2.cell 2 _ rfl
    have d3 := bB2.cell 3 _ rfl
    have d4 := bB2.cell 4 _ rfl
    have d5 := bB2.cell 5 _ rfl
    have HM2 : Hid (Blk W2 w.heap.size #[.map (some mb)] 82) := bM2
    have hfA : Fence.wide.fn 80 := trivial
    have hW2 : w.heap.size + 2 ≤ W2.heap.size := by have := BQ.size; omega
    clear bB bB2 bM2 BA BP BQ hl'
    gi_wp2_with (gi_at_call 80; refine (CallsIn.inRound l ((callsIn_wide (n := 7 - 1 - 1 - 1)).2 (HA.out _ mb _ _ _ x px dx (HX.out.offN HO2.out) HPX.out HS2.out HFL.out))).mono ?_; rintro e w3 ⟨rfl, hs3, ho3⟩)
    rw [HD.out]
    refine ⟨?_, HO2.out.trans ho3, ?_⟩
    · rw [ List.flatMap_cons, List.length_append, List.foldr_cons, show n + ((varL d x).length + ((es.drop (N - k)).flatMap (varL d)).length) = n + ((es.drop (N - k)).flatMap (varL d)).length + (varL d x).length by omega]
      exact hs3
    · exact (ho3.block w.heap.size (by omega) (by simp; omega)).trans HM2.out
  case done =>
    intro D W hD hI hK
    rw [Nat.sub_self, List.drop_zero] at hI
    obtain ⟨hs, ho, -⟩ := hI
    gi_wp2
    refine ⟨by simp, .inl ⟨_, _, rfl, run_takeDeferred hK, ?_⟩⟩
    have hp : Below w0.heap.size W (W.putObj D (.deferred none)) := below_put _ hD
    exact ⟨_, results_none rfl _ _ _, rfl, hs.keep (hp.block mb (by omega)), ho.under (by omega) hp⟩
end Go.Proofs.YtpkhblhcdnohmaaGreatDoor
/-
  Small functions of the program's chapter 4, by contract: binds; Bound of what has no kids; removeAll of no names.
-/
namespace Go.Proofs.YtpkhblhcdnohmaaGreatDoor
open Go.ChangeShapes Go.WideShapes Go.ChangeAt Go.RowKit Go.Maps Go.WideMaps
set_option linter.unusedVariables false
set_option maxRecDepth 100000

def bindsB (k : Int) (nk : Nat) : Bool := decide (k = 9) && decide (nk = 2)
theorem binds_any (k n : Int) (t m : ByteArray) (p q : Option Addr) (nk c nc c' : Nat) (w : World) :
    Calls Tryz.prog 98 #[.agg #[.int .i64 k, .int .i64 n, .string t, .string m, .slice p nk c, .slice q nc c']] w fun e w' => e = .returned (.bool (bindsB k nk)) ∧ w' = w.alloc (.cells #[.int .i64 k, .int .i64 n, .string t, .string m, .slice p nk c, .slice q nc c'] 73) := by
  by_cases hk : k = 9
  · subst hk
    by_cases h2 : nk = 2
    · subst h2
      go_enter Tryz.func98, Tryz.ntmps98
      go_wp2
      go_ret
      exact ⟨by simp [bindsB], rfl⟩
    · have h2' : ¬ (nk : Int) = 2 := by omega
      have h2b : ((nk : Int) == 2) = false := by simpa using h2'
      have HE : Hid (bindsB 9 nk = false) := by show _ = _; simp [bindsB, h2]
      go_enter Tryz.func98, Tryz.ntmps98
      go_wp2
      go_ret
      exact ⟨by rw [HE.out]; rfl, rfl⟩
  · have hkb : (k == 9) = false := by simpa using hk
    have HE : Hid (bindsB k nk = false) := by show _ = _; simp [bindsB, hk]
    go_enter Tryz.func98, Tryz.ntmps98
    go_wp2
    go_ret
    exact ⟨by rw [HE.out]; rfl, rfl⟩

theorem addExp0_any (n : Int) (t m : ByteArray) (p q : Option Addr) (c nc c' : Nat) (v : Value) (w : World) :
    Calls Tryz.prog 106 #[v, .agg #[.int .i64 2, .int .i64 n, .string t, .string m, .slice p 0 c, .slice q nc c']] w fun e w' => e = .returned (.tuple #[]) ∧ Below w.heap.size w w' := by
  have BL : Hid (Below w.heap.size w ((w.alloc (.cells #[.int .i64 2, .int .i64 n, .string t, .string m, .slice p 0 c, .slice q nc c'] 73)).alloc (.cells #[.int .i64 2, .int .i64 n, .string t, .string m, .slice p 0 c, .slice q nc c'] 73))) := ((Below.refl _ _).alloc (Nat.le_refl _) _).alloc (by simp) _
  have hb : bindsB 2 0 = false := rfl
  go_enter Tryz.func106, Tryz.ntmps106
  go_wp2_with (go_at_call 98; refine (binds_any _ _ _ _ _ _ _ _ _ _ _).mono ?_; rintro e w' ⟨rfl, rfl⟩; rw [hb])
  go_loopw [24] (fun iv wr => iv = .int .i64 0 ∧ Hid (Below w.heap.size w wr)) (fun _ _ => 0)
  case atStart => exact ⟨rfl, BL.out⟩
  case round =>
    obtain ⟨rfl, HB⟩ := hrel
    go_wp2_with fail
    go_end0
    exact ⟨rfl, HB.out⟩
theorem bound0_any (n : Int) (t m : ByteArray) (p q : Option Addr) (c nc c' : Nat) (w : World) :
    Calls Tryz.prog 96 #[.agg #[.int .i64 2, .int .i64 n, .string t, .string m, .slice p 0 c, .slice q nc c']] w fun e w' => (∃ p c, e = .returned (.slice p 0 c)) ∧ Below w.heap.size w w' := by
  have hm := @mkMap
  go_enter Tryz.func96, Tryz.ntmps96
  go_wp2_with fail
  have bO := Blk.new (w := ((w.alloc (.cells #[.int .i64 2, .int .i64 n, .string t, .string m, .slice p 0 c, .slice q nc c'] 73)).alloc (.map #[] 0)).alloc (.cells #[] 9)) (cs := #[.map (some (w.heap.size + 1)), .slice (some ⟨w.heap.size + 1 + 1, 0, none⟩) 0 0]) (t := 135)
  simp only [alloc_hs] at bO
  have BL : Below w.heap.size w ((((w.alloc (.cells #[.int .i64 2, .int .i64 n, .string t, .string m, .slice p 0 c, .slice q nc c'] 73)).alloc (.map #[] 0)).alloc (.cells #[] 9)).alloc (.cells #[.map (some (w.heap.size + 1)), .slice (some ⟨w.heap.size + 1 + 1, 0, none⟩) 0 0] 135)) := ((((Below.refl _ _).alloc (Nat.le_refl _) _).alloc (by simp) _).alloc (by simp only [alloc_hs]; omega) _).alloc (by simp only [alloc_hs]; omega) _
  refine (addExp0_any _ _ _ _ _ _ _ _ _ _).mono ?_
  rintro e w1 ⟨rfl, hb⟩
  have b1 := bO.next hb
  have x1 := b1.cell 1 _ rfl
  have B1 : Hid (Below w.heap.size w w1) := BL.trans (hb.mono BL.size)
  clear hb BL bO b1
  go_wp2_with fail
  go_ret
  exact ⟨⟨_, _, rfl⟩, B1.out⟩
theorem removeAll0_any (mb : Nat) (p : Option Addr) (c : Nat) (w : World) :
    Calls Tryz.prog 95 #[.map (some mb), .slice p 0 c] w fun e w' => e = .returned (.tuple #[]) ∧ w' = w := by
  go_enter Tryz.func95, Tryz.ntmps95
  go_wp2_with fail
  go_loopw [8] (fun iv wr => iv = .int .i64 0 ∧ Hid (wr = w)) (fun _ _ => 0)
  case atStart => exact ⟨rfl, rfl⟩
  case round =>
    obtain ⟨rfl, HB⟩ := hrel
    go_wp2_with fail
    go_end0
    exact ⟨rfl, HB.out⟩
end Go.Proofs.YtpkhblhcdnohmaaGreatDoor
/-
  The program's names.stepAhead, wantedBy, addWantedBy, by contract: of right expressions.
-/
namespace Go.Proofs.YtpkhblhcdnohmaaGreatDoor
open Go.ChangeShapes Go.WideShapes Go.ChangeAt Go.RowKit Go.Maps Go.WideMaps
set_option linter.unusedVariables false
set_option maxRecDepth 100000

/-- The names that a clause wants. -/
def wantS (d : Nat) (c : Cl) : List UInt8 → Prop := fun z => inK z (listV (freeV d) (bndV d) (foldV (patV d) [] c.1) c.2)
def clVarL (d : Nat) (c : Cl) : List (List UInt8) := c.1.flatMap (varL d) ++ c.2.flatMap (varL d)
def clOkD (d : Nat) (c : Cl) : Prop := (∃ deep, ∀ y ∈ c.1, exOk d y true deep = true) ∧ ∀ y ∈ c.2, ∃ p deep, exOk d y p deep = true
def WbC (d : Nat) : Prop := ∀ (w : World) (cs : List Value) (c : Cl), HCl w All (HEx w All d) cs c → clOkD d c → (clVarL d c).length ≤ 2097152 →
    Calls Tryz.prog 44 #[.agg cs.toArray] w fun e w' => ∃ mb, e = .returned (.map (some mb)) ∧ w.heap.size ≤ mb ∧ SetAt w' mb (clVarL d c).length (wantS d c) ∧ Below w.heap.size w w'
def AwC (d : Nat) : Prop := ∀ (w : World) (mb n : Nat) (S : List UInt8 → Prop) (v : Value) (cl : List Cl), Rows w (fun g => g ≠ mb) 2 (HCl w (fun g => g ≠ mb) (HEx w (fun g => g ≠ mb) d)) v cl → (∀ c ∈ cl, clOkD d c) → SetAt w mb n S → n + (cl.flatMap (clVarL d)).length ≤ 2097152 →
    Calls Tryz.prog 99 #[.map (some mb), v] w fun e w' => e = .returned (.tuple #[]) ∧ SetAt w' mb (n + (cl.flatMap (clVarL d)).length) (fun z => S z ∨ ∃ c ∈ cl, wantS d c z) ∧ Off [mb] w w'

set_option maxHeartbeats 8000000 in
theorem wantedBy_of {d : Nat} (hO : StO d) : WbC d := by
  intro w cs c h hok hcnt
  have hm := @mkMap
  obtain ⟨pv, bdv, rfl, rp, rb⟩ := h
  have HOK : Hid (clOkD d c) := hok
  have HRP : Hid (Rows w All 6 (HEx w All d) pv c.1) := rp
  have HRB : Hid (Rows w All 6 (HEx w All d) bdv c.2) := rb
  obtain ⟨pp, capp, rfl, hclp, hcmp, -⟩ := id rp
  obtain ⟨pb, capb, rfl, -⟩ := id rb
  have hnp : c.1.length ≤ 9223372036854775807 := by unfold maxLen at hcmp; omega
  have hcl : (clVarL d c).length = (c.1.flatMap (varL d)).length + (c.2.flatMap (varL d)).length := by unfold clVarL; rw [List.length_append]
  have HCL : Hid ((clVarL d c).length = (c.1.flatMap (varL d)).length + (c.2.flatMap (varL d)).length) := hcl
  have HC : Hid ((clVarL d c).length ≤ 2097152) := hcnt
  have B0 : Below w.heap.size w ((w.alloc (.cells #[.slice pp c.1.length capp, .slice pb c.2.length capb] 48)).alloc (.map #[] 0)) := ((Below.refl _ _).alloc (Nat.le_refl _) _).alloc (by simp) _
  have bC : Hid (Blk ((w.alloc (.cells #[.slice pp c.1.length capp, .slice pb c.2.length capb] 48)).alloc (.map #[] 0)) w.heap.size #[.slice pp c.1.length capp, .slice pb c.2.length capb] 48) := Blk.new.alloc
  have M0 : Hid (SetAt ((w.alloc (.cells #[.slice pp c.1.length capp, .slice pb c.2.length capb] 48)).alloc (.map #[] 0)) (w.heap.size + 1) 0 (fun _ => False)) := by
    have := SetAt.made (w.alloc (.cells #[.slice pp c.1.length capp, .slice pb c.2.length capb] 48))
    rwa [alloc_hs] at this
  have HB0 : Hid (Below w.heap.size w ((w.alloc (.cells #[.slice pp c.1.length capp, .slice pb c.2.length capb] 48)).alloc (.map #[] 0))) := B0
  have RT : Hid (∀ w' v es, Rows w All 6 (HEx w All d) v es → Below w.heap.size w w' → Rows w' (fun g => g ≠ w.heap.size + 1) 6 (HEx w' (fun g => g ≠ w.heap.size + 1) d) v es) := fun w' v es h hb => by
    have h1 := h.tight (R' := HEx w (fun g => g < w.heap.size) d) (fun _ _ h => h.tight)
    have s1 : SameOn (fun g => g < w.heap.size) w w' := ⟨hb.size, fun g hg _ => hb.block g hg⟩
    exact h1.mono s1 (fun g (hg : g < w.heap.size) => by show g ≠ _; omega) (fun _ _ _ h => h.mono s1 (fun g (hg : g < w.heap.size) => by show g ≠ _; omega))
  generalize hnp0 : c.1.length = np at *
  have HNP : Hid (c.1.length = np) := hnp0
  clear rp rb hok hcnt hcl B0 hnp0 hclp hcmp
  go_enter Tryz.func44, Tryz.ntmps44
  go_wp2_with fail
  refine (hO _ (w.heap.size + 1) 0 (fun _ => False) _ c.2 (RT.out _ _ _ HRB.out HB0.out) HOK.out.2 M0.out (by have := HC.out; have := HCL.out; omega)).mono ?_
  rintro e w1 ⟨rfl, hs1, ho1⟩
  rw [Nat.zero_add] at hs1
  have B1 : Hid (Below w.heap.size w w1) := HB0.out.trans (ho1.below (by simp) HB0.out.size)
  have b1 : Hid (Blk w1 w.heap.size #[.slice pp np capp, .slice pb c.2.length capb] 48) := (ho1.block w.heap.size bC.out.lt (by simp)).trans bC.out
  have M1 : Hid (SetAt w1 (w.heap.size + 1) (c.2.flatMap (varL d)).length (c.2.foldr (stepS d) (fun _ => False))) := hs1
  have x0 := b1.out.cell 0 _ rfl
  clear hs1 ho1 M0 bC HB0
  go_wp2_with fail
  go_loopw [14] (fun iv wr => ∃ k : Nat, k ≤ np ∧ iv = .int .i64 k ∧ Hid (SetAt wr (w.heap.size + 1) (c.2.flatMap (varL d)).length (fun z => c.2.foldr (stepS d) (fun _ => False) z ∧ z ∉ (c.1.take k).flatMap (varL d))) ∧ Hid (Below w.heap.size w wr)) (fun iv _ => np - (intOf iv).toNat)
  case atStart => exact ⟨0, Nat.zero_le _, rfl, M1.out.iff (fun z => by simp), B1.out⟩
  case round =>
    clear x0 M1 B1 b1
    obtain ⟨k, hk, rfl, HM, HB⟩ := hrel
    by_cases hlt : k < np
    · obtain ⟨x, hxk⟩ : ∃ x, c.1[k]? = some x := ⟨c.1[k]'(by rw [HNP.out]; exact hlt), List.getElem?_eq_getElem _⟩
      obtain ⟨p', cap', hv, -, -, hx⟩ := RT.out wr _ _ HRP.out HB.out
      simp only [Value.slice.injEq] at hv
      obtain ⟨rfl, -, rfl⟩ := hv
      obtain ⟨g, off, rfl, hgm, hgl, hat⟩ := hx (by intro h; rw [h] at hxk; simp at hxk)
      obtain ⟨cs, hcsl, hcs, r1⟩ := hat k x hxk
      have E1 : Hid (HEx wr (fun g => g ≠ w.heap.size + 1) d cs x) := r1
      obtain ⟨c0, c1, c2, c3, c4, c5, rfl⟩ := len6 hcsl
      have a0 := hcs 0 (by omega)
      have a1 := hcs 1 (by omega)
      have a2 := hcs 2 (by omega)
      have a3 := hcs 3 (by omega)
      have a4 := hcs 4 (by omega)
      have a5 := hcs 5 (by omega)
      simp at a0 a1 a2 a3 a4 a5
      have HFX : Hid ((varL d x).length ≤ 2097152) := by
        have h1 := HC.out
        have h2 := HCL.out
        have h3 := flat_drop (varL d) c.1 k
        rw [List.drop_eq_getElem_cons (by rw [HNP.out]; exact hlt), List.flatMap_cons, List.length_append] at h3
        have h5 : c.1[k]'(by rw [HNP.out]; exact hlt) = x := (List.getElem?_eq_some_iff.1 hxk).2
        rw [h5] at h3
        show _ ≤ _
        omega
      have HT : Hid ((c.1.take (k + 1)).flatMap (varL d) = (c.1.take k).flatMap (varL d) ++ varL d x) := by
        show _ = _
        rw [List.take_add_one, hxk]; simp
      have hki : (k : Int) < (np : Int) := by omega
      have hk0 : (0 : Int) ≤ (k : Int) := by omega
      clear hat hcs hcsl r1 hx
      obtain ⟨sk, sn, st, se, p1, n1, q1, p2, n2, q2, hsh⟩ := HEx.shapeN E1.out
      simp only [List.cons.injEq, and_true] at hsh
      obtain ⟨rfl, rfl, rfl, rfl, rfl, rfl⟩ := hsh
      have HBA : Hid (Below wr.heap.size wr (wr.alloc (.cells #[.int .i64 sk, .int .i64 sn, .string st, .string se, .slice p1 n1 q1, .slice p2 n2 q2] 73))) := (Below.refl _ _).alloc (Nat.le_refl _) _
      go_wp2_with fail
      refine (eachVarR_any (n0 := (c.2.flatMap (varL d)).length) (S0 := fun z => c.2.foldr (stepS d) (fun _ => False) z ∧ z ∉ (c.1.take k).flatMap (varL d)) _ (w.heap.size + 1) d _ x [] (E1.out.offN (Off.of_below HBA.out)) ((HM.out.keep (HBA.out.block _ HM.out.lt)).iff (fun z => by simp)) (by have := HFX.out; simpa using this)).mono ?_
      rintro e w2 ⟨rfl, hm2, ho2⟩
      rw [List.nil_append] at hm2
      have B2 : Hid (Below w.heap.size w w2) := (HB.out.trans (HBA.out.mono HB.out.size)).trans (ho2.below (by simp) (by have := HB.out.size; rw [alloc_hs]; omega))
      have M2 : Hid (SetAt w2 (w.heap.size + 1) (c.2.flatMap (varL d)).length (fun z => c.2.foldr (stepS d) (fun _ => False) z ∧ z ∉ (c.1.take (k + 1)).flatMap (varL d))) := SetAt.iff hm2 (fun z => by rw [HT.out, List.mem_append, not_or, and_assoc])
      clear hm2 ho2
      go_wp2_with fail
      exact ⟨⟨k + 1, by omega, by go_num, M2.out, B2.out⟩, by simp [intOf]; omega⟩
    · have HS : Hid (SetAt wr (w.heap.size + 1) (clVarL d c).length (wantS d c)) := by
        have h1 := HM.out
        rw [List.take_of_length_le (by rw [HNP.out]; omega)] at h1
        obtain ⟨⟨deep, hp⟩, -⟩ := HOK.out
        exact (h1.iff (fun z => clause_step d c deep hp z)).more (by have := HCL.out; omega)
      go_wp2_with fail
      go_ret
      exact ⟨_, rfl, by omega, HS.out, HB.out⟩

set_option maxHeartbeats 8000000 in
theorem addWanted_of {d : Nat} (hW : WbC d) : AwC d := by
  intro w mb n S v cl h hok hset hcnt
  have HR : Hid (Rows w (fun g => g ≠ mb) 2 (HCl w (fun g => g ≠ mb) (HEx w (fun g => g ≠ mb) d)) v cl) := h
  obtain ⟨p, cap, rfl, hcl, hcm, -⟩ := id h
  have hnb : cl.length ≤ 9223372036854775807 := by unfold maxLen at hcm; omega
  have HSET : Hid (SetAt w mb n S) := hset
  have HOK : Hid (∀ c ∈ cl, clOkD d c) := hok
  have HC : Hid (n + (cl.flatMap (clVarL d)).length ≤ 2097152) := hcnt
  generalize hn : cl.length = nc at *
  have HN : Hid (cl.length = nc) := hn
  clear h hok hset hcnt hn
  go_enter Tryz.func99, Tryz.ntmps99
  go_wp2_with fail
  go_loopw [8] (fun iv wr => ∃ k : Nat, k ≤ nc ∧ iv = .int .i64 k ∧ Hid (SetAt wr mb (n + ((cl.take k).flatMap (clVarL d)).length) (fun z => S z ∨ ∃ c ∈ cl.take k, wantS d c z)) ∧ Hid (Off [mb] w wr)) (fun iv _ => nc - (intOf iv).toNat)
  case atStart => exact ⟨0, Nat.zero_le _, rfl, HSET.out.iff (fun z => by simp), Off.refl _ _⟩
  case round =>
    obtain ⟨k, hk, rfl, HM, HO⟩ := hrel
    by_cases hlt : k < nc
    · obtain ⟨c, hck⟩ : ∃ c, cl[k]? = some c := ⟨cl[k]'(by rw [HN.out]; exact hlt), List.getElem?_eq_getElem _⟩
      obtain ⟨p', cap', hv, -, -, hx⟩ := HR.out
      simp only [Value.slice.injEq] at hv
      obtain ⟨rfl, -, rfl⟩ := hv
      obtain ⟨g, off, rfl, hgm, hgl, hat⟩ := hx (by intro h; rw [h] at hck; simp at hck)
      obtain ⟨cs, hcsl, hcs, r1⟩ := hat k c hck
      have SO : SameOn (fun g => g ≠ mb) w wr := ⟨HO.out.size, fun g hg hl => HO.out.block g hl (by simpa using hg)⟩
      have E1 : Hid (HCl wr All (HEx wr All d) cs c) := HCl.mono r1 SO (fun _ _ => trivial) (fun _ _ h => h.mono SO (fun _ _ => trivial))
      obtain ⟨pv, bv, rfl, rp, rb⟩ := r1
      obtain ⟨pp, capp, rfl, -⟩ := rp
      obtain ⟨pb, capb, rfl, -⟩ := rb
      have hge : wr.heap[g]? = w.heap[g]? := HO.out.block g hgl (by simpa using hgm)
      have a0 := (World.cell?_of_block (a := ⟨g, off + k * 2 + 0, none⟩) hge).trans (hcs 0 (by omega))
      have a1 := (World.cell?_of_block (a := ⟨g, off + k * 2 + 1, none⟩) hge).trans (hcs 1 (by omega))
      simp at a0 a1
      have HCK : Hid (n + ((cl.take k).flatMap (clVarL d)).length + (clVarL d c).length ≤ 2097152) := by
        have h1 := HC.out
        have h2 : (cl.flatMap (clVarL d)) = (cl.take k).flatMap (clVarL d) ++ (clVarL d c ++ (cl.drop (k + 1)).flatMap (clVarL d)) := by
          have h3 : cl = cl.take k ++ c :: cl.drop (k + 1) := by
            have h4 := List.take_append_drop k cl
            rw [List.drop_eq_getElem_cons (by rw [HN.out]; exact hlt)] at h4
            have h5 : cl[k]'(by rw [HN.out]; exact hlt) = c := (List.getElem?_eq_some_iff.1 hck).2
            rw [h5] at h4
            exact h4.symm
          conv => lhs; rw [h3]
          simp
        rw [h2] at h1
        show _ ≤ _
        simp only [List.length_append] at h1
        omega
      have HT1 : Hid (((cl.take (k + 1)).flatMap (clVarL d)).length = ((cl.take k).flatMap (clVarL d)).length + (clVarL d c).length) := by
        show _ = _
        rw [List.take_add_one, hck]; simp
      have HT2 : Hid (∀ z, (S z ∨ ∃ c ∈ cl.take k, wantS d c z) ∨ wantS d c z ↔ S z ∨ ∃ c ∈ cl.take (k + 1), wantS d c z) := fun z => by
        rw [List.take_add_one, hck]
        simp only [Option.toList_some, List.mem_append, List.mem_singleton]
        constructor
        · rintro ((h | ⟨c', h, h'⟩) | h)
          · exact .inl h
          · exact .inr ⟨c', .inl h, h'⟩
          · exact .inr ⟨c, .inr rfl, h⟩
        · rintro (h | ⟨c', h | rfl, h'⟩)
          · exact .inl (.inl h)
          · exact .inl (.inr ⟨c', h, h'⟩)
          · exact .inr h'
      have HOKc : Hid (clOkD d c) := HOK.out c (List.mem_of_getElem? hck)
      have hki : (k : Int) < (nc : Int) := by omega
      have hk0 : (0 : Int) ≤ (k : Int) := by omega
      have HBC : Hid (Below wr.heap.size wr (wr.alloc (.cells #[.slice pp c.1.length capp, .slice pb c.2.length capb] 48))) := (Below.refl _ _).alloc (Nat.le_refl _) _
      clear hat hcs hcsl hge hx SO
      go_wp2_with fail
      refine (hW _ _ c (HCl.mono E1.out (SameOn.of_below HBC.out) (fun _ h => h) (fun _ _ h => h.mono (SameOn.of_below HBC.out) (fun _ h => h))) HOKc.out (by have := HCK.out; omega)).mono ?_
      rintro e w2 ⟨mb2, rfl, hlm, hs2, hb2⟩
      have HB2 : Hid (Below wr.heap.size wr w2) := HBC.out.trans (hb2.mono HBC.out.size)
      have M2 : Hid (SetAt w2 mb (n + ((cl.take k).flatMap (clVarL d)).length) (fun z => S z ∨ ∃ c ∈ cl.take k, wantS d c z)) := HM.out.keep (HB2.out.block mb HM.out.lt)
      have S2 : Hid (SetAt w2 mb2 (clVarL d c).length (wantS d c)) := hs2
      have hne : mb ≠ mb2 := by have := HM.out.lt; rw [alloc_hs] at hlm; omega
      clear hs2 hb2 a0 a1
      go_wp2_with fail
      refine (copyN_any _ mb mb2 _ _ _ _ M2.out S2.out hne (by have := HCK.out; unfold maxLen; omega)).mono ?_
      rintro e w3 ⟨rfl, hs3, ho3⟩
      have M3 : Hid (SetAt w3 mb (n + ((cl.take (k + 1)).flatMap (clVarL d)).length) (fun z => S z ∨ ∃ c ∈ cl.take (k + 1), wantS d c z)) := by
        have h1 := hs3.iff HT2.out
        rw [HT1.out, ← Nat.add_assoc]
        exact h1
      have O3 : Hid (Off [mb] w w3) := (HO.out.trans (Off.of_below HB2.out)).trans ho3
      clear hs3 ho3
      go_wp2_with fail
      exact ⟨⟨k + 1, by omega, by go_num, M3.out, O3.out⟩, by simp [intOf]; omega⟩
    · have HS : Hid (SetAt wr mb (n + (cl.flatMap (clVarL d)).length) (fun z => S z ∨ ∃ c ∈ cl, wantS d c z)) := by
        have h1 := HM.out
        rwa [List.take_of_length_le (by rw [HN.out]; omega)] at h1
      go_wp2_with fail
      go_end0
      exact ⟨rfl, HS.out, HO.out⟩
end Go.Proofs.YtpkhblhcdnohmaaGreatDoor
/-
  The program's names.stepAhead, by contract: of right expressions.
-/
namespace Go.Proofs.YtpkhblhcdnohmaaGreatDoor
open Go.ChangeShapes Go.WideShapes Go.ChangeAt Go.RowKit Go.Maps Go.WideMaps
set_option linter.unusedVariables false
set_option maxRecDepth 100000

theorem varL_eq (d : Nat) (k n : Int) (t m : ByteArray) (ks : List Ex) (cs : List Cl) : varL (d + 1) (.mk k n t m ks cs) = (if k = 2 then [keyS t] else []) ++ (ks.flatMap (varL d) ++ cs.flatMap (clVarL d)) := rfl

set_option maxHeartbeats 8000000 in
theorem stepA_var {d : Nat} (w : World) (mb n : Nat) (S : List UInt8 → Prop) (cs : List Value) (nx : Int) (tx mx : ByteArray) (cl : List Cl) (h : HEx w (fun g => g ≠ mb) (d + 1) cs (.mk 2 nx tx mx [] cl)) (hset : SetAt w mb n S) (hcnt : n + (varL (d + 1) (.mk 2 nx tx mx [] cl)).length ≤ 2097152) :
    Calls Tryz.prog 80 #[.map (some mb), .agg cs.toArray] w fun e w' => e = .returned (.tuple #[]) ∧ SetAt w' mb (n + (varL (d + 1) (.mk 2 nx tx mx [] cl)).length) (stepS (d + 1) (.mk 2 nx tx mx [] cl) S) ∧ Off [mb] w w' := by
  have hv := varL_eq d 2 nx tx mx [] cl
  have HL : Hid (n + 1 ≤ n + (varL (d + 1) (.mk 2 nx tx mx [] cl)).length) := by
    show _ ≤ _
    rw [hv]; simp
  have HC : Hid (n + (varL (d + 1) (.mk 2 nx tx mx [] cl)).length ≤ 2097152) := hcnt
  generalize (varL (d + 1) (.mk 2 nx tx mx [] cl)).length = nl at *
  have HST : Hid (∀ z, (S z ∨ z = tx.data.toList) ↔ stepS (d + 1) (.mk 2 nx tx mx [] cl) S z) := fun z => step_var d nx tx mx cl S z
  generalize stepS (d + 1) (.mk 2 nx tx mx [] cl) S = S2 at *
  obtain ⟨kv, cv, rfl, -, -, hts, -, f0, f1⟩ := h
  simp only [Ex.kind, Ex.n, Ex.text, Ex.mod, Ex.kids, Ex.clauses] at *
  obtain ⟨p, cap, rfl, -⟩ := f0
  obtain ⟨pc, capc, rfl, -⟩ := f1
  have BA : Hid (Below w.heap.size w (w.alloc (.cells #[.int .i64 2, .int .i64 nx, .string tx, .string mx, .slice p 0 cap, .slice pc cl.length capc] 73))) := (Below.refl _ _).alloc (Nat.le_refl _) _
  have bA : Hid (Blk (w.alloc (.cells #[.int .i64 2, .int .i64 nx, .string tx, .string mx, .slice p 0 cap, .slice pc cl.length capc] 73)) w.heap.size #[.int .i64 2, .int .i64 nx, .string tx, .string mx, .slice p 0 cap, .slice pc cl.length capc] 73) := Blk.new
  have HSET : Hid (SetAt w mb n S) := hset
  have HTS : Hid (okS tx) := hts
  simp only [List.length_nil] at *
  clear hv hcnt hset hts
  go_enter Tryz.func80, Tryz.ntmps80
  go_wp2_with fail
  refine (bound0_any _ _ _ _ _ _ _ _ _).mono ?_
  rintro e w1 ⟨⟨p1, c1, rfl⟩, hb1⟩
  have b1 := bA.out.next hb1
  have x2 := b1.cell 2 _ rfl
  have B1 : Hid (Below w.heap.size w w1) := BA.out.trans (hb1.mono BA.out.size)
  clear hb1 b1
  go_wp2_with fail
  refine (removeAll0_any _ _ _ _).mono ?_
  rintro e w2 ⟨rfl, hw2⟩
  rw [hw2]
  go_wp2_with fail
  refine (addN_any _ mb n S tx (HSET.out.keep (B1.out.block mb HSET.out.lt)) HTS.out (by have := HC.out; have := HL.out; unfold maxLen; omega)).mono ?_
  rintro e w3 ⟨rfl, hs3, ho3⟩
  have M3 : Hid (SetAt w3 mb (n + nl) S2) := (hs3.iff HST.out).more HL.out
  have O3 : Hid (Off [mb] w w3) := (Off.of_below B1.out).trans ho3
  clear hs3 ho3
  go_wp2_with fail
  go_end0
  exact ⟨rfl, M3.out, O3.out⟩

set_option maxHeartbeats 8000000 in
theorem stepA_two {d : Nat} (hA : StA d) (w : World) (mb n : Nat) (S : List UInt8 → Prop) (cs : List Value) (nx : Int) (tx mx : ByteArray) (ya yb : Ex) (cl : List Cl) (deep : Int) (pb : Bool) (h : HEx w (fun g => g ≠ mb) (d + 1) cs (.mk 9 nx tx mx [ya, yb] cl)) (oa : exOk d ya true deep = true) (ob : exOk d yb pb deep = true) (hset : SetAt w mb n S) (hcnt : n + (varL (d + 1) (.mk 9 nx tx mx [ya, yb] cl)).length ≤ 2097152) :
    Calls Tryz.prog 80 #[.map (some mb), .agg cs.toArray] w fun e w' => e = .returned (.tuple #[]) ∧ SetAt w' mb (n + (varL (d + 1) (.mk 9 nx tx mx [ya, yb] cl)).length) (stepS (d + 1) (.mk 9 nx tx mx [ya, yb] cl) S) ∧ Off [mb] w w' := by
  have hv := varL_eq d 9 nx tx mx [ya, yb] cl
  have hl : (varL (d + 1) (.mk 9 nx tx mx [ya, yb] cl)).length = (varL d ya).length + (varL d yb).length + (cl.flatMap (clVarL d)).length := by rw [hv]; simp; omega
  have HL : Hid (n + (varL d yb).length ≤ n + (varL (d + 1) (.mk 9 nx tx mx [ya, yb] cl)).length) := by show _ ≤ _; omega
  have HCA : Hid ((varL d ya).length ≤ 2097152) := by show _ ≤ _; omega
  have HCB : Hid (n + (varL d yb).length ≤ 2097152) := by show _ ≤ _; omega
  generalize (varL (d + 1) (.mk 9 nx tx mx [ya, yb] cl)).length = nl at *
  have HST : Hid (∀ z, stepS d yb (fun z => S z ∧ z ∉ varL d ya) z ↔ stepS (d + 1) (.mk 9 nx tx mx [ya, yb] cl) S z) := fun z => step_two d nx tx mx ya yb cl deep oa S z
  generalize stepS (d + 1) (.mk 9 nx tx mx [ya, yb] cl) S = S2 at *
  obtain ⟨kv, cv, rfl, -, -, hts, -, f0, f1⟩ := h
  simp only [Ex.kind, Ex.n, Ex.text, Ex.mod, Ex.kids, Ex.clauses] at *
  obtain ⟨p, cap, rfl, -, -, hx⟩ := f0
  obtain ⟨pc, capc, rfl, -⟩ := f1
  obtain ⟨g, off, rfl, hgm, hgl, hat⟩ := hx (by simp)
  obtain ⟨ca, hcal, hca, ra⟩ := hat 0 ya rfl
  obtain ⟨cb, hcbl, hcb, rb⟩ := hat 1 yb rfl
  have EA : Hid (HEx w (fun g => g ≠ mb) d ca ya) := ra
  have EB : Hid (HEx w (fun g => g ≠ mb) d cb yb) := rb
  obtain ⟨k1, m1, t1, e1, p1, n1, q1, r1, s1, u1, rfl⟩ := HEx.shapeN ra
  obtain ⟨k2, m2, t2, e2, p2, n2, q2, r2, s2, u2, rfl⟩ := HEx.shapeN rb
  simp only [List.length_cons, List.length_nil, Nat.zero_add, Nat.reduceAdd] at *
  have BA : Hid (Below w.heap.size w (w.alloc (.cells #[.int .i64 9, .int .i64 nx, .string tx, .string mx, .slice (some ⟨g, off, none⟩) 2 cap, .slice pc cl.length capc] 73))) := (Below.refl _ _).alloc (Nat.le_refl _) _
  have bA : Hid (Blk (w.alloc (.cells #[.int .i64 9, .int .i64 nx, .string tx, .string mx, .slice (some ⟨g, off, none⟩) 2 cap, .slice pc cl.length capc] 73)) w.heap.size #[.int .i64 9, .int .i64 nx, .string tx, .string mx, .slice (some ⟨g, off, none⟩) 2 cap, .slice pc cl.length capc] 73) := Blk.new
  have HSET : Hid (SetAt w mb n S) := hset
  have hbd : bindsB 9 2 = true := rfl
  have KA : Hid (∀ w' : World, (w'.heap[g]? = w.heap[g]?) → ∀ j, j < 6 → w'.cell? ⟨g, off + 0 * 6 + j, none⟩ = [Value.int .i64 k1, .int .i64 m1, .string t1, .string e1, .slice p1 n1 q1, .slice r1 s1 u1][j]?) := fun w' he j hj => (World.cell?_of_block he).trans (hca j hj)
  have KB : Hid (∀ w' : World, (w'.heap[g]? = w.heap[g]?) → ∀ j, j < 6 → w'.cell? ⟨g, off + 1 * 6 + j, none⟩ = [Value.int .i64 k2, .int .i64 m2, .string t2, .string e2, .slice p2 n2 q2, .slice r2 s2 u2][j]?) := fun w' he j hj => (World.cell?_of_block he).trans (hcb j hj)
  have HOB : Hid (exOk d yb pb deep = true) := ob
  have hmb := hset.lt
  have HG : Hid (g < w.heap.size ∧ g ≠ mb) := ⟨hgl, hgm⟩
  clear hv hcnt hset hts hl hat hca hcb ra rb hx oa ob hcal hcbl
  go_enter Tryz.func80, Tryz.ntmps80
  go_wp2_with fail
  refine (binds_any _ _ _ _ _ _ _ _ _ _ _).mono ?_
  rintro e w1 ⟨rfl, hw1⟩
  rw [hbd]
  have BB : Below (w.alloc (.cells #[.int .i64 9, .int .i64 nx, .string tx, .string mx, .slice (some ⟨g, off, none⟩) 2 cap, .slice pc cl.length capc] 73)).heap.size (w.alloc (.cells #[.int .i64 9, .int .i64 nx, .string tx, .string mx, .slice (some ⟨g, off, none⟩) 2 cap, .slice pc cl.length capc] 73)) w1 := by rw [hw1]; exact (Below.refl _ _).alloc (Nat.le_refl _) _
  have B1 : Hid (Below w.heap.size w w1) := BA.out.trans (BB.mono BA.out.size)
  have b1 : Hid (Blk w1 w.heap.size #[.int .i64 9, .int .i64 nx, .string tx, .string mx, .slice (some ⟨g, off, none⟩) 2 cap, .slice pc cl.length capc] 73) := bA.out.next BB
  have x4 := b1.out.cell 4 _ rfl
  have a0 := KA.out w1 (B1.out.block g HG.out.1) 0 (by omega)
  have a1 := KA.out w1 (B1.out.block g HG.out.1) 1 (by omega)
  have a2 := KA.out w1 (B1.out.block g HG.out.1) 2 (by omega)
  have a3 := KA.out w1 (B1.out.block g HG.out.1) 3 (by omega)
  have a4 := KA.out w1 (B1.out.block g HG.out.1) 4 (by omega)
  have a5 := KA.out w1 (B1.out.block g HG.out.1) 5 (by omega)
  simp at a0 a1 a2 a3 a4 a5
  clear hw1 BB
  go_wp2_with fail
  refine (eachVarR_any (n0 := n) (S0 := S) _ mb d _ ya [] (EA.out.offN (Off.of_below B1.out)) ((HSET.out.keep (B1.out.block mb hmb)).iff (fun z => by simp)) (by have := HCA.out; simpa using this)).mono ?_
  rintro e w2 ⟨rfl, hm2, ho2⟩
  rw [List.nil_append] at hm2
  have O2 : Hid (Off [mb] w w2) := (Off.of_below B1.out).trans ho2
  have M2 : Hid (SetAt w2 mb n (fun z => S z ∧ z ∉ varL d ya)) := hm2
  have hl1 := b1.out.lt
  have b2 : Blk w2 w.heap.size #[.int .i64 9, .int .i64 nx, .string tx, .string mx, .slice (some ⟨g, off, none⟩) 2 cap, .slice pc cl.length capc] 73 := (ho2.block w.heap.size hl1 (by simp; omega)).trans b1.out
  have y4 := b2.cell 4 _ rfl
  have hg2 : w2.heap[g]? = w.heap[g]? := O2.out.block g HG.out.1 (by simpa using HG.out.2)
  have c0 := KB.out w2 hg2 0 (by omega)
  have c1 := KB.out w2 hg2 1 (by omega)
  have c2 := KB.out w2 hg2 2 (by omega)
  have c3 := KB.out w2 hg2 3 (by omega)
  have c4 := KB.out w2 hg2 4 (by omega)
  have c5 := KB.out w2 hg2 5 (by omega)
  simp at c0 c1 c2 c3 c4 c5
  clear hm2 ho2 b2 hg2 x4 a0 a1 a2 a3 a4 a5 hl1
  go_wp2_with fail
  refine (hA _ mb n _ _ yb pb deep (EB.out.offN O2.out) HOB.out M2.out HCB.out).mono ?_
  rintro e w3 ⟨rfl, hs3, ho3⟩
  have M3 : Hid (SetAt w3 mb (n + nl) S2) := (hs3.iff HST.out).more HL.out
  have O3 : Hid (Off [mb] w w3) := O2.out.trans ho3
  clear hs3 ho3
  go_wp2_with fail
  go_end0
  exact ⟨rfl, M3.out, O3.out⟩

set_option maxHeartbeats 8000000 in
theorem stepA_case {d : Nat} (hO : StO d) (hW : AwC d) (w : World) (mb n : Nat) (S : List UInt8 → Prop) (cs : List Value) (nx : Int) (tx mx : ByteArray) (ks : List Ex) (cl : List Cl) (h : HEx w (fun g => g ≠ mb) (d + 1) cs (.mk 10 nx tx mx ks cl)) (ok : ∀ y ∈ ks, ∃ p deep, exOk d y p deep = true) (oc : ∀ c ∈ cl, clOkD d c) (hset : SetAt w mb n S) (hcnt : n + (varL (d + 1) (.mk 10 nx tx mx ks cl)).length ≤ 2097152) :
    Calls Tryz.prog 80 #[.map (some mb), .agg cs.toArray] w fun e w' => e = .returned (.tuple #[]) ∧ SetAt w' mb (n + (varL (d + 1) (.mk 10 nx tx mx ks cl)).length) (stepS (d + 1) (.mk 10 nx tx mx ks cl) S) ∧ Off [mb] w w' := by
  have hv := varL_eq d 10 nx tx mx ks cl
  have hl : (varL (d + 1) (.mk 10 nx tx mx ks cl)).length = (ks.flatMap (varL d)).length + (cl.flatMap (clVarL d)).length := by
    rw [hv, List.length_append, List.length_append]; simp
  have HL : Hid (n + (cl.flatMap (clVarL d)).length + (ks.flatMap (varL d)).length ≤ n + (varL (d + 1) (.mk 10 nx tx mx ks cl)).length) := by show _ ≤ _; omega
  have HCA : Hid (n + (cl.flatMap (clVarL d)).length ≤ 2097152) := by show _ ≤ _; omega
  have HCB : Hid (n + (cl.flatMap (clVarL d)).length + (ks.flatMap (varL d)).length ≤ 2097152) := by show _ ≤ _; omega
  generalize (varL (d + 1) (.mk 10 nx tx mx ks cl)).length = nl at *
  have HST : Hid (∀ z, ks.foldr (stepS d) (fun z => S z ∨ ∃ c ∈ cl, wantS d c z) z ↔ stepS (d + 1) (.mk 10 nx tx mx ks cl) S z) := fun z => step_else d 10 nx tx mx ks cl (by decide) (by simp) S z
  generalize stepS (d + 1) (.mk 10 nx tx mx ks cl) S = S2 at *
  obtain ⟨kv, cv, rfl, -, -, hts, -, f0, f1⟩ := h
  simp only [Ex.kind, Ex.n, Ex.text, Ex.mod, Ex.kids, Ex.clauses] at *
  have F0 : Hid (∀ w', Off [mb] w w' → Rows w' (fun g => g ≠ mb) 6 (HEx w' (fun g => g ≠ mb) d) kv ks) := fun w' ho => Rows.mono f0 ⟨ho.size, fun g hg hl => ho.block g hl (by simpa using hg)⟩ (fun _ h => h) (fun _ _ _ h => HEx.offN h ho)
  have F1 : Hid (∀ w', Off [mb] w w' → Rows w' (fun g => g ≠ mb) 2 (HCl w' (fun g => g ≠ mb) (HEx w' (fun g => g ≠ mb) d)) cv cl) := fun w' ho => Rows.mono f1 ⟨ho.size, fun g hg hl => ho.block g hl (by simpa using hg)⟩ (fun _ h => h) (fun _ _ _ h => HCl.mono h ⟨ho.size, fun g hg hl => ho.block g hl (by simpa using hg)⟩ (fun _ h => h) (fun _ _ h => HEx.offN h ho))
  obtain ⟨p, cap, rfl, -⟩ := id f0
  obtain ⟨pc, capc, rfl, -⟩ := id f1
  have BA : Hid (Below w.heap.size w (w.alloc (.cells #[.int .i64 10, .int .i64 nx, .string tx, .string mx, .slice p ks.length cap, .slice pc cl.length capc] 73))) := (Below.refl _ _).alloc (Nat.le_refl _) _
  have bA : Hid (Blk (w.alloc (.cells #[.int .i64 10, .int .i64 nx, .string tx, .string mx, .slice p ks.length cap, .slice pc cl.length capc] 73)) w.heap.size #[.int .i64 10, .int .i64 nx, .string tx, .string mx, .slice p ks.length cap, .slice pc cl.length capc] 73) := Blk.new
  have HSET : Hid (SetAt w mb n S) := hset
  have hbd : bindsB 10 ks.length = false := rfl
  have HOK : Hid (∀ y ∈ ks, ∃ p deep, exOk d y p deep = true) := ok
  have HOC : Hid (∀ c ∈ cl, clOkD d c) := oc
  have hmb := hset.lt
  clear hv hcnt hset hts hl f0 f1 ok oc
  go_enter Tryz.func80, Tryz.ntmps80
  go_wp2_with fail
  refine (binds_any _ _ _ _ _ _ _ _ _ _ _).mono ?_
  rintro e w1 ⟨rfl, hw1⟩
  rw [hbd]
  have BB : Below (w.alloc (.cells #[.int .i64 10, .int .i64 nx, .string tx, .string mx, .slice p ks.length cap, .slice pc cl.length capc] 73)).heap.size (w.alloc (.cells #[.int .i64 10, .int .i64 nx, .string tx, .string mx, .slice p ks.length cap, .slice pc cl.length capc] 73)) w1 := by rw [hw1]; exact (Below.refl _ _).alloc (Nat.le_refl _) _
  have B1 : Hid (Below w.heap.size w w1) := BA.out.trans (BB.mono BA.out.size)
  have b1 : Hid (Blk w1 w.heap.size #[.int .i64 10, .int .i64 nx, .string tx, .string mx, .slice p ks.length cap, .slice pc cl.length capc] 73) := bA.out.next BB
  have x0 := b1.out.cell 0 _ rfl
  have x5 := b1.out.cell 5 _ rfl
  clear hw1 BB
  go_wp2_with fail
  refine (hW _ mb n S _ cl (F1.out _ (Off.of_below B1.out)) HOC.out (HSET.out.keep (B1.out.block mb hmb)) HCA.out).mono ?_
  rintro e w2 ⟨rfl, hm2, ho2⟩
  have O2 : Hid (Off [mb] w w2) := (Off.of_below B1.out).trans ho2
  have M2 : Hid (SetAt w2 mb (n + (cl.flatMap (clVarL d)).length) (fun z => S z ∨ ∃ c ∈ cl, wantS d c z)) := hm2
  have hl1 := b1.out.lt
  have b2 : Blk w2 w.heap.size #[.int .i64 10, .int .i64 nx, .string tx, .string mx, .slice p ks.length cap, .slice pc cl.length capc] 73 := (ho2.block w.heap.size hl1 (by simp; omega)).trans b1.out
  have y4 := b2.cell 4 _ rfl
  clear hm2 ho2 b2 x0 x5 hl1
  go_wp2_with fail
  refine (hO _ mb _ _ _ ks (F0.out _ O2.out) HOK.out M2.out HCB.out).mono ?_
  rintro e w3 ⟨rfl, hs3, ho3⟩
  have M3 : Hid (SetAt w3 mb (n + nl) S2) := (hs3.iff HST.out).more HL.out
  have O3 : Hid (Off [mb] w w3) := O2.out.trans ho3
  clear hs3 ho3
  go_wp2_with fail
  go_end0
  exact ⟨rfl, M3.out, O3.out⟩

set_option maxHeartbeats 8000000 in
theorem stepA_else {d : Nat} (hO : StO d) (w : World) (mb n : Nat) (S : List UInt8 → Prop) (cs : List Value) (kx nx : Int) (tx mx : ByteArray) (ks : List Ex) (k2 : kx ≠ 2) (k9 : kx ≠ 9) (k10 : kx ≠ 10) (h : HEx w (fun g => g ≠ mb) (d + 1) cs (.mk kx nx tx mx ks [])) (ok : ∀ y ∈ ks, ∃ p deep, exOk d y p deep = true) (hset : SetAt w mb n S) (hcnt : n + (varL (d + 1) (.mk kx nx tx mx ks [])).length ≤ 2097152) :
    Calls Tryz.prog 80 #[.map (some mb), .agg cs.toArray] w fun e w' => e = .returned (.tuple #[]) ∧ SetAt w' mb (n + (varL (d + 1) (.mk kx nx tx mx ks [])).length) (stepS (d + 1) (.mk kx nx tx mx ks []) S) ∧ Off [mb] w w' := by
  have hv := varL_eq d kx nx tx mx ks []
  have hl : (varL (d + 1) (.mk kx nx tx mx ks [])).length = (ks.flatMap (varL d)).length := by
    rw [hv, if_neg k2]; simp
  have HL : Hid (n + (ks.flatMap (varL d)).length ≤ n + (varL (d + 1) (.mk kx nx tx mx ks [])).length) := by show _ ≤ _; omega
  have HCB : Hid (n + (ks.flatMap (varL d)).length ≤ 2097152) := by show _ ≤ _; omega
  generalize (varL (d + 1) (.mk kx nx tx mx ks [])).length = nl at *
  have HST : Hid (∀ z, ks.foldr (stepS d) S z ↔ stepS (d + 1) (.mk kx nx tx mx ks []) S z) := fun z => by
    rw [← step_else d kx nx tx mx ks [] k2 (fun h => k9 h.1) S z]
    have e : (fun z => S z ∨ ∃ c ∈ ([] : List Cl), inK z (listV (freeV d) (bndV d) (foldV (patV d) [] c.1) c.2)) = S := by funext z; simp
    rw [e]
  generalize stepS (d + 1) (.mk kx nx tx mx ks []) S = S2 at *
  obtain ⟨kv, cv, rfl, -, -, hts, -, f0, f1⟩ := h
  simp only [Ex.kind, Ex.n, Ex.text, Ex.mod, Ex.kids, Ex.clauses] at *
  have F0 : Hid (∀ w', Off [mb] w w' → Rows w' (fun g => g ≠ mb) 6 (HEx w' (fun g => g ≠ mb) d) kv ks) := fun w' ho => Rows.mono f0 ⟨ho.size, fun g hg hl => ho.block g hl (by simpa using hg)⟩ (fun _ h => h) (fun _ _ _ h => HEx.offN h ho)
  obtain ⟨p, cap, rfl, -⟩ := id f0
  obtain ⟨pc, capc, rfl, -⟩ := id f1
  simp only [List.length_nil] at *
  have BA : Hid (Below w.heap.size w (w.alloc (.cells #[.int .i64 kx, .int .i64 nx, .string tx, .string mx, .slice p ks.length cap, .slice pc 0 capc] 73))) := (Below.refl _ _).alloc (Nat.le_refl _) _
  have bA : Hid (Blk (w.alloc (.cells #[.int .i64 kx, .int .i64 nx, .string tx, .string mx, .slice p ks.length cap, .slice pc 0 capc] 73)) w.heap.size #[.int .i64 kx, .int .i64 nx, .string tx, .string mx, .slice p ks.length cap, .slice pc 0 capc] 73) := Blk.new
  have HSET : Hid (SetAt w mb n S) := hset
  have hbd : bindsB kx ks.length = false := by simp [bindsB, k9]
  have HOK : Hid (∀ y ∈ ks, ∃ p deep, exOk d y p deep = true) := ok
  have hmb := hset.lt
  have k2b : (kx == 2) = false := by simpa using k2
  have k10b : (kx == 10) = false := by simpa using k10
  clear hv hcnt hset hts hl f0 f1 ok
  go_enter Tryz.func80, Tryz.ntmps80
  go_wp2_with fail
  refine (binds_any _ _ _ _ _ _ _ _ _ _ _).mono ?_
  rintro e w1 ⟨rfl, hw1⟩
  rw [hbd]
  have BB : Below (w.alloc (.cells #[.int .i64 kx, .int .i64 nx, .string tx, .string mx, .slice p ks.length cap, .slice pc 0 capc] 73)).heap.size (w.alloc (.cells #[.int .i64 kx, .int .i64 nx, .string tx, .string mx, .slice p ks.length cap, .slice pc 0 capc] 73)) w1 := by rw [hw1]; exact (Below.refl _ _).alloc (Nat.le_refl _) _
  have B1 : Hid (Below w.heap.size w w1) := BA.out.trans (BB.mono BA.out.size)
  have b1 : Hid (Blk w1 w.heap.size #[.int .i64 kx, .int .i64 nx, .string tx, .string mx, .slice p ks.length cap, .slice pc 0 capc] 73) := bA.out.next BB
  have x0 := b1.out.cell 0 _ rfl
  have x4 := b1.out.cell 4 _ rfl
  clear hw1 BB
  go_wp2_with fail
  refine (hO _ mb _ _ _ ks (F0.out _ (Off.of_below B1.out)) HOK.out (HSET.out.keep (B1.out.block mb hmb)) HCB.out).mono ?_
  rintro e w3 ⟨rfl, hs3, ho3⟩
  have M3 : Hid (SetAt w3 mb (n + nl) S2) := (hs3.iff HST.out).more HL.out
  have O3 : Hid (Off [mb] w w3) := (Off.of_below B1.out).trans ho3
  clear hs3 ho3
  go_wp2_with fail
  go_end0
  exact ⟨rfl, M3.out, O3.out⟩

theorem stepA_of {d : Nat} (hA : StA d) : StA (d + 1) := by
  intro w mb n S cs x pat deep h hok hset hcnt
  have hO := ofAll_of hA
  have hW := addWanted_of (wantedBy_of hO)
  obtain ⟨k, nx, tx, mx, ks, cl⟩ := x
  obtain ⟨h1, h2, h3, h4, h5, h6⟩ := exOk_parts hok
  have hks : ∀ y ∈ ks, ∃ p deep, exOk d y p deep = true := fun y hy => by
    obtain ⟨p, -, h⟩ := h5 y hy
    exact ⟨p, _, h⟩
  by_cases k2 : k = 2
  · subst k2
    obtain rfl := h2 rfl
    exact stepA_var w mb n S cs nx tx mx cl h hset hcnt
  by_cases k9 : k = 9
  · subst k9
    obtain ⟨a, b, rfl, ha, pb, hb⟩ := h3 rfl
    exact stepA_two hA w mb n S cs nx tx mx a b cl _ pb h ha hb hset hcnt
  by_cases k10 : k = 10
  · subst k10
    exact stepA_case hO hW w mb n S cs nx tx mx ks cl h hks (fun c hc => ⟨⟨_, (h6 c hc).1⟩, fun y hy => ⟨_, _, (h6 c hc).2 y hy⟩⟩) hset hcnt
  · obtain rfl := h1 k10
    exact stepA_else hO w mb n S cs k nx tx mx ks k2 k9 k10 h hks hset hcnt
theorem stepA_all : ∀ d, StA d
  | 0 => fun w mb n S cs x pat deep h _ _ _ => h.elim
  | d + 1 => stepA_of (stepA_all d)
theorem wantedBy_all (d : Nat) : WbC d := wantedBy_of (ofAll_of (stepA_all d))
end Go.Proofs.YtpkhblhcdnohmaaGreatDoor
/-
  The order of numbers and of texts: what the library's cmp and strings answer.
-/
namespace Go.Proofs.YtpkhblhcdnohmaaGreatDoor
open Go.ChangeShapes Go.WideShapes Go.ChangeAt Go.RowKit
set_option linter.unusedVariables false

def cmpI (a b : Int) : Int := if a < b then -1 else if b < a then 1 else 0
def cmpS (a b : ByteArray) : Int := Lib.compareBytes a.data.toList b.data.toList
theorem cmpI_lt {a b : Int} (h : a < b) : cmpI a b = -1 := if_pos h
theorem cmpI_gt {a b : Int} (h : b < a) : cmpI a b = 1 := by unfold cmpI; rw [if_neg (by omega), if_pos h]
theorem cmpI_self (a : Int) : cmpI a a = 0 := by unfold cmpI; rw [if_neg (by omega), if_neg (by omega)]

theorem compare_lt : ∀ {a b : List UInt8}, Op.bytesLess a b = true → Lib.compareBytes a b = -1
  | [], [], h => by simp [Op.bytesLess] at h
  | _ :: _, [], h => by simp [Op.bytesLess] at h
  | [], _ :: _, _ => rfl
  | x :: a, y :: b, h => by
    simp only [Op.bytesLess, Bool.or_eq_true, decide_eq_true_eq, Bool.and_eq_true, beq_iff_eq] at h
    unfold Lib.compareBytes
    rcases h with h | ⟨rfl, h⟩
    · rw [if_pos h]
    · rw [if_neg (UInt8.lt_irrefl _), if_neg (UInt8.lt_irrefl _)]; exact compare_lt h
theorem compare_self : ∀ (a : List UInt8), Lib.compareBytes a a = 0
  | [] => rfl
  | x :: a => by unfold Lib.compareBytes; rw [if_neg (UInt8.lt_irrefl _), if_neg (UInt8.lt_irrefl _)]; exact compare_self a
theorem compare_gt : ∀ {a b : List UInt8}, Op.bytesLess a b = false → a ≠ b → Lib.compareBytes a b = 1
  | [], [], _, h => absurd rfl h
  | _ :: _, [], _, _ => rfl
  | [], _ :: _, h, _ => by simp [Op.bytesLess] at h
  | x :: a, y :: b, h, hne => by
    simp only [Op.bytesLess, Bool.or_eq_false_iff, decide_eq_false_iff_not, Bool.and_eq_false_iff, beq_eq_false_iff_ne] at h
    unfold Lib.compareBytes
    rw [if_neg h.1]
    by_cases hxy : x = y
    · subst hxy
      rw [if_neg (UInt8.lt_irrefl _)]
      rcases h.2 with h2 | h2
      · exact absurd rfl h2
      · exact compare_gt h2 (fun e => hne (by rw [e]))
    · have : y < x := by
        rw [UInt8.lt_iff_toNat_lt] at h ⊢
        have : x.toNat ≠ y.toNat := fun e => hxy (UInt8.toNat_inj.1 e)
        omega
      rw [if_pos this]
theorem cmpS_lt {a b : ByteArray} (h : Op.bytesLess a.toList b.toList = true) : cmpS a b = -1 := by
  unfold cmpS; rw [ByteArray.toList_eq, ByteArray.toList_eq] at h; exact compare_lt h
theorem cmpS_gt {a b : ByteArray} (h : Op.bytesLess a.toList b.toList = false) (hne : a ≠ b) : cmpS a b = 1 := by
  unfold cmpS; rw [ByteArray.toList_eq, ByteArray.toList_eq] at h; exact compare_gt h (fun e => hne (bytes_inj e))
theorem cmpS_self (a : ByteArray) : cmpS a a = 0 := compare_self _
theorem bytesLess_self : ∀ (a : List UInt8), Op.bytesLess a a = false
  | [] => rfl
  | x :: a => by simp [Op.bytesLess, bytesLess_self a]

theorem isNaN_any (a : Int) (w : World) : Calls Tryz.prog 92 #[.int .i64 a] w fun e w' => e = .returned (.bool false) ∧ w' = w := by
  go_enter Tryz.func92, Tryz.ntmps92
  go_wp2
  go_ret
  exact ⟨rfl, rfl⟩

theorem cmpInt_any (a b : Int) (w : World) : Calls Tryz.prog 77 #[.int .i64 a, .int .i64 b] w fun e w' => e = .returned (.int .i64 (cmpI a b)) ∧ w' = w := by
  by_cases h1 : a < b
  · have HS : Hid (cmpI a b = -1) := cmpI_lt h1
    go_enter Tryz.func77, Tryz.ntmps77
    go_wp2_with (go_at_call 92; go_must (refine (isNaN_any _ _).mono ?_; rintro e w' ⟨rfl, rfl⟩))
    go_ret
    exact ⟨by rw [HS.out]; rfl, rfl⟩
  by_cases h2 : b < a
  · have HS : Hid (cmpI a b = 1) := cmpI_gt h2
    go_enter Tryz.func77, Tryz.ntmps77
    go_wp2_with (go_at_call 92; go_must (refine (isNaN_any _ _).mono ?_; rintro e w' ⟨rfl, rfl⟩))
    go_ret
    exact ⟨by rw [HS.out]; rfl, rfl⟩
  obtain rfl : a = b := by omega
  have HS : Hid (cmpI a a = 0) := cmpI_self a
  go_enter Tryz.func77, Tryz.ntmps77
  go_wp2_with (go_at_call 92; go_must (refine (isNaN_any _ _).mono ?_; rintro e w' ⟨rfl, rfl⟩))
  go_ret
  exact ⟨by rw [HS.out]; rfl, rfl⟩

set_option maxRecDepth 100000 in
theorem compareString_any (a b : ByteArray) (w : World) :
    Calls Tryz.prog 91 #[.string a, .string b] w fun e w' => e = .returned (.int .i64 (cmpS a b)) ∧ w' = w := by
  go_enter Tryz.func91, Tryz.ntmps91
  go_wp2
  rw [run_callFunc_extern Tryz.func104 (by kernel_rfl) (by kernel_rfl) (by kernel_rfl) (e := Extern.BytealgCompare.compare) (by kernel_rfl), Lib.run_compareString]
  simp only [Result.andThen]
  rw [Oper.upon_value]
  go_wp2
  go_ret
  exact ⟨rfl, rfl⟩

theorem stringsCompare_any (a b : ByteArray) (w : World) :
    Calls Tryz.prog 76 #[.string a, .string b] w fun e w' => e = .returned (.int .i64 (cmpS a b)) ∧ w' = w := by
  go_enter Tryz.func76, Tryz.ntmps76
  go_wp2_with (go_at_call 91; go_must (refine (compareString_any _ _ _).mono ?_; rintro e w' ⟨rfl, rfl⟩))
  go_ret
  exact ⟨rfl, rfl⟩

/-- The first of two that is not 0. -/
def or2 (a b : Int) : Int := if a = 0 then b else a

theorem cmpOr2_any (a b : Int) (g : Nat) (w : World) (h0 : w.cell? ⟨g, 0, none⟩ = some (.int .i64 a)) (h1 : w.cell? ⟨g, 1, none⟩ = some (.int .i64 b)) :
    Calls Tryz.prog 75 #[.slice (some ⟨g, 0, none⟩) 2 2] w fun e w' => e = .returned (.int .i64 (or2 a b)) ∧ w' = w := by
  go_enter Tryz.func75, Tryz.ntmps75
  go_wp2
  go_loopw [8] (fun iv wr => ∃ k : Nat, k ≤ 2 ∧ iv = .int .i64 k ∧ (1 ≤ k → a = 0) ∧ (2 ≤ k → b = 0) ∧ wr = w) (fun iv _ => 2 - (intOf iv).toNat)
  case atStart => exact ⟨0, by omega, rfl, fun h => by omega, fun h => by omega, rfl⟩
  case round =>
    obtain ⟨k, hk, rfl, e0, e1, rfl⟩ := hrel
    match k, hk with
    | 0, _ =>
      by_cases hz : a = 0
      · go_wp2
        exact ⟨⟨1, by omega, by go_num, fun _ => hz, fun h => by omega, (by first | rfl | trivial)⟩, by simp [intOf]⟩
      · have HS : Hid (or2 a b = a) := if_neg hz
        go_wp2
        go_ret
        exact ⟨by rw [HS.out]; rfl, rfl⟩
    | 1, _ =>
      have z0 := e0 (by omega)
      by_cases hz : b = 0
      · go_wp2
        exact ⟨⟨2, by omega, by go_num, fun _ => z0, fun _ => hz, (by first | rfl | trivial)⟩, by simp [intOf]⟩
      · have HS : Hid (or2 a b = b) := by show _ = _; unfold or2; rw [if_pos z0]
        go_wp2
        go_ret
        exact ⟨by rw [HS.out]; rfl, rfl⟩
    | 2, _ =>
      have HS : Hid (or2 a b = 0) := by show _ = _; unfold or2; rw [if_pos (e0 (by omega)), e1 (by omega)]
      go_wp2
      go_ret
      exact ⟨by rw [HS.out]; rfl, rfl⟩
    | k + 3, hk => omega
end Go.Proofs.YtpkhblhcdnohmaaGreatDoor
/-
  The program's ModuleOk, by contract: an expression's own parts.
-/
namespace Go.Proofs.YtpkhblhcdnohmaaGreatDoor
open Go.ChangeShapes Go.WideShapes Go.ChangeAt Go.RowKit
set_option linter.unusedVariables false

/-- The table of what a kind has lies as its initialiser lays it. -/
def ShapesAt (w : World) : Prop :=
  ∀ k : Nat, k < 11 → w.cell? ⟨2, k * 5, none⟩ = some (.int .i64 (txtK k)) ∧ w.cell? ⟨2, k * 5 + 1, none⟩ = some (.int .i64 (kidLo k)) ∧ w.cell? ⟨2, k * 5 + 2, none⟩ = some (.int .i64 (kidHi k)) ∧
    w.cell? ⟨2, k * 5 + 3, none⟩ = some (.int .i64 (clsLo k)) ∧ w.cell? ⟨2, k * 5 + 4, none⟩ = some (.int .i64 (clsHi k))
structure Tabs (w : World) : Prop where
  keys : KeysAt w
  shapes : ShapesAt w
theorem Tabs.below {w w' : World} (h : Tabs w) (hb : Below w.heap.size w w') : Tabs w' :=
  ⟨⟨cell_next hb h.keys.1, cell_next hb h.keys.2.1, cell_next hb h.keys.2.2⟩, fun k hk => by
    obtain ⟨a, b, c, d, e⟩ := h.shapes k hk
    exact ⟨cell_next hb a, cell_next hb b, cell_next hb c, cell_next hb d, cell_next hb e⟩⟩

theorem withinM_any (a b c : Int) (w : World) : Calls Tryz.prog 61 #[.int .i64 a, .int .i64 b, .int .i64 c] w fun e w' => e = .returned (.bool (inB a b c)) ∧ w' = w := by
  by_cases h1 : b ≤ a <;> by_cases h2 : a ≤ c
  all_goals
    go_enter Tryz.func61, Tryz.ntmps61
    go_wp2
    go_ret
    exact ⟨by simp [inB, h1, h2], rfl⟩

theorem isOp_any (t : ByteArray) (w : World) : Calls Tryz.prog 116 #[.string t] w fun e w' => e = .returned (.bool (opB t)) ∧ w' = w := by
  cases h0 : (t.toList == [61, 61]) <;> cases h1 : (t.toList == [60]) <;> cases h2 : (t.toList == [43]) <;> cases h3 : (t.toList == [45]) <;> cases h4 : (t.toList == [42])
  all_goals
    go_enter Tryz.func116, Tryz.ntmps116
    go_wp2
    go_ret
    exact ⟨by simp [opB, h0, h1, h2, h3, h4], rfl⟩

theorem textOk_any (k : Int) (t : ByteArray) (w : World) (hts : t.size ≤ maxLen) (hk : KeysAt w) : Calls Tryz.prog 114 #[.int .i64 k, .string t] w fun e w' => e = .returned (.bool (tkB k t)) ∧ w' = w := by
  have HK : Hid (KeysAt w) := hk
  clear hk
  by_cases k1 : k = 1
  · subst k1
    go_enter Tryz.func114, Tryz.ntmps114
    go_wp2_with (go_at_call 40; go_must (refine (implAtomOk_any _ _ hts HK.out).mono ?_; rintro e w' ⟨rfl, rfl⟩))
    go_ret
    exact ⟨by simp [tkB], rfl⟩
  by_cases k2 : k = 2
  · subst k2
    go_enter Tryz.func114, Tryz.ntmps114
    go_wp2_with (go_at_call 115; go_must (refine (implVarOk_any _ _ hts).mono ?_; rintro e w' ⟨rfl, rfl⟩))
    go_ret
    exact ⟨by simp [tkB], rfl⟩
  by_cases k3 : k = 3
  · subst k3
    go_enter Tryz.func114, Tryz.ntmps114
    go_wp2_with (go_at_call 116; go_must (refine (isOp_any _ _).mono ?_; rintro e w' ⟨rfl, rfl⟩))
    go_ret
    exact ⟨by simp [tkB], rfl⟩
  · have HS : Hid (tkB k t = t.toList.isEmpty) := by show _ = _; rw [Bool.eq_iff_iff]; simp [tkB, k1, k2, k3]
    go_enter Tryz.func114, Tryz.ntmps114
    go_wp2
    go_ret
    exact ⟨by rw [HS.out]; rfl, rfl⟩

theorem numberOk_any (k n : Int) (t m : ByteArray) (p q : Option Addr) (nk c nc c' : Nat) (w : World) : Calls Tryz.prog 112 #[.agg #[.int .i64 k, .int .i64 n, .string t, .string m, .slice p nk c, .slice q nc c']] w fun e w' => e = .returned (.bool (numB k n)) ∧ Below w.heap.size w w' := by
  have BL : Hid (Below w.heap.size w (w.alloc (.cells #[.int .i64 k, .int .i64 n, .string t, .string m, .slice p nk c, .slice q nc c'] 73))) := (Below.refl _ _).alloc (Nat.le_refl _) _
  by_cases k0 : k = 0
  · subst k0
    go_enter Tryz.func112, Tryz.ntmps112
    go_wp2_with (go_at_call 61; go_must (refine (withinM_any _ _ _ _).mono ?_; rintro e w' ⟨rfl, rfl⟩))
    go_ret
    exact ⟨by simp [numB], BL.out⟩
  · have HS : Hid (numB k n = (n == 0)) := by show _ = _; rw [Bool.eq_iff_iff]; simp [numB, k0]
    go_enter Tryz.func112, Tryz.ntmps112
    go_wp2
    go_ret
    exact ⟨by rw [HS.out]; rfl, BL.out⟩

theorem modOk_any (k n : Int) (t m : ByteArray) (p q : Option Addr) (nk c nc c' : Nat) (w : World) (hms : m.size ≤ maxLen) (hk : KeysAt w) : Calls Tryz.prog 113 #[.agg #[.int .i64 k, .int .i64 n, .string t, .string m, .slice p nk c, .slice q nc c']] w fun e w' => e = .returned (.bool (modB k m)) ∧ Below w.heap.size w w' := by
  have BL : Hid (Below w.heap.size w (w.alloc (.cells #[.int .i64 k, .int .i64 n, .string t, .string m, .slice p nk c, .slice q nc c'] 73))) := (Below.refl _ _).alloc (Nat.le_refl _) _
  have HK : Hid (KeysAt (w.alloc (.cells #[.int .i64 k, .int .i64 n, .string t, .string m, .slice p nk c, .slice q nc c'] 73))) := ⟨cell_next BL.out hk.1, cell_next BL.out hk.2.1, cell_next BL.out hk.2.2⟩
  clear hk
  by_cases hm : m.toList = []
  · have hm2 : (m.toList == []) = true := by simpa using hm
    have HS : Hid (modB k m = true) := by show _ = _; simp [modB, hm]
    clear hm
    go_enter Tryz.func113, Tryz.ntmps113
    go_wp2
    go_ret
    exact ⟨by rw [HS.out]; rfl, BL.out⟩
  · have hm2 : (m.toList == []) = false := by simpa using hm
    by_cases k8 : k = 8
    · subst k8
      have HS : Hid (modB 8 m = atomB m) := by show _ = _; simp [modB, hm]
      clear hm
      go_enter Tryz.func113, Tryz.ntmps113
      go_wp2_with (go_at_call 40; go_must (refine (implAtomOk_any _ _ hms HK.out).mono ?_; rintro e w' ⟨rfl, rfl⟩))
      go_ret
      exact ⟨by rw [HS.out]; rfl, BL.out⟩
    · have HS : Hid (modB k m = false) := by show _ = _; simp [modB, hm, k8]
      clear hm
      go_enter Tryz.func113, Tryz.ntmps113
      go_wp2
      go_ret
      exact ⟨by rw [HS.out]; rfl, BL.out⟩

set_option maxHeartbeats 8000000 in
set_option maxRecDepth 100000 in
theorem partsOk_any (k n : Int) (t m : ByteArray) (p q : Option Addr) (nk c nc c' : Nat) (w : World) (hts : t.size ≤ maxLen) (hms : m.size ≤ maxLen) (hnk : nk ≤ 9223372036854775807) (hnc : nc ≤ 9223372036854775807) (hT : Tabs w) :
    Calls Tryz.prog 109 #[.agg #[.int .i64 k, .int .i64 n, .string t, .string m, .slice p nk c, .slice q nc c']] w fun e w' => e = .returned (.bool (plainB k n t m nk nc)) ∧ Below w.heap.size w w' := by
  have HT : Hid (Tabs w) := hT
  clear hT
  by_cases hr : 0 ≤ k ∧ k ≤ 10
  · obtain ⟨kn, rfl⟩ : ∃ kn : Nat, k = kn := ⟨k.toNat, by omega⟩
    have hkn : kn < 11 := by omega
    have hki : (kn : Int) < 11 := by omega
    have hk0 : (0 : Int) ≤ (kn : Int) := by omega
    have hin : inB (kn : Int) 0 10 = true := by simp [inB]; omega
    clear hr
    have BL : Hid (Below w.heap.size w (w.alloc (.cells #[.int .i64 (kn : Int), .int .i64 n, .string t, .string m, .slice p nk c, .slice q nc c'] 73))) := (Below.refl _ _).alloc (Nat.le_refl _) _
    have BM : Hid (Below w.heap.size w ((w.alloc (.cells #[.int .i64 (kn : Int), .int .i64 n, .string t, .string m, .slice p nk c, .slice q nc c'] 73)).alloc (.cells #[.int .i64 (txtK kn), .int .i64 (kidLo kn), .int .i64 (kidHi kn), .int .i64 (clsLo kn), .int .i64 (clsHi kn)] 142))) := BL.out.alloc BL.out.size _
    obtain ⟨s0, s1, s2, s3, s4⟩ := (HT.out.below BL.out).shapes kn hkn
    have HP : Hid (plainB kn n t m nk nc = (numB kn n && (modB kn m && (tkB (txtK kn) t && (inB nk (kidLo kn) (kidHi kn) && inB nc (clsLo kn) (clsHi kn)))))) := by show _ = _; simp [plainB, hin, txtB]
    cases h1 : numB kn n with
    | false =>
      go_enter Tryz.func109, Tryz.ntmps109
      go_wp2_with (first | (go_at_call 61; go_must (refine (withinM_any _ _ _ _).mono ?_; rintro e w9 ⟨rfl, rfl⟩; rw [hin])))
      refine (numberOk_any _ _ _ _ _ _ _ _ _ _ _).mono ?_
      rintro e w2 ⟨rfl, hb2⟩
      rw [h1]
      have B2 : Hid (Below w.heap.size w w2) := BM.out.trans (hb2.mono BM.out.size)
      go_wp2
      go_ret
      exact ⟨by rw [HP.out, h1]; simp, B2.out⟩
    | true =>
      cases h2 : modB kn m with
      | false =>
        go_enter Tryz.func109, Tryz.ntmps109
        go_wp2_with (first | (go_at_call 61; go_must (refine (withinM_any _ _ _ _).mono ?_; rintro e w9 ⟨rfl, rfl⟩; rw [hin])))
        refine (numberOk_any _ _ _ _ _ _ _ _ _ _ _).mono ?_
        rintro e w2 ⟨rfl, hb2⟩
        rw [h1]
        have B2 : Hid (Below w.heap.size w w2) := BM.out.trans (hb2.mono BM.out.size)
        have g1 : Hid (Blk w2 w.heap.size #[.int .i64 (kn : Int), .int .i64 n, .string t, .string m, .slice p nk c, .slice q nc c'] 73) := ((Blk.new (w := w)).alloc).next hb2
        have g2 : Hid (Blk w2 (w.heap.size + 1) #[.int .i64 (txtK kn), .int .i64 (kidLo kn), .int .i64 (kidHi kn), .int .i64 (clsLo kn), .int .i64 (clsHi kn)] 142) := by
          have := (Blk.new (w := (w.alloc (.cells #[.int .i64 (kn : Int), .int .i64 n, .string t, .string m, .slice p nk c, .slice q nc c'] 73))) (cs := #[.int .i64 (txtK kn), .int .i64 (kidLo kn), .int .i64 (kidHi kn), .int .i64 (clsLo kn), .int .i64 (clsHi kn)]) (t := 142)).next hb2
          simp only [alloc_hs] at this
          exact this
        have a0 := g1.out.cell 0 _ rfl
        have a1 := g1.out.cell 1 _ rfl
        have a2 := g1.out.cell 2 _ rfl
        have a3 := g1.out.cell 3 _ rfl
        have a4 := g1.out.cell 4 _ rfl
        have a5 := g1.out.cell 5 _ rfl
        clear hb2 s0 s1 s2 s3 s4
        go_wp2_with fail
        refine (modOk_any _ _ _ _ _ _ _ _ _ _ _ hms (HT.out.below B2.out).keys).mono ?_
        rintro e w3 ⟨rfl, hb3⟩
        rw [h2]
        have B3 : Hid (Below w.heap.size w w3) := B2.out.trans (hb3.mono B2.out.size)
        go_wp2
        go_ret
        exact ⟨by rw [HP.out, h1, h2]; simp, B3.out⟩
      | true =>
        cases h3 : tkB (txtK kn) t with
        | false =>
          go_enter Tryz.func109, Tryz.ntmps109
          go_wp2_with (first | (go_at_call 61; go_must (refine (withinM_any _ _ _ _).mono ?_; rintro e w9 ⟨rfl, rfl⟩; rw [hin])))
          refine (numberOk_any _ _ _ _ _ _ _ _ _ _ _).mono ?_
          rintro e w2 ⟨rfl, hb2⟩
          rw [h1]
          have B2 : Hid (Below w.heap.size w w2) := BM.out.trans (hb2.mono BM.out.size)
          have g1 : Hid (Blk w2 w.heap.size #[.int .i64 (kn : Int), .int .i64 n, .string t, .string m, .slice p nk c, .slice q nc c'] 73) := ((Blk.new (w := w)).alloc).next hb2
          have g2 : Hid (Blk w2 (w.heap.size + 1) #[.int .i64 (txtK kn), .int .i64 (kidLo kn), .int .i64 (kidHi kn), .int .i64 (clsLo kn), .int .i64 (clsHi kn)] 142) := by
            have := (Blk.new (w := (w.alloc (.cells #[.int .i64 (kn : Int), .int .i64 n, .string t, .string m, .slice p nk c, .slice q nc c'] 73))) (cs := #[.int .i64 (txtK kn), .int .i64 (kidLo kn), .int .i64 (kidHi kn), .int .i64 (clsLo kn), .int .i64 (clsHi kn)]) (t := 142)).next hb2
            simp only [alloc_hs] at this
            exact this
          have a0 := g1.out.cell 0 _ rfl
          have a1 := g1.out.cell 1 _ rfl
          have a2 := g1.out.cell 2 _ rfl
          have a3 := g1.out.cell 3 _ rfl
          have a4 := g1.out.cell 4 _ rfl
          have a5 := g1.out.cell 5 _ rfl
          clear hb2 s0 s1 s2 s3 s4
          go_wp2_with fail
          refine (modOk_any _ _ _ _ _ _ _ _ _ _ _ hms (HT.out.below B2.out).keys).mono ?_
          rintro e w3 ⟨rfl, hb3⟩
          rw [h2]
          have B3 : Hid (Below w.heap.size w w3) := B2.out.trans (hb3.mono B2.out.size)
          have g3 := g1.out.next hb3
          have g4 := g2.out.next hb3
          clear a0 a1 a2 a3 a4 a5
          have a0 := g3.cell 0 _ rfl
          have a1 := g3.cell 1 _ rfl
          have a2 := g3.cell 2 _ rfl
          have a3 := g3.cell 3 _ rfl
          have a4 := g3.cell 4 _ rfl
          have a5 := g3.cell 5 _ rfl
          have b0 := g4.cell 0 _ rfl
          have b1 := g4.cell 1 _ rfl
          have b2 := g4.cell 2 _ rfl
          have b3 := g4.cell 3 _ rfl
          have b4 := g4.cell 4 _ rfl
          clear hb3 g3 g4
          go_wp2_with (first | (go_at_call 114; go_must (refine (textOk_any _ _ _ hts (HT.out.below B3.out).keys).mono ?_; rintro e w9 ⟨rfl, rfl⟩; rw [h3])))
          go_ret
          exact ⟨by rw [HP.out, h1, h2, h3]; simp, B3.out⟩
        | true =>
          cases h4 : inB nk (kidLo kn) (kidHi kn) with
          | false =>
            go_enter Tryz.func109, Tryz.ntmps109
            go_wp2_with (first | (go_at_call 61; go_must (refine (withinM_any _ _ _ _).mono ?_; rintro e w9 ⟨rfl, rfl⟩; rw [hin])))
            refine (numberOk_any _ _ _ _ _ _ _ _ _ _ _).mono ?_
            rintro e w2 ⟨rfl, hb2⟩
            rw [h1]
            have B2 : Hid (Below w.heap.size w w2) := BM.out.trans (hb2.mono BM.out.size)
            have g1 : Hid (Blk w2 w.heap.size #[.int .i64 (kn : Int), .int .i64 n, .string t, .string m, .slice p nk c, .slice q nc c'] 73) := ((Blk.new (w := w)).alloc).next hb2
            have g2 : Hid (Blk w2 (w.heap.size + 1) #[.int .i64 (txtK kn), .int .i64 (kidLo kn), .int .i64 (kidHi kn), .int .i64 (clsLo kn), .int .i64 (clsHi kn)] 142) := by
              have := (Blk.new (w := (w.alloc (.cells #[.int .i64 (kn : Int), .int .i64 n, .string t, .string m, .slice p nk c, .slice q nc c'] 73))) (cs := #[.int .i64 (txtK kn), .int .i64 (kidLo kn), .int .i64 (kidHi kn), .int .i64 (clsLo kn), .int .i64 (clsHi kn)]) (t := 142)).next hb2
              simp only [alloc_hs] at this
              exact this
            have a0 := g1.out.cell 0 _ rfl
            have a1 := g1.out.cell 1 _ rfl
            have a2 := g1.out.cell 2 _ rfl
            have a3 := g1.out.cell 3 _ rfl
            have a4 := g1.out.cell 4 _ rfl
            have a5 := g1.out.cell 5 _ rfl
            clear hb2 s0 s1 s2 s3 s4
            go_wp2_with fail
            refine (modOk_any _ _ _ _ _ _ _ _ _ _ _ hms (HT.out.below B2.out).keys).mono ?_
            rintro e w3 ⟨rfl, hb3⟩
            rw [h2]
            have B3 : Hid (Below w.heap.size w w3) := B2.out.trans (hb3.mono B2.out.size)
            have g3 := g1.out.next hb3
            have g4 := g2.out.next hb3
            clear a0 a1 a2 a3 a4 a5
            have a0 := g3.cell 0 _ rfl
            have a1 := g3.cell 1 _ rfl
            have a2 := g3.cell 2 _ rfl
            have a3 := g3.cell 3 _ rfl
            have a4 := g3.cell 4 _ rfl
            have a5 := g3.cell 5 _ rfl
            have b0 := g4.cell 0 _ rfl
            have b1 := g4.cell 1 _ rfl
            have b2 := g4.cell 2 _ rfl
            have b3 := g4.cell 3 _ rfl
            have b4 := g4.cell 4 _ rfl
            clear hb3 g3 g4
            go_wp2_with (first | (go_at_call 114; go_must (refine (textOk_any _ _ _ hts (HT.out.below B3.out).keys).mono ?_; rintro e w9 ⟨rfl, rfl⟩; rw [h3])) | (go_at_call_of 61 (kidLo kn); go_must (refine (withinM_any _ _ _ _).mono ?_; rintro e w9 ⟨rfl, rfl⟩; rw [h4])))
            go_ret
            exact ⟨by rw [HP.out, h1, h2, h3, h4]; simp, B3.out⟩
          | true =>
            go_enter Tryz.func109, Tryz.ntmps109
            go_wp2_with (first | (go_at_call 61; go_must (refine (withinM_any _ _ _ _).mono ?_; rintro e w9 ⟨rfl, rfl⟩; rw [hin])))
            refine (numberOk_any _ _ _ _ _ _ _ _ _ _ _).mono ?_
            rintro e w2 ⟨rfl, hb2⟩
            rw [h1]
            have B2 : Hid (Below w.heap.size w w2) := BM.out.trans (hb2.mono BM.out.size)
            have g1 : Hid (Blk w2 w.heap.size #[.int .i64 (kn : Int), .int .i64 n, .string t, .string m, .slice p nk c, .slice q nc c'] 73) := ((Blk.new (w := w)).alloc).next hb2
            have g2 : Hid (Blk w2 (w.heap.size + 1) #[.int .i64 (txtK kn), .int .i64 (kidLo kn), .int .i64 (kidHi kn), .int .i64 (clsLo kn), .int .i64 (clsHi kn)] 142) := by
              have := (Blk.new (w := (w.alloc (.cells #[.int .i64 (kn : Int), .int .i64 n, .string t, .string m, .slice p nk c, .slice q nc c'] 73))) (cs := #[.int .i64 (txtK kn), .int .i64 (kidLo kn), .int .i64 (kidHi kn), .int .i64 (clsLo kn), .int .i64 (clsHi kn)]) (t := 142)).next hb2
              simp only [alloc_hs] at this
              exact this
            have a0 := g1.out.cell 0 _ rfl
            have a1 := g1.out.cell 1 _ rfl
            have a2 := g1.out.cell 2 _ rfl
            have a3 := g1.out.cell 3 _ rfl
            have a4 := g1.out.cell 4 _ rfl
            have a5 := g1.out.cell 5 _ rfl
            clear hb2 s0 s1 s2 s3 s4
            go_wp2_with fail
            refine (modOk_any _ _ _ _ _ _ _ _ _ _ _ hms (HT.out.below B2.out).keys).mono ?_
            rintro e w3 ⟨rfl, hb3⟩
            rw [h2]
            have B3 : Hid (Below w.heap.size w w3) := B2.out.trans (hb3.mono B2.out.size)
            have g3 := g1.out.next hb3
            have g4 := g2.out.next hb3
            clear a0 a1 a2 a3 a4 a5
            have a0 := g3.cell 0 _ rfl
            have a1 := g3.cell 1 _ rfl
            have a2 := g3.cell 2 _ rfl
            have a3 := g3.cell 3 _ rfl
            have a4 := g3.cell 4 _ rfl
            have a5 := g3.cell 5 _ rfl
            have b0 := g4.cell 0 _ rfl
            have b1 := g4.cell 1 _ rfl
            have b2 := g4.cell 2 _ rfl
            have b3 := g4.cell 3 _ rfl
            have b4 := g4.cell 4 _ rfl
            clear hb3 g3 g4
            go_wp2_with (first | (go_at_call 114; go_must (refine (textOk_any _ _ _ hts (HT.out.below B3.out).keys).mono ?_; rintro e w9 ⟨rfl, rfl⟩; rw [h3])) | (go_at_call_of 61 (kidLo kn); go_must (refine (withinM_any _ _ _ _).mono ?_; rintro e w9 ⟨rfl, rfl⟩; rw [h4])) | (go_at_call_of 61 (clsLo kn); go_must (refine (withinM_any _ _ _ _).mono ?_; rintro e w9 ⟨rfl, rfl⟩)))
            go_ret
            exact ⟨by rw [HP.out, h1, h2, h3, h4]; simp, B3.out⟩
  · have hin : inB k 0 10 = false := by simp [inB]; omega
    have BL : Hid (Below w.heap.size w (w.alloc (.cells #[.int .i64 k, .int .i64 n, .string t, .string m, .slice p nk c, .slice q nc c'] 73))) := (Below.refl _ _).alloc (Nat.le_refl _) _
    clear hr
    go_enter Tryz.func109, Tryz.ntmps109
    go_wp2_with (first | (go_at_call 61; go_must (refine (withinM_any _ _ _ _).mono ?_; rintro e w9 ⟨rfl, rfl⟩; rw [hin])))
    go_ret
    exact ⟨by simp [plainB, hin], BL.out⟩
end Go.Proofs.YtpkhblhcdnohmaaGreatDoor
/-
  The program's and the specification's ModuleOk, by contract: names with their numbers.
-/
namespace Go.Proofs.YtpkhblhcdnohmaaGreatDoor
open Go.ChangeShapes Go.WideShapes Go.ChangeAt Go.RowKit
set_option linter.unusedVariables false

def cmpRf (a b : Rf) : Int := or2 (cmpS a.name b.name) (cmpI a.arity b.arity)
def lessB (a b : Rf) : Bool := decide (cmpRf a b < 0)
def refB (r : Rf) : Bool := atomB r.name && inB r.arity 0 6
def sameR (r : Rf) (f : Fn') : Bool := f.name.toList == r.name.toList && f.arity == r.arity

set_option maxHeartbeats 2000000 in
theorem l02Less_any (a b : Rf) (w : World) : Calls Tryz.prog 31 #[.agg #[.string a.name, .int .i64 a.arity], .agg #[.string b.name, .int .i64 b.arity]] w fun e w' => e = .returned (.bool (lessB a b)) ∧ Below w.heap.size w w' := by
  obtain ⟨s, m⟩ := a
  obtain ⟨t, n⟩ := b
  have BL : Hid (Below w.heap.size w ((w.alloc (.cells #[.string s, .int .i64 m] 50)).alloc (.cells #[.string t, .int .i64 n] 50))) := ((Below.refl _ _).alloc (Nat.le_refl _) _).alloc (by simp) _
  simp only
  cases hb : Op.bytesLess s.toList t.toList with
  | true =>
    have HS : Hid (lessB ⟨s, m⟩ ⟨t, n⟩ = true) := by show _ = _; simp [lessB, cmpRf, or2, cmpS_lt hb]
    go_enter Tryz.func31, Tryz.ntmps31
    go_wp2
    go_ret
    exact ⟨by rw [HS.out]; rfl, BL.out⟩
  | false =>
    by_cases he : s = t
    · subst he
      have HS : Hid (lessB ⟨s, m⟩ ⟨s, n⟩ = decide (m < n)) := by
        show _ = _
        simp only [lessB, cmpRf, or2, cmpS_self, if_true, cmpI]
        by_cases h1 : m < n
        · simp [h1]
        · by_cases h2 : n < m <;> simp [h1, h2]
      go_enter Tryz.func31, Tryz.ntmps31
      go_wp2
      go_ret
      exact ⟨by rw [HS.out]; rfl, BL.out⟩
    · have HS : Hid (lessB ⟨s, m⟩ ⟨t, n⟩ = false) := by show _ = _; simp [lessB, cmpRf, or2, cmpS_gt hb he]
      have hq1 := str_ne he
      have hq2 := str_neB he
      go_enter Tryz.func31, Tryz.ntmps31
      go_wp2
      go_ret
      exact ⟨by rw [HS.out]; rfl, BL.out⟩

set_option maxHeartbeats 4000000 in
theorem compareRef_any (a b : Rf) (w : World) : Calls Tryz.prog 60 #[.agg #[.string a.name, .int .i64 a.arity], .agg #[.string b.name, .int .i64 b.arity]] w fun e w' => e = .returned (.int .i64 (cmpRf a b)) ∧ Below w.heap.size w w' := by
  obtain ⟨s, m⟩ := a
  obtain ⟨t, n⟩ := b
  simp only
  obtain ⟨W2, hW2⟩ : ∃ W2, W2 = (w.alloc (.cells #[.string s, .int .i64 m] 50)).alloc (.cells #[.string t, .int .i64 n] 50) := ⟨_, rfl⟩
  have bA : Hid (Blk W2 w.heap.size #[.string s, .int .i64 m] 50) := by show Blk _ _ _ _; rw [hW2]; exact Blk.new.alloc
  have bB : Hid (Blk W2 (w.heap.size + 1) #[.string t, .int .i64 n] 50) := by
    show Blk _ _ _ _
    rw [hW2]
    have := Blk.new (w := w.alloc (.cells #[.string s, .int .i64 m] 50)) (cs := #[.string t, .int .i64 n]) (t := 50)
    rwa [alloc_hs] at this
  have HAL : Hid (Below w.heap.size w W2) := by show Below _ _ _; rw [hW2]; exact ((Below.refl _ _).alloc (Nat.le_refl _) _).alloc (by simp) _
  have HW2 : Hid (W2 = (w.alloc (.cells #[.string s, .int .i64 m] 50)).alloc (.cells #[.string t, .int .i64 n] 50)) := hW2
  clear hW2
  have a0 := bA.out.cell 0 _ rfl
  have a1 := bA.out.cell 1 _ rfl
  have b0 := bB.out.cell 0 _ rfl
  have b1 := bB.out.cell 1 _ rfl
  generalize ho : or2 (cmpS s t) (cmpI m n) = o
  have HO : Hid (or2 (cmpS s t) (cmpI m n) = o) := ho
  have HS : Hid (cmpRf ⟨s, m⟩ ⟨t, n⟩ = o) := ho
  clear ho
  go_enter Tryz.func60, Tryz.ntmps60
  go_wp2_with fail
  rw [← HW2.out]
  go_region_held3 (fun w' => w'.cell? ⟨w.heap.size, 0, none⟩ = some (.string s) ∧ w'.cell? ⟨w.heap.size, 1, none⟩ = some (.int .i64 m) ∧ w'.cell? ⟨w.heap.size + 1, 0, none⟩ = some (.string t) ∧ w'.cell? ⟨w.heap.size + 1, 1, none⟩ = some (.int .i64 n))
    (first | go_keep)
    (first
      | (go_at_call 77; refine (cmpInt_any _ _ _).mono ?_; rintro e w' ⟨rfl, rfl⟩)
      | (go_at_call 76; refine (stringsCompare_any _ _ _).mono ?_; rintro e w' ⟨rfl, rfl⟩)
      | (go_at_call 75; refine (cmpOr2_any (cmpS s t) (cmpI m n) _ _ (by exact cell_new _ _ _ 0 _ rfl) (by exact cell_new _ _ _ 1 _ rfl)).mono ?_; rintro e w' ⟨rfl, rfl⟩; rw [HO.out]))
  go_split_ands
  have K3 : Below W2.heap.size W2 ((W2.alloc (.cells #[.int .i64 (cmpS s t), .int .i64 (cmpI m n)] 3)).drew) := ((Below.refl _ _).alloc (Nat.le_refl _) _).drew
  have HB3 : Hid (Below w.heap.size w ((W2.alloc (.cells #[.int .i64 (cmpS s t), .int .i64 (cmpI m n)] 3)).drew)) := HAL.out.trans (K3.mono HAL.out.size)
  clear K3
  go_wp2
  go_ret
  exact ⟨by rw [HS.out]; rfl, HB3.out⟩

theorem refOk_any (r : Rf) (w : World) (hs : r.name.size ≤ maxLen) (hk : KeysAt w) : Calls Tryz.prog 59 #[.agg #[.string r.name, .int .i64 r.arity]] w fun e w' => e = .returned (.bool (refB r)) ∧ Below w.heap.size w w' := by
  obtain ⟨s, n⟩ := r
  simp only at *
  have BL : Hid (Below w.heap.size w (w.alloc (.cells #[.string s, .int .i64 n] 50))) := (Below.refl _ _).alloc (Nat.le_refl _) _
  have HK : Hid (KeysAt (w.alloc (.cells #[.string s, .int .i64 n] 50))) := ⟨cell_next BL.out hk.1, cell_next BL.out hk.2.1, cell_next BL.out hk.2.2⟩
  clear hk
  cases ha : atomB s with
  | true =>
    go_enter Tryz.func59, Tryz.ntmps59
    go_wp2_with (first | (go_at_call 40; go_must (refine (implAtomOk_any _ _ hs HK.out).mono ?_; rintro e w' ⟨rfl, rfl⟩; rw [ha])) | (go_at_call 61; go_must (refine (withinM_any _ _ _ _).mono ?_; rintro e w' ⟨rfl, rfl⟩)))
    go_ret
    exact ⟨by simp [refB, ha], BL.out⟩
  | false =>
    go_enter Tryz.func59, Tryz.ntmps59
    go_wp2_with (first | (go_at_call 40; go_must (refine (implAtomOk_any _ _ hs HK.out).mono ?_; rintro e w' ⟨rfl, rfl⟩; rw [ha])))
    go_ret
    exact ⟨by simp [refB, ha], BL.out⟩

theorem refOf_any (s : ByteArray) (n : Int) (p : Option Addr) (l c : Nat) (w : World) : Calls Tryz.prog 22 #[.agg #[.string s, .int .i64 n, .slice p l c]] w fun e w' => e = .returned (.agg #[.string s, .int .i64 n]) ∧ Below w.heap.size w w' := by
  go_enter Tryz.func22, Tryz.ntmps22
  go_wp2
  refine bodyPost_ret (v := .agg #[.string s, .int .i64 n]) (by simp [results, Tryz.results22, go_sem]) rfl ⟨rfl, ?_⟩
  first | exact (Below.refl _ _).alloc (Nat.le_refl _) _ | exact ((Below.refl _ _).alloc (Nat.le_refl _) _).alloc (by simp) _ | exact ((((Below.refl _ _).alloc (Nat.le_refl _) _).alloc (by simp) _).setCell (by simp) _).setCell (by simp) _
end Go.Proofs.YtpkhblhcdnohmaaGreatDoor
