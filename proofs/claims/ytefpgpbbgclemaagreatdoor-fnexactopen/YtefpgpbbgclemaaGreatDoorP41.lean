/-
  OpenBase
-/
import Derived.Test.YtefpgpbbgclemaaGreatDoorP40
import Derived.Test.YtefpgpbbgclemaaGreatDoorP33
import Derived.Test.YtefpgpbbgclemaaGreatDoorP24
set_option maxHeartbeats 16000000
set_option linter.unusedVariables false
set_option maxRecDepth 100000
namespace Go.Proofs.YtefpgpbbgclemaaGreatDoor
open Go.ChangeShapes Go.WideShapes Go.ChangeAt Go.RowKit
theorem eqModuleSS_nil (w:World) :
    Calls Tryz.prog 19 #[.slice none 0 0,.slice none 0 0] w fun e w'=>e=.returned (.bool true)∧Below w.heap.size w w':=by
  go_enter Tryz.func19,Tryz.ntmps19
  go_wp2_with fail
  go_loopw [5] (fun iv wr=>iv=.int .i64 0∧Below w.heap.size w wr) (fun _ _=>0)
  case atStart=>exact ⟨rfl,Below.refl _ _⟩
  case round =>
    obtain ⟨rfl,hb⟩:=hrel
    have HB:Hid (Below w.heap.size w wr):=hb
    clear hb
    go_wp2_with fail
    go_ret
    exact ⟨rfl,HB.out⟩
theorem eqCommandS_nil (w:World) :
    Calls Tryz.prog 20 #[.slice none 0 0,.slice none 0 0] w fun e w'=>e=.returned (.bool true)∧Below w.heap.size w w':=by
  go_enter Tryz.func20,Tryz.ntmps20
  go_wp2_with fail
  go_loopw [5] (fun iv wr=>iv=.int .i64 0∧Below w.heap.size w wr) (fun _ _=>0)
  case atStart=>exact ⟨rfl,Below.refl _ _⟩
  case round =>
    obtain ⟨rfl,hb⟩:=hrel
    have HB:Hid (Below w.heap.size w wr):=hb
    clear hb
    go_wp2_with fail
    go_ret
    exact ⟨rfl,HB.out⟩
theorem markModuleSS_nil (w:World) (k:Int) :
    Calls Tryz.prog 25 #[.slice none 0 0,.int .i64 k] w fun e w'=>e=.returned (.int .i64 k)∧Below w.heap.size w w':=by
  go_enter Tryz.func25,Tryz.ntmps25
  go_wp2_with fail
  go_loopw [1,5] (fun kv iv wr=>kv=.int .i64 k∧iv=.int .i64 0∧Below w.heap.size w wr) (fun _ _ _=>0)
  case atStart=>exact ⟨rfl,rfl,Below.refl _ _⟩
  case round =>
    obtain ⟨rfl,rfl,hb⟩:=hrel
    have HB:Hid (Below w.heap.size w wr):=hb
    clear hb
    go_wp2_with fail
    go_ret
    exact ⟨rfl,HB.out⟩
theorem markCommandS_nil (w:World) (k:Int) :
    Calls Tryz.prog 26 #[.slice none 0 0,.int .i64 k] w fun e w'=>e=.returned (.int .i64 k)∧Below w.heap.size w w':=by
  go_enter Tryz.func26,Tryz.ntmps26
  go_wp2_with fail
  go_loopw [1,5] (fun kv iv wr=>kv=.int .i64 k∧iv=.int .i64 0∧Below w.heap.size w wr) (fun _ _ _=>0)
  case atStart=>exact ⟨rfl,rfl,Below.refl _ _⟩
  case round =>
    obtain ⟨rfl,rfl,hb⟩:=hrel
    have HB:Hid (Below w.heap.size w wr):=hb
    clear hb
    go_wp2_with fail
    go_ret
    exact ⟨rfl,HB.out⟩
theorem heldModuleSS_nil (w:World) (k:Int) :
    Calls Tryz.prog 28 #[.slice none 0 0,.int .i64 k] w fun e w'=>e=.returned (.int .i64 k)∧Below w.heap.size w w':=by
  go_enter Tryz.func28,Tryz.ntmps28
  go_wp2_with fail
  go_loopw [1,5] (fun kv iv wr=>kv=.int .i64 k∧iv=.int .i64 0∧Below w.heap.size w wr) (fun _ _ _=>0)
  case atStart=>exact ⟨rfl,rfl,Below.refl _ _⟩
  case round =>
    obtain ⟨rfl,rfl,hb⟩:=hrel
    have HB:Hid (Below w.heap.size w wr):=hb
    clear hb
    go_wp2_with fail
    go_ret
    exact ⟨rfl,HB.out⟩
theorem heldCommandS_nil (w:World) (k:Int) :
    Calls Tryz.prog 29 #[.slice none 0 0,.int .i64 k] w fun e w'=>e=.returned (.int .i64 k)∧Below w.heap.size w w':=by
  go_enter Tryz.func29,Tryz.ntmps29
  go_wp2_with fail
  go_loopw [1,5] (fun kv iv wr=>kv=.int .i64 k∧iv=.int .i64 0∧Below w.heap.size w wr) (fun _ _ _=>0)
  case atStart=>exact ⟨rfl,rfl,Below.refl _ _⟩
  case round =>
    obtain ⟨rfl,rfl,hb⟩:=hrel
    have HB:Hid (Below w.heap.size w wr):=hb
    clear hb
    go_wp2_with fail
    go_ret
    exact ⟨rfl,HB.out⟩
theorem eqSession_any (d:Nat) (w:World) (p p2:Option Addr) (n c c2:Nat) (L:List Md) (h1:Rows w All 3 (HMd w All d) (.slice p n c) L) (h2:Rows w All 3 (HMd w All d) (.slice p2 n c2) L) :
    Calls Tryz.prog 8 #[.agg #[.slice p n c,.slice none 0 0,.slice none 0 0,.slice none 0 0,.slice none 0 0],.agg #[.slice p2 n c2,.slice none 0 0,.slice none 0 0,.slice none 0 0,.slice none 0 0]] w fun e w'=>e=.returned (.bool true)∧Below w.heap.size w w':=by
  obtain ⟨W1,hW1⟩:∃ W1,W1=(w.alloc (.cells #[.slice p n c,.slice none 0 0,.slice none 0 0,.slice none 0 0,.slice none 0 0] 28)).alloc (.cells #[.slice p2 n c2,.slice none 0 0,.slice none 0 0,.slice none 0 0,.slice none 0 0] 28):=⟨_,rfl⟩
  have B1:Hid (Below w.heap.size w W1):=by show Below _ _ _;rw [hW1];exact ((Below.refl _ _).alloc (Nat.le_refl _) _).alloc (by simp only [alloc_hs];omega) _
  have x1:Hid (Blk W1 w.heap.size #[.slice p n c,.slice none 0 0,.slice none 0 0,.slice none 0 0,.slice none 0 0] 28):=by show Blk _ _ _ _;rw [hW1];exact Blk.new.alloc
  have y1:Hid (Blk W1 (w.heap.size+1) #[.slice p2 n c2,.slice none 0 0,.slice none 0 0,.slice none 0 0,.slice none 0 0] 28):=by
    have:=Blk.new (w:=w.alloc (.cells #[.slice p n c,.slice none 0 0,.slice none 0 0,.slice none 0 0,.slice none 0 0] 28)) (cs:=#[.slice p2 n c2,.slice none 0 0,.slice none 0 0,.slice none 0 0,.slice none 0 0]) (t:=28)
    rw [alloc_hs] at this
    show Blk _ _ _ _;rw [hW1];exact this
  have HE:Hid (Calls Tryz.prog 9 #[.slice p n c,.slice p2 n c2] W1 fun e w'=>e=.returned (.bool true)∧Below W1.heap.size W1 w') :=
    eqModuleS_all d W1 _ _ L (h1.mono (SameOn.of_below B1.out) (fun _ h=>h) (fun _ _ _ h=>h.mono (SameOn.of_below B1.out) (fun _ h=>h))) (h2.mono (SameOn.of_below B1.out) (fun _ h=>h) (fun _ _ _ h=>h.mono (SameOn.of_below B1.out) (fun _ h=>h)))
  have HW1:Hid (W1=(w.alloc (.cells #[.slice p n c,.slice none 0 0,.slice none 0 0,.slice none 0 0,.slice none 0 0] 28)).alloc (.cells #[.slice p2 n c2,.slice none 0 0,.slice none 0 0,.slice none 0 0,.slice none 0 0] 28)):=hW1
  clear h1 h2
  have a0:=x1.out.cell 0 _ rfl
  have b0:=y1.out.cell 0 _ rfl
  have a1:=x1.out.cell 1 _ rfl
  have b1:=y1.out.cell 1 _ rfl
  have a2:=x1.out.cell 2 _ rfl
  have b2:=y1.out.cell 2 _ rfl
  have a3:=x1.out.cell 3 _ rfl
  have b3:=y1.out.cell 3 _ rfl
  have a4:=x1.out.cell 4 _ rfl
  have b4:=y1.out.cell 4 _ rfl
  rw [hW1] at a0 a1 a2 a3 a4 b0 b1 b2 b3 b4
  clear hW1
  go_enter Tryz.func8,Tryz.ntmps8
  go_wp2_with fail
  rw [← HW1.out]
  clear a0 a1 a2 a3 a4 b0 b1 b2 b3 b4
  refine HE.out.mono ?_
  rintro e w2 ⟨rfl,hb⟩
  have B2:Hid (Below w.heap.size w w2):=B1.out.trans (hb.mono B1.out.size)
  have x2:Hid (Blk w2 w.heap.size #[.slice p n c,.slice none 0 0,.slice none 0 0,.slice none 0 0,.slice none 0 0] 28):=x1.out.next hb
  have y2:Hid (Blk w2 (w.heap.size+1) #[.slice p2 n c2,.slice none 0 0,.slice none 0 0,.slice none 0 0,.slice none 0 0] 28):=y1.out.next hb
  clear hb
  have a1:=x2.out.cell 1 _ rfl
  have b1:=y2.out.cell 1 _ rfl
  have a2:=x2.out.cell 2 _ rfl
  have b2:=y2.out.cell 2 _ rfl
  have a3:=x2.out.cell 3 _ rfl
  have b3:=y2.out.cell 3 _ rfl
  have a4:=x2.out.cell 4 _ rfl
  have b4:=y2.out.cell 4 _ rfl
  go_wp2_with fail
  clear a1 a2 a3 a4 b1 b2 b3 b4
  refine (eqModuleSS_nil _).mono ?_
  rintro e w3 ⟨rfl,hb⟩
  have B3:Hid (Below w.heap.size w w3):=B2.out.trans (hb.mono B2.out.size)
  have x3:Hid (Blk w3 w.heap.size #[.slice p n c,.slice none 0 0,.slice none 0 0,.slice none 0 0,.slice none 0 0] 28):=x2.out.next hb
  have y3:Hid (Blk w3 (w.heap.size+1) #[.slice p2 n c2,.slice none 0 0,.slice none 0 0,.slice none 0 0,.slice none 0 0] 28):=y2.out.next hb
  clear hb
  have a1:=x3.out.cell 1 _ rfl
  have b1:=y3.out.cell 1 _ rfl
  have a2:=x3.out.cell 2 _ rfl
  have b2:=y3.out.cell 2 _ rfl
  have a3:=x3.out.cell 3 _ rfl
  have b3:=y3.out.cell 3 _ rfl
  have a4:=x3.out.cell 4 _ rfl
  have b4:=y3.out.cell 4 _ rfl
  go_wp2_with fail
  clear a1 a2 a3 a4 b1 b2 b3 b4
  refine (eqModuleSS_nil _).mono ?_
  rintro e w4 ⟨rfl,hb⟩
  have B4:Hid (Below w.heap.size w w4):=B3.out.trans (hb.mono B3.out.size)
  have x4:Hid (Blk w4 w.heap.size #[.slice p n c,.slice none 0 0,.slice none 0 0,.slice none 0 0,.slice none 0 0] 28):=x3.out.next hb
  have y4:Hid (Blk w4 (w.heap.size+1) #[.slice p2 n c2,.slice none 0 0,.slice none 0 0,.slice none 0 0,.slice none 0 0] 28):=y3.out.next hb
  clear hb
  have a1:=x4.out.cell 1 _ rfl
  have b1:=y4.out.cell 1 _ rfl
  have a2:=x4.out.cell 2 _ rfl
  have b2:=y4.out.cell 2 _ rfl
  have a3:=x4.out.cell 3 _ rfl
  have b3:=y4.out.cell 3 _ rfl
  have a4:=x4.out.cell 4 _ rfl
  have b4:=y4.out.cell 4 _ rfl
  go_wp2_with fail
  clear a1 a2 a3 a4 b1 b2 b3 b4
  refine (eqCommandS_nil _).mono ?_
  rintro e w5 ⟨rfl,hb⟩
  have B5:Hid (Below w.heap.size w w5):=B4.out.trans (hb.mono B4.out.size)
  have x5:Hid (Blk w5 w.heap.size #[.slice p n c,.slice none 0 0,.slice none 0 0,.slice none 0 0,.slice none 0 0] 28):=x4.out.next hb
  have y5:Hid (Blk w5 (w.heap.size+1) #[.slice p2 n c2,.slice none 0 0,.slice none 0 0,.slice none 0 0,.slice none 0 0] 28):=y4.out.next hb
  clear hb
  have a1:=x5.out.cell 1 _ rfl
  have b1:=y5.out.cell 1 _ rfl
  have a2:=x5.out.cell 2 _ rfl
  have b2:=y5.out.cell 2 _ rfl
  have a3:=x5.out.cell 3 _ rfl
  have b3:=y5.out.cell 3 _ rfl
  have a4:=x5.out.cell 4 _ rfl
  have b4:=y5.out.cell 4 _ rfl
  go_wp2_with fail
  clear a1 a2 a3 a4 b1 b2 b3 b4
  refine (eqCommandS_nil _).mono ?_
  rintro e w6 ⟨rfl,hb⟩
  have B6:Hid (Below w.heap.size w w6):=B5.out.trans (hb.mono B5.out.size)
  have x6:Hid (Blk w6 w.heap.size #[.slice p n c,.slice none 0 0,.slice none 0 0,.slice none 0 0,.slice none 0 0] 28):=x5.out.next hb
  have y6:Hid (Blk w6 (w.heap.size+1) #[.slice p2 n c2,.slice none 0 0,.slice none 0 0,.slice none 0 0,.slice none 0 0] 28):=y5.out.next hb
  clear hb
  have a1:=x6.out.cell 1 _ rfl
  have b1:=y6.out.cell 1 _ rfl
  have a2:=x6.out.cell 2 _ rfl
  have b2:=y6.out.cell 2 _ rfl
  have a3:=x6.out.cell 3 _ rfl
  have b3:=y6.out.cell 3 _ rfl
  have a4:=x6.out.cell 4 _ rfl
  have b4:=y6.out.cell 4 _ rfl
  go_wp2_with fail
  go_ret
  exact ⟨rfl,B6.out⟩
theorem markSession_any (d:Nat) (w:World) (p:Option Addr) (n c:Nat) (L:List Md) (fp:List Nat) (k:Nat) (h:ORows w 47 3 (OMd w d) (.slice p n c) L fp) (hnd:fp.Nodup) (hk1:1≤k) (hkb:k+(L.map (cntMS d)).sum≤1099511627776) :
    Calls Tryz.prog 11 #[.agg #[.slice p n c,.slice none 0 0,.slice none 0 0,.slice none 0 0,.slice none 0 0],.int .i64 k] w fun e w'=>e=.returned (.int .i64 ((k+(L.map (cntMS d)).sum:Nat):Int))∧ORows w' 47 3 (OMd w' d) (.slice p n c) (markL (markMS d) (cntMS d) k L) fp∧Off fp w w':=by
  obtain ⟨W1,hW1⟩:∃ W1,W1=w.alloc (.cells #[.slice p n c,.slice none 0 0,.slice none 0 0,.slice none 0 0,.slice none 0 0] 28):=⟨_,rfl⟩
  have B1:Hid (Below w.heap.size w W1):=by show Below _ _ _;rw [hW1];exact (Below.refl _ _).alloc (Nat.le_refl _) _
  have x1:Hid (Blk W1 w.heap.size #[.slice p n c,.slice none 0 0,.slice none 0 0,.slice none 0 0,.slice none 0 0] 28):=by show Blk _ _ _ _;rw [hW1];exact Blk.new
  have LT:Hid (∀ a ∈ fp,a<w.heap.size):=fun a ha=>oms_lt h a ha
  have HE:Hid (Calls Tryz.prog 10 #[.slice p n c,.int .i64 k] W1 fun e w'=>e=.returned (.int .i64 ((k+(L.map (cntMS d)).sum:Nat):Int))∧ORows w' 47 3 (OMd w' d) (.slice p n c) (markL (markMS d) (cntMS d) k L) fp∧Off fp W1 w') :=
    markMS_all d W1 _ L fp k (oms_keep h (KeepOn.below B1.out (fun a ha=>oms_lt h a ha))) hnd hk1 hkb
  have HW1:Hid (W1=w.alloc (.cells #[.slice p n c,.slice none 0 0,.slice none 0 0,.slice none 0 0,.slice none 0 0] 28)):=hW1
  generalize ((k+(L.map (cntMS d)).sum:Nat):Int)=kz at *
  generalize (k:Int)=k0 at *
  clear h hnd hkb hk1
  have a0:=x1.out.cell 0 _ rfl
  have a1:=x1.out.cell 1 _ rfl
  have a2:=x1.out.cell 2 _ rfl
  have a3:=x1.out.cell 3 _ rfl
  have a4:=x1.out.cell 4 _ rfl
  rw [hW1] at a0 a1 a2 a3 a4
  clear hW1
  go_enter Tryz.func11,Tryz.ntmps11
  go_wp2_with fail
  rw [← HW1.out]
  clear a0 a1 a2 a3 a4
  refine HE.out.mono ?_
  rintro e w2 ⟨rfl,ho,hf⟩
  have O2:Hid (ORows w2 47 3 (OMd w2 d) (.slice p n c) (markL (markMS d) (cntMS d) k L) fp):=ho
  have F2:Hid (Off fp w w2):=(Off.of_below B1.out).trans hf
  have x2:Hid (Blk w2 w.heap.size #[.slice p n c,.slice none 0 0,.slice none 0 0,.slice none 0 0,.slice none 0 0] 28):=(hf.block _ x1.out.lt (fun h=>by have:=LT.out _ h;omega)).trans x1.out
  clear ho hf
  have a1:=x2.out.cell 1 _ rfl
  have a2:=x2.out.cell 2 _ rfl
  have a3:=x2.out.cell 3 _ rfl
  have a4:=x2.out.cell 4 _ rfl
  go_wp2_with fail
  clear a1 a2 a3 a4
  refine (markModuleSS_nil _ kz).mono ?_
  rintro e w3 ⟨rfl,hb⟩
  have O3:Hid (ORows w3 47 3 (OMd w3 d) (.slice p n c) (markL (markMS d) (cntMS d) k L) fp):=oms_keep O2.out (KeepOn.below hb (fun a ha=>oms_lt O2.out a ha))
  have F3:Hid (Off fp w w3):=F2.out.trans (Off.of_below hb)
  have x3:Hid (Blk w3 w.heap.size #[.slice p n c,.slice none 0 0,.slice none 0 0,.slice none 0 0,.slice none 0 0] 28):=x2.out.next hb
  clear hb O2 F2
  have a1:=x3.out.cell 1 _ rfl
  have a2:=x3.out.cell 2 _ rfl
  have a3:=x3.out.cell 3 _ rfl
  have a4:=x3.out.cell 4 _ rfl
  go_wp2_with fail
  clear a1 a2 a3 a4
  refine (markModuleSS_nil _ kz).mono ?_
  rintro e w4 ⟨rfl,hb⟩
  have O4:Hid (ORows w4 47 3 (OMd w4 d) (.slice p n c) (markL (markMS d) (cntMS d) k L) fp):=oms_keep O3.out (KeepOn.below hb (fun a ha=>oms_lt O3.out a ha))
  have F4:Hid (Off fp w w4):=F3.out.trans (Off.of_below hb)
  have x4:Hid (Blk w4 w.heap.size #[.slice p n c,.slice none 0 0,.slice none 0 0,.slice none 0 0,.slice none 0 0] 28):=x3.out.next hb
  clear hb O3 F3
  have a1:=x4.out.cell 1 _ rfl
  have a2:=x4.out.cell 2 _ rfl
  have a3:=x4.out.cell 3 _ rfl
  have a4:=x4.out.cell 4 _ rfl
  go_wp2_with fail
  clear a1 a2 a3 a4
  refine (markCommandS_nil _ kz).mono ?_
  rintro e w5 ⟨rfl,hb⟩
  have O5:Hid (ORows w5 47 3 (OMd w5 d) (.slice p n c) (markL (markMS d) (cntMS d) k L) fp):=oms_keep O4.out (KeepOn.below hb (fun a ha=>oms_lt O4.out a ha))
  have F5:Hid (Off fp w w5):=F4.out.trans (Off.of_below hb)
  have x5:Hid (Blk w5 w.heap.size #[.slice p n c,.slice none 0 0,.slice none 0 0,.slice none 0 0,.slice none 0 0] 28):=x4.out.next hb
  clear hb O4 F4
  have a1:=x5.out.cell 1 _ rfl
  have a2:=x5.out.cell 2 _ rfl
  have a3:=x5.out.cell 3 _ rfl
  have a4:=x5.out.cell 4 _ rfl
  go_wp2_with fail
  clear a1 a2 a3 a4
  refine (markCommandS_nil _ kz).mono ?_
  rintro e w6 ⟨rfl,hb⟩
  have O6:Hid (ORows w6 47 3 (OMd w6 d) (.slice p n c) (markL (markMS d) (cntMS d) k L) fp):=oms_keep O5.out (KeepOn.below hb (fun a ha=>oms_lt O5.out a ha))
  have F6:Hid (Off fp w w6):=F5.out.trans (Off.of_below hb)
  have x6:Hid (Blk w6 w.heap.size #[.slice p n c,.slice none 0 0,.slice none 0 0,.slice none 0 0,.slice none 0 0] 28):=x5.out.next hb
  clear hb O5 F5
  have a1:=x6.out.cell 1 _ rfl
  have a2:=x6.out.cell 2 _ rfl
  have a3:=x6.out.cell 3 _ rfl
  have a4:=x6.out.cell 4 _ rfl
  go_wp2_with fail
  go_ret
  exact ⟨rfl,O6.out,F6.out⟩
theorem heldSession_any (w:World) (v:Value) (k:Int) (kz:Nat) (h:∀ w',Below w.heap.size w w'→Calls Tryz.prog 27 #[v,.int .i64 k] w' fun e w''=>e=.returned (.int .i64 (kz:Int))∧Below w'.heap.size w' w'') :
    Calls Tryz.prog 12 #[.agg #[v,.slice none 0 0,.slice none 0 0,.slice none 0 0,.slice none 0 0],.int .i64 k] w fun e w'=>e=.returned (.int .i64 (kz:Int))∧Below w.heap.size w w':=by
  obtain ⟨W1,hW1⟩:∃ W1,W1=w.alloc (.cells #[v,.slice none 0 0,.slice none 0 0,.slice none 0 0,.slice none 0 0] 28):=⟨_,rfl⟩
  have B1:Hid (Below w.heap.size w W1):=by show Below _ _ _;rw [hW1];exact (Below.refl _ _).alloc (Nat.le_refl _) _
  have x1:Hid (Blk W1 w.heap.size #[v,.slice none 0 0,.slice none 0 0,.slice none 0 0,.slice none 0 0] 28):=by show Blk _ _ _ _;rw [hW1];exact Blk.new
  have HE:Hid (Calls Tryz.prog 27 #[v,.int .i64 k] W1 fun e w''=>e=.returned (.int .i64 (kz:Int))∧Below W1.heap.size W1 w''):=h W1 B1.out
  have HW1:Hid (W1=w.alloc (.cells #[v,.slice none 0 0,.slice none 0 0,.slice none 0 0,.slice none 0 0] 28)):=hW1
  have hkz:¬ (kz:Int)<0:=by omega
  clear h
  have a0:=x1.out.cell 0 _ rfl
  have a1:=x1.out.cell 1 _ rfl
  have a2:=x1.out.cell 2 _ rfl
  have a3:=x1.out.cell 3 _ rfl
  have a4:=x1.out.cell 4 _ rfl
  rw [hW1] at a0 a1 a2 a3 a4
  clear hW1
  go_enter Tryz.func12,Tryz.ntmps12
  go_wp2_with fail
  rw [← HW1.out]
  clear a0 a1 a2 a3 a4
  refine HE.out.mono ?_
  rintro e w2 ⟨rfl,hb⟩
  have B2:Hid (Below w.heap.size w w2):=B1.out.trans (hb.mono B1.out.size)
  have x2:Hid (Blk w2 w.heap.size #[v,.slice none 0 0,.slice none 0 0,.slice none 0 0,.slice none 0 0] 28):=x1.out.next hb
  clear hb
  have a1:=x2.out.cell 1 _ rfl
  have a2:=x2.out.cell 2 _ rfl
  have a3:=x2.out.cell 3 _ rfl
  have a4:=x2.out.cell 4 _ rfl
  go_wp2_with fail
  clear a1 a2 a3 a4
  refine (heldModuleSS_nil _ (kz:Int)).mono ?_
  rintro e w3 ⟨rfl,hb⟩
  have B3:Hid (Below w.heap.size w w3):=B2.out.trans (hb.mono B2.out.size)
  have x3:Hid (Blk w3 w.heap.size #[v,.slice none 0 0,.slice none 0 0,.slice none 0 0,.slice none 0 0] 28):=x2.out.next hb
  clear hb
  have a1:=x3.out.cell 1 _ rfl
  have a2:=x3.out.cell 2 _ rfl
  have a3:=x3.out.cell 3 _ rfl
  have a4:=x3.out.cell 4 _ rfl
  go_wp2_with fail
  clear a1 a2 a3 a4
  refine (heldModuleSS_nil _ (kz:Int)).mono ?_
  rintro e w4 ⟨rfl,hb⟩
  have B4:Hid (Below w.heap.size w w4):=B3.out.trans (hb.mono B3.out.size)
  have x4:Hid (Blk w4 w.heap.size #[v,.slice none 0 0,.slice none 0 0,.slice none 0 0,.slice none 0 0] 28):=x3.out.next hb
  clear hb
  have a1:=x4.out.cell 1 _ rfl
  have a2:=x4.out.cell 2 _ rfl
  have a3:=x4.out.cell 3 _ rfl
  have a4:=x4.out.cell 4 _ rfl
  go_wp2_with fail
  clear a1 a2 a3 a4
  refine (heldCommandS_nil _ (kz:Int)).mono ?_
  rintro e w5 ⟨rfl,hb⟩
  have B5:Hid (Below w.heap.size w w5):=B4.out.trans (hb.mono B4.out.size)
  have x5:Hid (Blk w5 w.heap.size #[v,.slice none 0 0,.slice none 0 0,.slice none 0 0,.slice none 0 0] 28):=x4.out.next hb
  clear hb
  have a1:=x5.out.cell 1 _ rfl
  have a2:=x5.out.cell 2 _ rfl
  have a3:=x5.out.cell 3 _ rfl
  have a4:=x5.out.cell 4 _ rfl
  go_wp2_with fail
  clear a1 a2 a3 a4
  refine (heldCommandS_nil _ (kz:Int)).mono ?_
  rintro e w6 ⟨rfl,hb⟩
  have B6:Hid (Below w.heap.size w w6):=B5.out.trans (hb.mono B5.out.size)
  have x6:Hid (Blk w6 w.heap.size #[v,.slice none 0 0,.slice none 0 0,.slice none 0 0,.slice none 0 0] 28):=x5.out.next hb
  clear hb
  have a1:=x6.out.cell 1 _ rfl
  have a2:=x6.out.cell 2 _ rfl
  have a3:=x6.out.cell 3 _ rfl
  have a4:=x6.out.cell 4 _ rfl
  go_wp2_with fail
  go_ret
  exact ⟨rfl,B6.out⟩
def opnM (d:Nat) (ms:List Md):List Md:=if goodB d ms=true then ms else []
def OpR (d:Nat) (ms:List Md) (w:World) (e:Ending) (w':World):Prop :=
  ∃ p c fp,e=.returned (.tuple #[.agg #[.slice p (opnM d ms).length c,.slice none 0 0,.slice none 0 0,.slice none 0 0,.slice none 0 0],.bool (goodB d ms)])∧ORows w' 47 3 (OMd w' d) (.slice p (opnM d ms).length c) (opnM d ms) fp∧fp.Nodup∧(∀ a ∈ fp,w.heap.size≤a∧a<w'.heap.size)∧Below w.heap.size w w'
theorem implOpen_any (d:Nat) (w:World) (v:Value) (ms:List Md) (fp0:List Nat) (hT:Tabs w) (h:ORows w 47 3 (OMd w d) v ms fp0) (hw:wtS (wtMd d) ms≤1048576) :
    Calls Tryz.prog 7 #[v] w fun e w'=>OpR d ms w e w':=by
  obtain ⟨W1,hW1⟩:∃ W1,W1=w.alloc (.cells #[.slice none 0 0,.slice none 0 0,.slice none 0 0,.slice none 0 0,.slice none 0 0] 28):=⟨_,rfl⟩
  have B1:Hid (Below w.heap.size w W1):=by show Below _ _ _;rw [hW1];exact (Below.refl _ _).alloc (Nat.le_refl _) _
  have x1:Hid (Blk W1 w.heap.size #[.slice none 0 0,.slice none 0 0,.slice none 0 0,.slice none 0 0,.slice none 0 0] 28):=by show Blk _ _ _ _;rw [hW1];exact Blk.new
  have HW1:Hid (W1=w.alloc (.cells #[.slice none 0 0,.slice none 0 0,.slice none 0 0,.slice none 0 0,.slice none 0 0] 28)):=hW1
  have HG:Hid (Calls Tryz.prog 17 #[v] W1 fun e w'=>e=.returned (.bool (goodB d ms))∧Below W1.heap.size W1 w'):=implGood_any d W1 v ms (hT.below B1.out) (oms_tree (oms_keep h (KeepOn.below B1.out (fun a ha=>oms_lt h a ha)))) hw
  have HC:Hid (∀ w',Below w.heap.size w w'→Calls Tryz.prog 18 #[v] w' fun e w''=>∃ u fp,e=.returned u∧ORows w'' 47 3 (OMd w'' d) u ms fp∧fp.Nodup∧(∀ a ∈ fp,w'.heap.size≤a∧a<w''.heap.size)∧Below w'.heap.size w' w''):=fun w' hb=>by
    have h':=oms_keep h (KeepOn.below hb (fun a ha=>oms_lt h a ha))
    exact copyProgram_any d w' (· ∈ fp0) v ms (mods_tree h' (fun a ha=>ha)) (fun g hg=>⟨mods_lt h' g hg,mods_plain h' g hg⟩) hw
  obtain ⟨p0,c0,rfl,-⟩:=h.shape
  clear hT
  clear hw hW1 h
  unfold OpR
  cases hg:goodB d ms with
  | false =>
    have hL:opnM d ms = []:=by unfold opnM;rw [hg];rfl
    rw [hL]
    rw [hg] at HG
    clear hL hg
    go_enter Tryz.func7,Tryz.ntmps7
    go_wp2_with fail
    rw [← HW1.out]
    refine HG.out.mono ?_
    rintro e w2 ⟨rfl,hb⟩
    have B2:Hid (Below w.heap.size w w2):=B1.out.trans (hb.mono B1.out.size)
    have x2:Hid (Blk w2 w.heap.size #[.slice none 0 0,.slice none 0 0,.slice none 0 0,.slice none 0 0,.slice none 0 0] 28):=x1.out.next hb
    clear hb
    have a0:=x2.out.cell 0 _ rfl
    have f0:=x2.out.frozen 0
    have a1:=x2.out.cell 1 _ rfl
    have f1:=x2.out.frozen 1
    have a2:=x2.out.cell 2 _ rfl
    have f2:=x2.out.frozen 2
    have a3:=x2.out.cell 3 _ rfl
    have f3:=x2.out.frozen 3
    have a4:=x2.out.cell 4 _ rfl
    have f4:=x2.out.frozen 4
    go_wp2_with fail
    clear a0 f0 a1 f1 a2 f2 a3 f3 a4 f4
    have x3:Blk (((((w2.setCell ⟨w.heap.size,0,none⟩ (.slice none 0 0)).setCell ⟨w.heap.size,1,none⟩ (.slice none 0 0)).setCell ⟨w.heap.size,2,none⟩ (.slice none 0 0)).setCell ⟨w.heap.size,3,none⟩ (.slice none 0 0)).setCell ⟨w.heap.size,4,none⟩ (.slice none 0 0)) w.heap.size #[.slice none 0 0,.slice none 0 0,.slice none 0 0,.slice none 0 0,.slice none 0 0] 28:=(((((x2.out.same (j:=0) (v:=.slice none 0 0) (cs':=#[.slice none 0 0,.slice none 0 0,.slice none 0 0,.slice none 0 0,.slice none 0 0]) rfl).same (j:=1) (v:=.slice none 0 0) (cs':=#[.slice none 0 0,.slice none 0 0,.slice none 0 0,.slice none 0 0,.slice none 0 0]) rfl).same (j:=2) (v:=.slice none 0 0) (cs':=#[.slice none 0 0,.slice none 0 0,.slice none 0 0,.slice none 0 0,.slice none 0 0]) rfl).same (j:=3) (v:=.slice none 0 0) (cs':=#[.slice none 0 0,.slice none 0 0,.slice none 0 0,.slice none 0 0,.slice none 0 0]) rfl).same (j:=4) (v:=.slice none 0 0) (cs':=#[.slice none 0 0,.slice none 0 0,.slice none 0 0,.slice none 0 0,.slice none 0 0]) rfl)
    have B3:Below w.heap.size w (((((w2.setCell ⟨w.heap.size,0,none⟩ (.slice none 0 0)).setCell ⟨w.heap.size,1,none⟩ (.slice none 0 0)).setCell ⟨w.heap.size,2,none⟩ (.slice none 0 0)).setCell ⟨w.heap.size,3,none⟩ (.slice none 0 0)).setCell ⟨w.heap.size,4,none⟩ (.slice none 0 0)):=(((((B2.out.setCell (by dsimp only;omega) _).setCell (by dsimp only;omega) _).setCell (by dsimp only;omega) _).setCell (by dsimp only;omega) _).setCell (by dsimp only;omega) _)
    have q0:=x3.cell 0 _ rfl
    have q1:=x3.cell 1 _ rfl
    have q2:=x3.cell 2 _ rfl
    have q3:=x3.cell 3 _ rfl
    have q4:=x3.cell 4 _ rfl
    exact bodyPost_ret (v:=.tuple #[.agg #[.slice none 0 0,.slice none 0 0,.slice none 0 0,.slice none 0 0,.slice none 0 0],.bool false]) (by simp [results,Tryz.results7,go_sem,q0,q1,q2,q3,q4]) rfl ⟨none,0,[],rfl,.inl ⟨rfl,rfl,none,0,rfl,Nat.zero_le _⟩,List.nodup_nil,fun a ha=>by simp at ha,B3⟩
  | true =>
    have hL:opnM d ms=ms:=by unfold opnM;rw [hg];rfl
    rw [hL]
    rw [hg] at HG
    clear hL hg
    go_enter Tryz.func7,Tryz.ntmps7
    go_wp2_with fail
    rw [← HW1.out]
    refine HG.out.mono ?_
    rintro e w2 ⟨rfl,hb⟩
    have B2:Hid (Below w.heap.size w w2):=B1.out.trans (hb.mono B1.out.size)
    have x2:Hid (Blk w2 w.heap.size #[.slice none 0 0,.slice none 0 0,.slice none 0 0,.slice none 0 0,.slice none 0 0] 28):=x1.out.next hb
    clear hb
    go_wp2_with fail
    refine (HC.out _ B2.out).mono ?_
    rintro e w3 ⟨u,fp,rfl,ho,hnd,hrg,hb⟩
    obtain ⟨pu,cu,rfl,-⟩:=ho.shape
    have B3:Hid (Below w.heap.size w w3):=B2.out.trans (hb.mono B2.out.size)
    have x3:Hid (Blk w3 w.heap.size #[.slice none 0 0,.slice none 0 0,.slice none 0 0,.slice none 0 0,.slice none 0 0] 28):=x2.out.next hb
    have O3:Hid (ORows w3 47 3 (OMd w3 d) (.slice pu ms.length cu) ms fp):=ho
    have R3:Hid (fp.Nodup∧∀ a ∈ fp,w2.heap.size≤a∧a<w3.heap.size):=⟨hnd,hrg⟩
    have L2:Hid (w.heap.size<w2.heap.size):=x2.out.lt
    clear hb ho hnd hrg
    have a0:=x3.out.cell 0 _ rfl
    have f0:=x3.out.frozen 0
    have a1:=x3.out.cell 1 _ rfl
    have f1:=x3.out.frozen 1
    have a2:=x3.out.cell 2 _ rfl
    have f2:=x3.out.frozen 2
    have a3:=x3.out.cell 3 _ rfl
    have f3:=x3.out.frozen 3
    have a4:=x3.out.cell 4 _ rfl
    have f4:=x3.out.frozen 4
    go_wp2_with fail
    clear a0 f0 a1 f1 a2 f2 a3 f3 a4 f4
    have x4:Blk (((((w3.setCell ⟨w.heap.size,0,none⟩ (.slice pu ms.length cu)).setCell ⟨w.heap.size,1,none⟩ (.slice none 0 0)).setCell ⟨w.heap.size,2,none⟩ (.slice none 0 0)).setCell ⟨w.heap.size,3,none⟩ (.slice none 0 0)).setCell ⟨w.heap.size,4,none⟩ (.slice none 0 0)) w.heap.size #[.slice pu ms.length cu,.slice none 0 0,.slice none 0 0,.slice none 0 0,.slice none 0 0] 28:=(((((x3.out.same (j:=0) (v:=.slice pu ms.length cu) (cs':=#[.slice pu ms.length cu,.slice none 0 0,.slice none 0 0,.slice none 0 0,.slice none 0 0]) rfl).same (j:=1) (v:=.slice none 0 0) (cs':=#[.slice pu ms.length cu,.slice none 0 0,.slice none 0 0,.slice none 0 0,.slice none 0 0]) rfl).same (j:=2) (v:=.slice none 0 0) (cs':=#[.slice pu ms.length cu,.slice none 0 0,.slice none 0 0,.slice none 0 0,.slice none 0 0]) rfl).same (j:=3) (v:=.slice none 0 0) (cs':=#[.slice pu ms.length cu,.slice none 0 0,.slice none 0 0,.slice none 0 0,.slice none 0 0]) rfl).same (j:=4) (v:=.slice none 0 0) (cs':=#[.slice pu ms.length cu,.slice none 0 0,.slice none 0 0,.slice none 0 0,.slice none 0 0]) rfl)
    have B4:Below w.heap.size w (((((w3.setCell ⟨w.heap.size,0,none⟩ (.slice pu ms.length cu)).setCell ⟨w.heap.size,1,none⟩ (.slice none 0 0)).setCell ⟨w.heap.size,2,none⟩ (.slice none 0 0)).setCell ⟨w.heap.size,3,none⟩ (.slice none 0 0)).setCell ⟨w.heap.size,4,none⟩ (.slice none 0 0)):=(((((B3.out.setCell (by dsimp only;omega) _).setCell (by dsimp only;omega) _).setCell (by dsimp only;omega) _).setCell (by dsimp only;omega) _).setCell (by dsimp only;omega) _)
    have K4:Below w2.heap.size w3 (((((w3.setCell ⟨w.heap.size,0,none⟩ (.slice pu ms.length cu)).setCell ⟨w.heap.size,1,none⟩ (.slice none 0 0)).setCell ⟨w.heap.size,2,none⟩ (.slice none 0 0)).setCell ⟨w.heap.size,3,none⟩ (.slice none 0 0)).setCell ⟨w.heap.size,4,none⟩ (.slice none 0 0))→True:=fun _=>trivial
    have OF:Off [w.heap.size] w3 (((((w3.setCell ⟨w.heap.size,0,none⟩ (.slice pu ms.length cu)).setCell ⟨w.heap.size,1,none⟩ (.slice none 0 0)).setCell ⟨w.heap.size,2,none⟩ (.slice none 0 0)).setCell ⟨w.heap.size,3,none⟩ (.slice none 0 0)).setCell ⟨w.heap.size,4,none⟩ (.slice none 0 0)):=(((((off_set3 _).trans (off_set3 _)).trans (off_set3 _)).trans (off_set3 _)).trans (off_set3 _))
    have q0:=x4.cell 0 _ rfl
    have q1:=x4.cell 1 _ rfl
    have q2:=x4.cell 2 _ rfl
    have q3:=x4.cell 3 _ rfl
    have q4:=x4.cell 4 _ rfl
    have O4:=oms_keep O3.out (OF.keep (fun a ha=>⟨oms_lt O3.out a ha,by have:=(R3.out.2 a ha).1;have:=L2.out;simp;omega⟩))
    exact bodyPost_ret (v:=.tuple #[.agg #[.slice pu ms.length cu,.slice none 0 0,.slice none 0 0,.slice none 0 0,.slice none 0 0],.bool true]) (by simp [results,Tryz.results7,go_sem,q0,q1,q2,q3,q4]) rfl ⟨pu,cu,fp,rfl,O4,R3.out.1,fun a ha=>⟨Nat.le_trans (Nat.le_of_lt L2.out) (R3.out.2 a ha).1,Nat.lt_of_lt_of_le (R3.out.2 a ha).2 OF.size⟩,B4⟩
theorem specOpen_any (d:Nat) (w:World) (v:Value) (ms:List Md) (h:Rows w All 3 (HMd w All d) v ms) (hw:wtS (wtMd d) ms≤1048576) :
    Calls Tryz.prog 5 #[v] w fun e w'=>OpR d ms w e w':=by
  obtain ⟨W1,hW1⟩:∃ W1,W1=w.alloc (.cells #[.slice none 0 0,.slice none 0 0,.slice none 0 0,.slice none 0 0,.slice none 0 0] 28):=⟨_,rfl⟩
  have B1:Hid (Below w.heap.size w W1):=by show Below _ _ _;rw [hW1];exact (Below.refl _ _).alloc (Nat.le_refl _) _
  have x1:Hid (Blk W1 w.heap.size #[.slice none 0 0,.slice none 0 0,.slice none 0 0,.slice none 0 0,.slice none 0 0] 28):=by show Blk _ _ _ _;rw [hW1];exact Blk.new
  have HW1:Hid (W1=w.alloc (.cells #[.slice none 0 0,.slice none 0 0,.slice none 0 0,.slice none 0 0,.slice none 0 0] 28)):=hW1
  have HR:Hid (∀ w',Below w.heap.size w w'→Rows w' All 3 (HMd w' All d) v ms):=fun w' hw=>h.mono (SameOn.of_below hw) (fun _ h=>h) (fun _ _ _ h=>h.mono (SameOn.of_below hw) (fun _ h=>h))
  have HG:Hid (Calls Tryz.prog 14 #[v] W1 fun e w'=>e=.returned (.bool (goodB d ms))∧Below W1.heap.size W1 w'):=specGood_any d W1 v ms (HR.out _ B1.out) hw
  have HC:Hid (∀ w',Below w.heap.size w w'→Calls Tryz.prog 15 #[v] w' fun e w''=>∃ u fp,e=.returned u∧ORows w'' 47 3 (OMd w'' d) u ms fp∧fp.Nodup∧(∀ a ∈ fp,w'.heap.size≤a∧a<w''.heap.size)∧Below w'.heap.size w' w''):=fun w' hb=>l07Copy_any d w' v ms (HR.out _ hb) hw
  obtain ⟨p0,c0,rfl,-⟩:=h
  clear hw hW1
  unfold OpR
  cases hg:goodB d ms with
  | false =>
    have hL:opnM d ms = []:=by unfold opnM;rw [hg];rfl
    rw [hL]
    rw [hg] at HG
    clear hL hg
    go_enter Tryz.func5,Tryz.ntmps5
    go_wp2_with fail
    rw [← HW1.out]
    refine HG.out.mono ?_
    rintro e w2 ⟨rfl,hb⟩
    have B2:Hid (Below w.heap.size w w2):=B1.out.trans (hb.mono B1.out.size)
    have x2:Hid (Blk w2 w.heap.size #[.slice none 0 0,.slice none 0 0,.slice none 0 0,.slice none 0 0,.slice none 0 0] 28):=x1.out.next hb
    clear hb
    have a0:=x2.out.cell 0 _ rfl
    have f0:=x2.out.frozen 0
    have a1:=x2.out.cell 1 _ rfl
    have f1:=x2.out.frozen 1
    have a2:=x2.out.cell 2 _ rfl
    have f2:=x2.out.frozen 2
    have a3:=x2.out.cell 3 _ rfl
    have f3:=x2.out.frozen 3
    have a4:=x2.out.cell 4 _ rfl
    have f4:=x2.out.frozen 4
    go_wp2_with fail
    clear a0 f0 a1 f1 a2 f2 a3 f3 a4 f4
    have x3:Blk (((((w2.setCell ⟨w.heap.size,0,none⟩ (.slice none 0 0)).setCell ⟨w.heap.size,1,none⟩ (.slice none 0 0)).setCell ⟨w.heap.size,2,none⟩ (.slice none 0 0)).setCell ⟨w.heap.size,3,none⟩ (.slice none 0 0)).setCell ⟨w.heap.size,4,none⟩ (.slice none 0 0)) w.heap.size #[.slice none 0 0,.slice none 0 0,.slice none 0 0,.slice none 0 0,.slice none 0 0] 28:=(((((x2.out.same (j:=0) (v:=.slice none 0 0) (cs':=#[.slice none 0 0,.slice none 0 0,.slice none 0 0,.slice none 0 0,.slice none 0 0]) rfl).same (j:=1) (v:=.slice none 0 0) (cs':=#[.slice none 0 0,.slice none 0 0,.slice none 0 0,.slice none 0 0,.slice none 0 0]) rfl).same (j:=2) (v:=.slice none 0 0) (cs':=#[.slice none 0 0,.slice none 0 0,.slice none 0 0,.slice none 0 0,.slice none 0 0]) rfl).same (j:=3) (v:=.slice none 0 0) (cs':=#[.slice none 0 0,.slice none 0 0,.slice none 0 0,.slice none 0 0,.slice none 0 0]) rfl).same (j:=4) (v:=.slice none 0 0) (cs':=#[.slice none 0 0,.slice none 0 0,.slice none 0 0,.slice none 0 0,.slice none 0 0]) rfl)
    have B3:Below w.heap.size w (((((w2.setCell ⟨w.heap.size,0,none⟩ (.slice none 0 0)).setCell ⟨w.heap.size,1,none⟩ (.slice none 0 0)).setCell ⟨w.heap.size,2,none⟩ (.slice none 0 0)).setCell ⟨w.heap.size,3,none⟩ (.slice none 0 0)).setCell ⟨w.heap.size,4,none⟩ (.slice none 0 0)):=(((((B2.out.setCell (by dsimp only;omega) _).setCell (by dsimp only;omega) _).setCell (by dsimp only;omega) _).setCell (by dsimp only;omega) _).setCell (by dsimp only;omega) _)
    have q0:=x3.cell 0 _ rfl
    have q1:=x3.cell 1 _ rfl
    have q2:=x3.cell 2 _ rfl
    have q3:=x3.cell 3 _ rfl
    have q4:=x3.cell 4 _ rfl
    exact bodyPost_ret (v:=.tuple #[.agg #[.slice none 0 0,.slice none 0 0,.slice none 0 0,.slice none 0 0,.slice none 0 0],.bool false]) (by simp [results,Tryz.results5,go_sem,q0,q1,q2,q3,q4]) rfl ⟨none,0,[],rfl,.inl ⟨rfl,rfl,none,0,rfl,Nat.zero_le _⟩,List.nodup_nil,fun a ha=>by simp at ha,B3⟩
  | true =>
    have hL:opnM d ms=ms:=by unfold opnM;rw [hg];rfl
    rw [hL]
    rw [hg] at HG
    clear hL hg
    go_enter Tryz.func5,Tryz.ntmps5
    go_wp2_with fail
    rw [← HW1.out]
    refine HG.out.mono ?_
    rintro e w2 ⟨rfl,hb⟩
    have B2:Hid (Below w.heap.size w w2):=B1.out.trans (hb.mono B1.out.size)
    have x2:Hid (Blk w2 w.heap.size #[.slice none 0 0,.slice none 0 0,.slice none 0 0,.slice none 0 0,.slice none 0 0] 28):=x1.out.next hb
    clear hb
    go_wp2_with fail
    refine (HC.out _ B2.out).mono ?_
    rintro e w3 ⟨u,fp,rfl,ho,hnd,hrg,hb⟩
    obtain ⟨pu,cu,rfl,-⟩:=ho.shape
    have B3:Hid (Below w.heap.size w w3):=B2.out.trans (hb.mono B2.out.size)
    have x3:Hid (Blk w3 w.heap.size #[.slice none 0 0,.slice none 0 0,.slice none 0 0,.slice none 0 0,.slice none 0 0] 28):=x2.out.next hb
    have O3:Hid (ORows w3 47 3 (OMd w3 d) (.slice pu ms.length cu) ms fp):=ho
    have R3:Hid (fp.Nodup∧∀ a ∈ fp,w2.heap.size≤a∧a<w3.heap.size):=⟨hnd,hrg⟩
    have L2:Hid (w.heap.size<w2.heap.size):=x2.out.lt
    clear hb ho hnd hrg
    have a0:=x3.out.cell 0 _ rfl
    have f0:=x3.out.frozen 0
    have a1:=x3.out.cell 1 _ rfl
    have f1:=x3.out.frozen 1
    have a2:=x3.out.cell 2 _ rfl
    have f2:=x3.out.frozen 2
    have a3:=x3.out.cell 3 _ rfl
    have f3:=x3.out.frozen 3
    have a4:=x3.out.cell 4 _ rfl
    have f4:=x3.out.frozen 4
    go_wp2_with fail
    clear a0 f0 a1 f1 a2 f2 a3 f3 a4 f4
    have x4:Blk (((((w3.setCell ⟨w.heap.size,0,none⟩ (.slice pu ms.length cu)).setCell ⟨w.heap.size,1,none⟩ (.slice none 0 0)).setCell ⟨w.heap.size,2,none⟩ (.slice none 0 0)).setCell ⟨w.heap.size,3,none⟩ (.slice none 0 0)).setCell ⟨w.heap.size,4,none⟩ (.slice none 0 0)) w.heap.size #[.slice pu ms.length cu,.slice none 0 0,.slice none 0 0,.slice none 0 0,.slice none 0 0] 28:=(((((x3.out.same (j:=0) (v:=.slice pu ms.length cu) (cs':=#[.slice pu ms.length cu,.slice none 0 0,.slice none 0 0,.slice none 0 0,.slice none 0 0]) rfl).same (j:=1) (v:=.slice none 0 0) (cs':=#[.slice pu ms.length cu,.slice none 0 0,.slice none 0 0,.slice none 0 0,.slice none 0 0]) rfl).same (j:=2) (v:=.slice none 0 0) (cs':=#[.slice pu ms.length cu,.slice none 0 0,.slice none 0 0,.slice none 0 0,.slice none 0 0]) rfl).same (j:=3) (v:=.slice none 0 0) (cs':=#[.slice pu ms.length cu,.slice none 0 0,.slice none 0 0,.slice none 0 0,.slice none 0 0]) rfl).same (j:=4) (v:=.slice none 0 0) (cs':=#[.slice pu ms.length cu,.slice none 0 0,.slice none 0 0,.slice none 0 0,.slice none 0 0]) rfl)
    have B4:Below w.heap.size w (((((w3.setCell ⟨w.heap.size,0,none⟩ (.slice pu ms.length cu)).setCell ⟨w.heap.size,1,none⟩ (.slice none 0 0)).setCell ⟨w.heap.size,2,none⟩ (.slice none 0 0)).setCell ⟨w.heap.size,3,none⟩ (.slice none 0 0)).setCell ⟨w.heap.size,4,none⟩ (.slice none 0 0)):=(((((B3.out.setCell (by dsimp only;omega) _).setCell (by dsimp only;omega) _).setCell (by dsimp only;omega) _).setCell (by dsimp only;omega) _).setCell (by dsimp only;omega) _)
    have K4:Below w2.heap.size w3 (((((w3.setCell ⟨w.heap.size,0,none⟩ (.slice pu ms.length cu)).setCell ⟨w.heap.size,1,none⟩ (.slice none 0 0)).setCell ⟨w.heap.size,2,none⟩ (.slice none 0 0)).setCell ⟨w.heap.size,3,none⟩ (.slice none 0 0)).setCell ⟨w.heap.size,4,none⟩ (.slice none 0 0))→True:=fun _=>trivial
    have OF:Off [w.heap.size] w3 (((((w3.setCell ⟨w.heap.size,0,none⟩ (.slice pu ms.length cu)).setCell ⟨w.heap.size,1,none⟩ (.slice none 0 0)).setCell ⟨w.heap.size,2,none⟩ (.slice none 0 0)).setCell ⟨w.heap.size,3,none⟩ (.slice none 0 0)).setCell ⟨w.heap.size,4,none⟩ (.slice none 0 0)):=(((((off_set3 _).trans (off_set3 _)).trans (off_set3 _)).trans (off_set3 _)).trans (off_set3 _))
    have q0:=x4.cell 0 _ rfl
    have q1:=x4.cell 1 _ rfl
    have q2:=x4.cell 2 _ rfl
    have q3:=x4.cell 3 _ rfl
    have q4:=x4.cell 4 _ rfl
    have O4:=oms_keep O3.out (OF.keep (fun a ha=>⟨oms_lt O3.out a ha,by have:=(R3.out.2 a ha).1;have:=L2.out;simp;omega⟩))
    exact bodyPost_ret (v:=.tuple #[.agg #[.slice pu ms.length cu,.slice none 0 0,.slice none 0 0,.slice none 0 0,.slice none 0 0],.bool true]) (by simp [results,Tryz.results5,go_sem,q0,q1,q2,q3,q4]) rfl ⟨pu,cu,fp,rfl,O4,R3.out.1,fun a ha=>⟨Nat.le_trans (Nat.le_of_lt L2.out) (R3.out.2 a ha).1,Nat.lt_of_lt_of_le (R3.out.2 a ha).2 OF.size⟩,B4⟩
end Go.Proofs.YtefpgpbbgclemaaGreatDoor
