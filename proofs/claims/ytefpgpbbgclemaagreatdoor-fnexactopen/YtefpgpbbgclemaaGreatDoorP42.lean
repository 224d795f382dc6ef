/-
  OpenWalk
-/
import Derived.Test.YtefpgpbbgclemaaGreatDoorP41
import Derived.Test.YtefpgpbbgclemaaGreatDoorP07
set_option maxHeartbeats 16000000
set_option linter.unusedVariables false
set_option maxRecDepth 100000
namespace Go.Proofs.YtefpgpbbgclemaaGreatDoor
open Go.ChangeShapes Go.WideShapes Go.ChangeAt Go.RowKit
theorem opnM_wt (d:Nat) (ms:List Md):wtS (wtMd d) (opnM d ms)≤wtS (wtMd d) ms:=by
  unfold opnM;split
  · exact Nat.le_refl _
  · exact Nat.zero_le _
theorem alloc_below (w:World) (o:Obj):Below w.heap.size w (w.alloc o):=(Below.refl _ _).alloc (Nat.le_refl _) _
theorem fnExactOpen_walk (w:World) (d:Nat) (v:Value) (ms:List Md) (h:Rows w (fun g=>g<w.heap.size) 3 (HMd w (fun g=>g<w.heap.size) d) v ms) (hT:Tabs w) :
    Calls Tryz.prog 3 #[v] w fun e w'=>e=.returned (.bool true)∧Below w.heap.size w w':=by
  have HTAB:Hid (Tabs w):=hT
  clear hT
  have Z:Hid (Rows w (fun g=>g<w.heap.size) 3 (HMd w (fun g=>g<w.heap.size) d) v ms):=h
  have H:Hid (∀ w',Below w.heap.size w w'→Rows w' All 3 (HMd w' All d) v ms):=fun w' hw=>h.mono (SameOn.of_below hw) (fun _ _=>trivial) (fun _ _ _ h=>h.mono (SameOn.of_below hw) (fun _ _=>trivial))
  obtain ⟨p,cap,rfl,-⟩:=h
  generalize hx:wtS (wtMd d) ms=x at *
  have HX:Hid (wtS (wtMd d) ms=x):=hx
  generalize hr0:leftOf 1048576 x=r at *
  have SZ:Hid (Calls Tryz.prog 4 #[.slice p ms.length cap,.int .i64 1048576] w fun e w'=>e=.returned (.int .i64 r)∧Below w.heap.size w w'):=by
    have:=(szModuleS_all (N:=w.heap.size) d).at ms (1048576:Int) 1048576 rfl Z.out (Nat.le_refl _)
    rw [HX.out,hr0] at this
    exact this
  by_cases hw:1048576<x
  · have hr:r = -1:=by rw [← hr0];exact leftOf_lt hw
    subst hr
    go_enter Tryz.func3,Tryz.ntmps3
    go_wp2_with fail
    refine SZ.out.mono ?_
    rintro e w1 ⟨rfl,hb⟩
    have B1:Hid (Below w.heap.size w w1):=hb
    clear hb
    go_wp2_with fail
    go_ret
    exact ⟨rfl,B1.out⟩
  · obtain ⟨q,rfl⟩:∃ q:Nat,r=(q:Int):=⟨1048576 - x,by rw [← hr0];exact leftOf_ge (by omega)⟩
    have HW:Hid (wtS (wtMd d) ms≤1048576):=by show _≤_;rw [HX.out];omega
    have TO:Hid (∀ w',Below w.heap.size w w'→Calls Tryz.prog 6 #[.slice p ms.length cap] w' fun e w''=>∃ pu cu fp,e=.returned (.slice pu ms.length cu)∧ORows w'' 47 3 (OMd w'' d) (.slice pu ms.length cu) ms fp∧fp.Nodup∧(∀ a ∈ fp,w'.heap.size≤a∧a<w''.heap.size)∧Below w'.heap.size w' w''):=fun w' hw=>by
      refine (toModuleS_own d w' _ ms (H.out w' hw) HW.out).mono ?_
      rintro e w'' ⟨u,fp,rfl,ho,hn,hr,hb⟩
      obtain ⟨pu,cu,rfl,-⟩:=ho.shape
      exact ⟨pu,cu,fp,rfl,ho,hn,hr,hb⟩
    have HCN:Hid (1+(ms.map (cntMS d)).sum≤1099511627776):=by
      show _≤_
      have:=cntMS_le d ms
      have:=HW.out
      omega
    have HCL:Hid (1+((opnM d ms).map (cntMS d)).sum≤1099511627776):=by
      show _≤_
      have:=cntMS_le d (opnM d ms)
      have:=opnM_wt d ms
      have:=HW.out
      omega
    have SV:Hid (∀ w' v,Rows w' All 3 (HMd w' All d) v ms→Calls Tryz.prog 5 #[v] w' fun e w''=>OpR d ms w' e w''):=fun w' v hr=>specOpen_any d w' v ms hr HW.out
    have IM:Hid (∀ w' v fp0,Below w.heap.size w w'→ORows w' 47 3 (OMd w' d) v ms fp0→Calls Tryz.prog 7 #[v] w' fun e w''=>OpR d ms w' e w''):=fun w' v fp0 hb hr=>implOpen_any d w' v ms fp0 (HTAB.out.below hb) hr HW.out
    unfold OpR at SV IM
    clear hr0 hx hw
    have hq:¬ (q:Int)<0:=by omega
    generalize hn:ms.length=n at *
    generalize hLF:opnM d ms=L at *
    generalize hnl:L.length=nl at *
    generalize hgb:goodB d ms=gb at *
    clear hn hLF hnl hgb
    go_enter Tryz.func3,Tryz.ntmps3
    go_wp2_with fail
    refine SZ.out.mono ?_
    rintro e w1 ⟨rfl,hb⟩
    have B1:Hid (Below w.heap.size w w1):=hb
    clear hb
    go_wp2_with fail
    refine (TO.out _ B1.out).mono ?_
    rintro e w2 ⟨pa,ca,fpa,rfl,ho,hnd,hrg,hb⟩
    have K2:Hid (Below w1.heap.size w1 w2):=hb
    have B2:Hid (Below w.heap.size w w2):=B1.out.trans (K2.out.mono B1.out.size)
    clear hb
    have Oa2:Hid (ORows w2 47 3 (OMd w2 d) (.slice pa n ca) ms fpa):=ho
    have Ra:Hid (fpa.Nodup∧∀ a ∈ fpa,w1.heap.size≤a∧a<w2.heap.size):=⟨hnd,hrg⟩
    clear ho hnd hrg
    go_wp2_with fail
    refine (SV.out _ _ (oms_tree Oa2.out)).mono ?_
    rintro e w3 ⟨pw,cw,fpw,rfl,ho,hnd,hrg,hb⟩
    have K3:Hid (Below w2.heap.size w2 w3):=hb
    have B3:Hid (Below w.heap.size w w3):=B2.out.trans (K3.out.mono B2.out.size)
    have Oa3:Hid (ORows w3 47 3 (OMd w3 d) (.slice pa n ca) ms fpa):=oms_keep Oa2.out (KeepOn.below K3.out (fun a ha=>oms_lt Oa2.out a ha))
    clear Oa2 hb
    have Ow3:Hid (ORows w3 47 3 (OMd w3 d) (.slice pw nl cw) L fpw):=ho
    have Rw:Hid (fpw.Nodup∧∀ a ∈ fpw,w2.heap.size≤a∧a<w3.heap.size):=⟨hnd,hrg⟩
    clear ho hnd hrg
    obtain ⟨w4,hW⟩:∃ W,W=w3.alloc (.cells #[.slice pw nl cw,.slice none 0 0,.slice none 0 0,.slice none 0 0,.slice none 0 0] 28):=⟨_,rfl⟩
    have hb:Below w3.heap.size w3 w4:=by rw [hW];exact alloc_below _ _
    have X4:Hid (Blk w4 w3.heap.size #[.slice pw nl cw,.slice none 0 0,.slice none 0 0,.slice none 0 0,.slice none 0 0] 28):=by
      show Blk _ _ _ _
      rw [hW];exact Blk.new
    have HW4:Hid (w4=w3.alloc (.cells #[.slice pw nl cw,.slice none 0 0,.slice none 0 0,.slice none 0 0,.slice none 0 0] 28)):=hW
    clear hW
    have K4:Hid (Below w3.heap.size w3 w4):=hb
    have B4:Hid (Below w.heap.size w w4):=B3.out.trans (K4.out.mono B3.out.size)
    have Oa4:Hid (ORows w4 47 3 (OMd w4 d) (.slice pa n ca) ms fpa):=oms_keep Oa3.out (KeepOn.below K4.out (fun a ha=>oms_lt Oa3.out a ha))
    have Ow4:Hid (ORows w4 47 3 (OMd w4 d) (.slice pw nl cw) L fpw):=oms_keep Ow3.out (KeepOn.below K4.out (fun a ha=>oms_lt Ow3.out a ha))
    clear Oa3 Ow3 hb
    have bw4:Hid (Blk w4 w3.heap.size #[.slice pw nl cw,.slice none 0 0,.slice none 0 0,.slice none 0 0,.slice none 0 0] 28):=X4.out
    have Sw:Hid (w3.heap.size≤w4.heap.size):=K4.out.size
    clear Oa4
    have LW:Hid (w3.heap.size<w4.heap.size):=bw4.out.lt
    go_wp2_with fail
    rw [← HW4.out]
    refine (TO.out _ B4.out).mono ?_
    rintro e w5 ⟨pb,cb,fpb,rfl,ho,hnd,hrg,hb⟩
    have K5:Hid (Below w4.heap.size w4 w5):=hb
    have B5:Hid (Below w.heap.size w w5):=B4.out.trans (K5.out.mono B4.out.size)
    have Ow5:Hid (ORows w5 47 3 (OMd w5 d) (.slice pw nl cw) L fpw):=oms_keep Ow4.out (KeepOn.below K5.out (fun a ha=>oms_lt Ow4.out a ha))
    have bw5:Hid (Blk w5 w3.heap.size #[.slice pw nl cw,.slice none 0 0,.slice none 0 0,.slice none 0 0,.slice none 0 0] 28):=bw4.out.next K5.out
    clear Ow4 bw4 hb
    have Ob5:Hid (ORows w5 47 3 (OMd w5 d) (.slice pb n cb) ms fpb):=ho
    have Rb:Hid (fpb.Nodup∧∀ a ∈ fpb,w4.heap.size≤a∧a<w5.heap.size):=⟨hnd,hrg⟩
    clear ho hnd hrg
    go_wp2_with fail
    refine (IM.out _ _ fpb B5.out Ob5.out).mono ?_
    rintro e w6 ⟨pg,cg,fpg,rfl,ho,hnd,hrg,hb⟩
    have K6:Hid (Below w5.heap.size w5 w6):=hb
    have B6:Hid (Below w.heap.size w w6):=B5.out.trans (K6.out.mono B5.out.size)
    have Ow6:Hid (ORows w6 47 3 (OMd w6 d) (.slice pw nl cw) L fpw):=oms_keep Ow5.out (KeepOn.below K6.out (fun a ha=>oms_lt Ow5.out a ha))
    have Ob6:Hid (ORows w6 47 3 (OMd w6 d) (.slice pb n cb) ms fpb):=oms_keep Ob5.out (KeepOn.below K6.out (fun a ha=>oms_lt Ob5.out a ha))
    have bw6:Hid (Blk w6 w3.heap.size #[.slice pw nl cw,.slice none 0 0,.slice none 0 0,.slice none 0 0,.slice none 0 0] 28):=bw5.out.next K6.out
    clear Ow5 Ob5 bw5 hb
    have Og6:Hid (ORows w6 47 3 (OMd w6 d) (.slice pg nl cg) L fpg):=ho
    have Rg:Hid (fpg.Nodup∧∀ a ∈ fpg,w5.heap.size≤a∧a<w6.heap.size):=⟨hnd,hrg⟩
    clear ho hnd hrg
    obtain ⟨w7,hW⟩:∃ W,W=w6.alloc (.cells #[.slice pg nl cg,.slice none 0 0,.slice none 0 0,.slice none 0 0,.slice none 0 0] 28):=⟨_,rfl⟩
    have hb:Below w6.heap.size w6 w7:=by rw [hW];exact alloc_below _ _
    have X7:Hid (Blk w7 w6.heap.size #[.slice pg nl cg,.slice none 0 0,.slice none 0 0,.slice none 0 0,.slice none 0 0] 28):=by
      show Blk _ _ _ _
      rw [hW];exact Blk.new
    have HW7:Hid (w7=w6.alloc (.cells #[.slice pg nl cg,.slice none 0 0,.slice none 0 0,.slice none 0 0,.slice none 0 0] 28)):=hW
    clear hW
    have K7:Hid (Below w6.heap.size w6 w7):=hb
    have B7:Hid (Below w.heap.size w w7):=B6.out.trans (K7.out.mono B6.out.size)
    have Ow7:Hid (ORows w7 47 3 (OMd w7 d) (.slice pw nl cw) L fpw):=oms_keep Ow6.out (KeepOn.below K7.out (fun a ha=>oms_lt Ow6.out a ha))
    have Ob7:Hid (ORows w7 47 3 (OMd w7 d) (.slice pb n cb) ms fpb):=oms_keep Ob6.out (KeepOn.below K7.out (fun a ha=>oms_lt Ob6.out a ha))
    have Og7:Hid (ORows w7 47 3 (OMd w7 d) (.slice pg nl cg) L fpg):=oms_keep Og6.out (KeepOn.below K7.out (fun a ha=>oms_lt Og6.out a ha))
    have bw7:Hid (Blk w7 w3.heap.size #[.slice pw nl cw,.slice none 0 0,.slice none 0 0,.slice none 0 0,.slice none 0 0] 28):=bw6.out.next K7.out
    clear Ow6 Ob6 Og6 bw6 hb
    have bg7:Hid (Blk w7 w6.heap.size #[.slice pg nl cg,.slice none 0 0,.slice none 0 0,.slice none 0 0,.slice none 0 0] 28):=X7.out
    have Sg:Hid (w6.heap.size≤w7.heap.size):=K7.out.size
    have LG:Hid (w6.heap.size<w7.heap.size):=bg7.out.lt
    have yg0:=bg7.out.cell 0 _ rfl
    have yg1:=bg7.out.cell 1 _ rfl
    have yg2:=bg7.out.cell 2 _ rfl
    have yg3:=bg7.out.cell 3 _ rfl
    have yg4:=bg7.out.cell 4 _ rfl
    have yw0:=bw7.out.cell 0 _ rfl
    have yw1:=bw7.out.cell 1 _ rfl
    have yw2:=bw7.out.cell 2 _ rfl
    have yw3:=bw7.out.cell 3 _ rfl
    have yw4:=bw7.out.cell 4 _ rfl
    rw [HW7.out] at yg0 yg1 yg2 yg3 yg4 yw0 yw1 yw2 yw3 yw4
    go_wp2_with fail
    clear yg0 yg1 yg2 yg3 yg4 yw0 yw1 yw2 yw3 yw4
    rw [← HW7.out]
    refine (eqSession_any d _ _ _ _ _ _ L (oms_tree Og7.out) (oms_tree Ow7.out)).mono ?_
    rintro e w8 ⟨rfl,hb⟩
    have K8:Hid (Below w7.heap.size w7 w8):=hb
    have B8:Hid (Below w.heap.size w w8):=B7.out.trans (K8.out.mono B7.out.size)
    have Ow8:Hid (ORows w8 47 3 (OMd w8 d) (.slice pw nl cw) L fpw):=oms_keep Ow7.out (KeepOn.below K8.out (fun a ha=>oms_lt Ow7.out a ha))
    have Ob8:Hid (ORows w8 47 3 (OMd w8 d) (.slice pb n cb) ms fpb):=oms_keep Ob7.out (KeepOn.below K8.out (fun a ha=>oms_lt Ob7.out a ha))
    have Og8:Hid (ORows w8 47 3 (OMd w8 d) (.slice pg nl cg) L fpg):=oms_keep Og7.out (KeepOn.below K8.out (fun a ha=>oms_lt Og7.out a ha))
    have bw8:Hid (Blk w8 w3.heap.size #[.slice pw nl cw,.slice none 0 0,.slice none 0 0,.slice none 0 0,.slice none 0 0] 28):=bw7.out.next K8.out
    have bg8:Hid (Blk w8 w6.heap.size #[.slice pg nl cg,.slice none 0 0,.slice none 0 0,.slice none 0 0,.slice none 0 0] 28):=bg7.out.next K8.out
    clear Ow7 Ob7 Og7 bw7 bg7 hb
    go_wp2_with fail
    refine (TO.out _ B8.out).mono ?_
    rintro e w9 ⟨pc,cc,fpc,rfl,ho,hnd,hrg,hb⟩
    have K9:Hid (Below w8.heap.size w8 w9):=hb
    have B9:Hid (Below w.heap.size w w9):=B8.out.trans (K9.out.mono B8.out.size)
    have Ow9:Hid (ORows w9 47 3 (OMd w9 d) (.slice pw nl cw) L fpw):=oms_keep Ow8.out (KeepOn.below K9.out (fun a ha=>oms_lt Ow8.out a ha))
    have Ob9:Hid (ORows w9 47 3 (OMd w9 d) (.slice pb n cb) ms fpb):=oms_keep Ob8.out (KeepOn.below K9.out (fun a ha=>oms_lt Ob8.out a ha))
    have Og9:Hid (ORows w9 47 3 (OMd w9 d) (.slice pg nl cg) L fpg):=oms_keep Og8.out (KeepOn.below K9.out (fun a ha=>oms_lt Og8.out a ha))
    have bw9:Hid (Blk w9 w3.heap.size #[.slice pw nl cw,.slice none 0 0,.slice none 0 0,.slice none 0 0,.slice none 0 0] 28):=bw8.out.next K9.out
    have bg9:Hid (Blk w9 w6.heap.size #[.slice pg nl cg,.slice none 0 0,.slice none 0 0,.slice none 0 0,.slice none 0 0] 28):=bg8.out.next K9.out
    clear Ow8 Ob8 Og8 bw8 bg8 hb
    have Oc9:Hid (ORows w9 47 3 (OMd w9 d) (.slice pc n cc) ms fpc):=ho
    have Rc:Hid (fpc.Nodup∧∀ a ∈ fpc,w8.heap.size≤a∧a<w9.heap.size):=⟨hnd,hrg⟩
    clear ho hnd hrg
    go_wp2_with fail
    refine (eqModuleS_all d _ _ _ ms (oms_tree Ob9.out) (oms_tree Oc9.out)).mono ?_
    rintro e w10 ⟨rfl,hb⟩
    have K10:Hid (Below w9.heap.size w9 w10):=hb
    have B10:Hid (Below w.heap.size w w10):=B9.out.trans (K10.out.mono B9.out.size)
    have Ow10:Hid (ORows w10 47 3 (OMd w10 d) (.slice pw nl cw) L fpw):=oms_keep Ow9.out (KeepOn.below K10.out (fun a ha=>oms_lt Ow9.out a ha))
    have Ob10:Hid (ORows w10 47 3 (OMd w10 d) (.slice pb n cb) ms fpb):=oms_keep Ob9.out (KeepOn.below K10.out (fun a ha=>oms_lt Ob9.out a ha))
    have Og10:Hid (ORows w10 47 3 (OMd w10 d) (.slice pg nl cg) L fpg):=oms_keep Og9.out (KeepOn.below K10.out (fun a ha=>oms_lt Og9.out a ha))
    have Oc10:Hid (ORows w10 47 3 (OMd w10 d) (.slice pc n cc) ms fpc):=oms_keep Oc9.out (KeepOn.below K10.out (fun a ha=>oms_lt Oc9.out a ha))
    have bw10:Hid (Blk w10 w3.heap.size #[.slice pw nl cw,.slice none 0 0,.slice none 0 0,.slice none 0 0,.slice none 0 0] 28):=bw9.out.next K10.out
    have bg10:Hid (Blk w10 w6.heap.size #[.slice pg nl cg,.slice none 0 0,.slice none 0 0,.slice none 0 0,.slice none 0 0] 28):=bg9.out.next K10.out
    clear Ow9 Ob9 Og9 Oc9 bw9 bg9 hb
    clear Oc10
    go_wp2_with fail
    refine (markMS_all d _ _ ms fpb 1 Ob10.out Rb.out.1 (Nat.le_refl _) HCN.out).mono ?_
    rintro e w11 ⟨rfl,-,off⟩
    have FF11:Hid (Off fpb w10 w11):=off
    have KS11:Hid (w10.heap.size≤w11.heap.size):=off.size
    have B11:Hid (Below w.heap.size w w11):=B10.out.trans (off.below (N:=w.heap.size) (fun a ha=>Nat.le_trans B4.out.size (Rb.out.2 a ha).1) B10.out.size)
    clear Ob10
    have Ow11:Hid (ORows w11 47 3 (OMd w11 d) (.slice pw nl cw) L fpw):=oms_keep Ow10.out (off.keep (fun a ha=>⟨oms_lt Ow10.out a ha,fun hm=>by have s4:=K4.out.size;have s5:=K5.out.size;have s6:=K6.out.size;have s7:=K7.out.size;have l3:=LW.out;have l6:=LG.out;have h1:=Rw.out.2 a ha;have h2:=Rb.out.2 a hm;omega⟩))
    have Og11:Hid (ORows w11 47 3 (OMd w11 d) (.slice pg nl cg) L fpg):=oms_keep Og10.out (off.keep (fun a ha=>⟨oms_lt Og10.out a ha,fun hm=>by have s4:=K4.out.size;have s5:=K5.out.size;have s6:=K6.out.size;have s7:=K7.out.size;have l3:=LW.out;have l6:=LG.out;have h1:=Rg.out.2 a ha;have h2:=Rb.out.2 a hm;omega⟩))
    have bw11:Hid (Blk w11 w3.heap.size #[.slice pw nl cw,.slice none 0 0,.slice none 0 0,.slice none 0 0,.slice none 0 0] 28):=(off.block _ bw10.out.lt (fun hm=>by have s4:=K4.out.size;have s5:=K5.out.size;have s6:=K6.out.size;have s7:=K7.out.size;have l3:=LW.out;have l6:=LG.out;have h2:=Rb.out.2 _ hm;omega)).trans bw10.out
    have bg11:Hid (Blk w11 w6.heap.size #[.slice pg nl cg,.slice none 0 0,.slice none 0 0,.slice none 0 0,.slice none 0 0] 28):=(off.block _ bg10.out.lt (fun hm=>by have s4:=K4.out.size;have s5:=K5.out.size;have s6:=K6.out.size;have s7:=K7.out.size;have l3:=LW.out;have l6:=LG.out;have h2:=Rb.out.2 _ hm;omega)).trans bg10.out
    clear off Ow10 Og10 bw10 bg10
    have hkz0:(0:Int)≤((1+(ms.map (cntMS d)).sum:Nat):Int):=by omega
    generalize ((1+(ms.map (cntMS d)).sum:Nat):Int)=kz at hkz0 ⊢
    have hkz:¬ kz<0:=by omega
    clear hkz0
    have yg0:=bg11.out.cell 0 _ rfl
    have yg1:=bg11.out.cell 1 _ rfl
    have yg2:=bg11.out.cell 2 _ rfl
    have yg3:=bg11.out.cell 3 _ rfl
    have yg4:=bg11.out.cell 4 _ rfl
    have yw0:=bw11.out.cell 0 _ rfl
    have yw1:=bw11.out.cell 1 _ rfl
    have yw2:=bw11.out.cell 2 _ rfl
    have yw3:=bw11.out.cell 3 _ rfl
    have yw4:=bw11.out.cell 4 _ rfl
    go_wp2_with fail
    clear yg0 yg1 yg2 yg3 yg4 yw0 yw1 yw2 yw3 yw4
    refine (eqSession_any d _ _ _ _ _ _ L (oms_tree Og11.out) (oms_tree Ow11.out)).mono ?_
    rintro e w12 ⟨rfl,hb⟩
    have K12:Hid (Below w11.heap.size w11 w12):=hb
    have B12:Hid (Below w.heap.size w w12):=B11.out.trans (K12.out.mono B11.out.size)
    have Ow12:Hid (ORows w12 47 3 (OMd w12 d) (.slice pw nl cw) L fpw):=oms_keep Ow11.out (KeepOn.below K12.out (fun a ha=>oms_lt Ow11.out a ha))
    have Og12:Hid (ORows w12 47 3 (OMd w12 d) (.slice pg nl cg) L fpg):=oms_keep Og11.out (KeepOn.below K12.out (fun a ha=>oms_lt Og11.out a ha))
    have bw12:Hid (Blk w12 w3.heap.size #[.slice pw nl cw,.slice none 0 0,.slice none 0 0,.slice none 0 0,.slice none 0 0] 28):=bw11.out.next K12.out
    have bg12:Hid (Blk w12 w6.heap.size #[.slice pg nl cg,.slice none 0 0,.slice none 0 0,.slice none 0 0,.slice none 0 0] 28):=bg11.out.next K12.out
    clear Ow11 Og11 bw11 bg11 hb
    have yg0:=bg12.out.cell 0 _ rfl
    have yg1:=bg12.out.cell 1 _ rfl
    have yg2:=bg12.out.cell 2 _ rfl
    have yg3:=bg12.out.cell 3 _ rfl
    have yg4:=bg12.out.cell 4 _ rfl
    go_wp2_with fail
    clear yg0 yg1 yg2 yg3 yg4
    refine (markSession_any d _ _ _ _ L fpg 1 Og12.out Rg.out.1 (Nat.le_refl _) HCL.out).mono ?_
    rintro e w13 ⟨rfl,hm,off⟩
    have FF13:Hid (Off fpg w12 w13):=off
    have KS13:Hid (w12.heap.size≤w13.heap.size):=off.size
    have B13:Hid (Below w.heap.size w w13):=B12.out.trans (off.below (N:=w.heap.size) (fun a ha=>Nat.le_trans B5.out.size (Rg.out.2 a ha).1) B12.out.size)
    clear Og12
    have Ow13:Hid (ORows w13 47 3 (OMd w13 d) (.slice pw nl cw) L fpw):=oms_keep Ow12.out (off.keep (fun a ha=>⟨oms_lt Ow12.out a ha,fun hm=>by have s4:=K4.out.size;have s5:=K5.out.size;have s6:=K6.out.size;have s7:=K7.out.size;have l3:=LW.out;have l6:=LG.out;have h1:=Rw.out.2 a ha;have h2:=Rg.out.2 a hm;omega⟩))
    have bw13:Hid (Blk w13 w3.heap.size #[.slice pw nl cw,.slice none 0 0,.slice none 0 0,.slice none 0 0,.slice none 0 0] 28):=(off.block _ bw12.out.lt (fun hm=>by have s4:=K4.out.size;have s5:=K5.out.size;have s6:=K6.out.size;have s7:=K7.out.size;have l3:=LW.out;have l6:=LG.out;have h2:=Rg.out.2 _ hm;omega)).trans bw12.out
    have bg13:Hid (Blk w13 w6.heap.size #[.slice pg nl cg,.slice none 0 0,.slice none 0 0,.slice none 0 0,.slice none 0 0] 28):=(off.block _ bg12.out.lt (fun hm=>by have s4:=K4.out.size;have s5:=K5.out.size;have s6:=K6.out.size;have s7:=K7.out.size;have l3:=LW.out;have l6:=LG.out;have h2:=Rg.out.2 _ hm;omega)).trans bg12.out
    clear off Ow12 bw12 bg12
    have Om13:Hid (ORows w13 47 3 (OMd w13 d) (.slice pg nl cg) (markL (markMS d) (cntMS d) 1 L) fpg):=hm
    have HHE:Hid (∀ w' v,Rows w' All 3 (HMd w' All d) v (markL (markMS d) (cntMS d) 1 L)→Calls Tryz.prog 27 #[v,.int .i64 1] w' fun e w''=>e=.returned (.int .i64 ((1+(L.map (cntMS d)).sum:Nat):Int))∧Below w'.heap.size w' w''):=fun w' v hr=>heldMS_all d w' v L 1 hr (Nat.le_refl _) HCL.out
    obtain ⟨km,hkm⟩:∃ km,km=1+(L.map (cntMS d)).sum:=⟨_,rfl⟩
    rw [← hkm] at HHE ⊢
    have hkm0:¬ (km:Int)<0:=by omega
    clear hkm hm
    have yg0:=bg13.out.cell 0 _ rfl
    have yg1:=bg13.out.cell 1 _ rfl
    have yg2:=bg13.out.cell 2 _ rfl
    have yg3:=bg13.out.cell 3 _ rfl
    have yg4:=bg13.out.cell 4 _ rfl
    go_wp2_with fail
    clear yg0 yg1 yg2 yg3 yg4
    refine (heldSession_any _ _ _ km (fun w' hb=>HHE.out w' _ (oms_tree (oms_keep Om13.out (KeepOn.below hb (fun a ha=>oms_lt Om13.out a ha)))))).mono ?_
    rintro e w14 ⟨rfl,hb⟩
    have K14:Hid (Below w13.heap.size w13 w14):=hb
    have B14:Hid (Below w.heap.size w w14):=B13.out.trans (K14.out.mono B13.out.size)
    have Ow14:Hid (ORows w14 47 3 (OMd w14 d) (.slice pw nl cw) L fpw):=oms_keep Ow13.out (KeepOn.below K14.out (fun a ha=>oms_lt Ow13.out a ha))
    have Om14:Hid (ORows w14 47 3 (OMd w14 d) (.slice pg nl cg) (markL (markMS d) (cntMS d) 1 L) fpg):=oms_keep Om13.out (KeepOn.below K14.out (fun a ha=>oms_lt Om13.out a ha))
    have bw14:Hid (Blk w14 w3.heap.size #[.slice pw nl cw,.slice none 0 0,.slice none 0 0,.slice none 0 0,.slice none 0 0] 28):=bw13.out.next K14.out
    have bg14:Hid (Blk w14 w6.heap.size #[.slice pg nl cg,.slice none 0 0,.slice none 0 0,.slice none 0 0,.slice none 0 0] 28):=bg13.out.next K14.out
    clear Ow13 Om13 bw13 bg13 hb
    go_wp2_with fail
    refine (TO.out _ B14.out).mono ?_
    rintro e w15 ⟨pd,cd,fpd,rfl,ho,hnd,hrg,hb⟩
    have K15:Hid (Below w14.heap.size w14 w15):=hb
    have B15:Hid (Below w.heap.size w w15):=B14.out.trans (K15.out.mono B14.out.size)
    have Ow15:Hid (ORows w15 47 3 (OMd w15 d) (.slice pw nl cw) L fpw):=oms_keep Ow14.out (KeepOn.below K15.out (fun a ha=>oms_lt Ow14.out a ha))
    have Om15:Hid (ORows w15 47 3 (OMd w15 d) (.slice pg nl cg) (markL (markMS d) (cntMS d) 1 L) fpg):=oms_keep Om14.out (KeepOn.below K15.out (fun a ha=>oms_lt Om14.out a ha))
    have bw15:Hid (Blk w15 w3.heap.size #[.slice pw nl cw,.slice none 0 0,.slice none 0 0,.slice none 0 0,.slice none 0 0] 28):=bw14.out.next K15.out
    have bg15:Hid (Blk w15 w6.heap.size #[.slice pg nl cg,.slice none 0 0,.slice none 0 0,.slice none 0 0,.slice none 0 0] 28):=bg14.out.next K15.out
    clear Ow14 Om14 bw14 bg14 hb
    have Od15:Hid (ORows w15 47 3 (OMd w15 d) (.slice pd n cd) ms fpd):=ho
    have Rd:Hid (fpd.Nodup∧∀ a ∈ fpd,w14.heap.size≤a∧a<w15.heap.size):=⟨hnd,hrg⟩
    clear ho hnd hrg
    go_wp2_with fail
    refine (IM.out _ _ fpd B15.out Od15.out).mono ?_
    rintro e w16 ⟨ph,ch,fph,rfl,ho,hnd,hrg,hb⟩
    have K16:Hid (Below w15.heap.size w15 w16):=hb
    have B16:Hid (Below w.heap.size w w16):=B15.out.trans (K16.out.mono B15.out.size)
    have Ow16:Hid (ORows w16 47 3 (OMd w16 d) (.slice pw nl cw) L fpw):=oms_keep Ow15.out (KeepOn.below K16.out (fun a ha=>oms_lt Ow15.out a ha))
    have Om16:Hid (ORows w16 47 3 (OMd w16 d) (.slice pg nl cg) (markL (markMS d) (cntMS d) 1 L) fpg):=oms_keep Om15.out (KeepOn.below K16.out (fun a ha=>oms_lt Om15.out a ha))
    have Od16:Hid (ORows w16 47 3 (OMd w16 d) (.slice pd n cd) ms fpd):=oms_keep Od15.out (KeepOn.below K16.out (fun a ha=>oms_lt Od15.out a ha))
    have bw16:Hid (Blk w16 w3.heap.size #[.slice pw nl cw,.slice none 0 0,.slice none 0 0,.slice none 0 0,.slice none 0 0] 28):=bw15.out.next K16.out
    have bg16:Hid (Blk w16 w6.heap.size #[.slice pg nl cg,.slice none 0 0,.slice none 0 0,.slice none 0 0,.slice none 0 0] 28):=bg15.out.next K16.out
    clear Ow15 Om15 Od15 bw15 bg15 hb
    have Oh16:Hid (ORows w16 47 3 (OMd w16 d) (.slice ph nl ch) L fph):=ho
    have Rh:Hid (fph.Nodup∧∀ a ∈ fph,w15.heap.size≤a∧a<w16.heap.size):=⟨hnd,hrg⟩
    clear ho hnd hrg
    obtain ⟨w17,hW⟩:∃ W,W=w16.alloc (.cells #[.slice ph nl ch,.slice none 0 0,.slice none 0 0,.slice none 0 0,.slice none 0 0] 28):=⟨_,rfl⟩
    have hb:Below w16.heap.size w16 w17:=by rw [hW];exact alloc_below _ _
    have X17:Hid (Blk w17 w16.heap.size #[.slice ph nl ch,.slice none 0 0,.slice none 0 0,.slice none 0 0,.slice none 0 0] 28):=by
      show Blk _ _ _ _
      rw [hW];exact Blk.new
    have HW17:Hid (w17=w16.alloc (.cells #[.slice ph nl ch,.slice none 0 0,.slice none 0 0,.slice none 0 0,.slice none 0 0] 28)):=hW
    clear hW
    have K17:Hid (Below w16.heap.size w16 w17):=hb
    have B17:Hid (Below w.heap.size w w17):=B16.out.trans (K17.out.mono B16.out.size)
    have Ow17:Hid (ORows w17 47 3 (OMd w17 d) (.slice pw nl cw) L fpw):=oms_keep Ow16.out (KeepOn.below K17.out (fun a ha=>oms_lt Ow16.out a ha))
    have Om17:Hid (ORows w17 47 3 (OMd w17 d) (.slice pg nl cg) (markL (markMS d) (cntMS d) 1 L) fpg):=oms_keep Om16.out (KeepOn.below K17.out (fun a ha=>oms_lt Om16.out a ha))
    have Od17:Hid (ORows w17 47 3 (OMd w17 d) (.slice pd n cd) ms fpd):=oms_keep Od16.out (KeepOn.below K17.out (fun a ha=>oms_lt Od16.out a ha))
    have Oh17:Hid (ORows w17 47 3 (OMd w17 d) (.slice ph nl ch) L fph):=oms_keep Oh16.out (KeepOn.below K17.out (fun a ha=>oms_lt Oh16.out a ha))
    have bw17:Hid (Blk w17 w3.heap.size #[.slice pw nl cw,.slice none 0 0,.slice none 0 0,.slice none 0 0,.slice none 0 0] 28):=bw16.out.next K17.out
    have bg17:Hid (Blk w17 w6.heap.size #[.slice pg nl cg,.slice none 0 0,.slice none 0 0,.slice none 0 0,.slice none 0 0] 28):=bg16.out.next K17.out
    clear Ow16 Om16 Od16 Oh16 bw16 bg16 hb
    have bh17:Hid (Blk w17 w16.heap.size #[.slice ph nl ch,.slice none 0 0,.slice none 0 0,.slice none 0 0,.slice none 0 0] 28):=X17.out
    have Sh:Hid (w16.heap.size≤w17.heap.size):=K17.out.size
    have yh0:=bh17.out.cell 0 _ rfl
    have yh1:=bh17.out.cell 1 _ rfl
    have yh2:=bh17.out.cell 2 _ rfl
    have yh3:=bh17.out.cell 3 _ rfl
    have yh4:=bh17.out.cell 4 _ rfl
    have yw0:=bw17.out.cell 0 _ rfl
    have yw1:=bw17.out.cell 1 _ rfl
    have yw2:=bw17.out.cell 2 _ rfl
    have yw3:=bw17.out.cell 3 _ rfl
    have yw4:=bw17.out.cell 4 _ rfl
    rw [HW17.out] at yh0 yh1 yh2 yh3 yh4 yw0 yw1 yw2 yw3 yw4
    go_wp2_with fail
    clear yh0 yh1 yh2 yh3 yh4 yw0 yw1 yw2 yw3 yw4
    rw [← HW17.out]
    refine (eqSession_any d _ _ _ _ _ _ L (oms_tree Oh17.out) (oms_tree Ow17.out)).mono ?_
    rintro e w18 ⟨rfl,hb⟩
    have K18:Hid (Below w17.heap.size w17 w18):=hb
    have B18:Hid (Below w.heap.size w w18):=B17.out.trans (K18.out.mono B17.out.size)
    have Ow18:Hid (ORows w18 47 3 (OMd w18 d) (.slice pw nl cw) L fpw):=oms_keep Ow17.out (KeepOn.below K18.out (fun a ha=>oms_lt Ow17.out a ha))
    have Om18:Hid (ORows w18 47 3 (OMd w18 d) (.slice pg nl cg) (markL (markMS d) (cntMS d) 1 L) fpg):=oms_keep Om17.out (KeepOn.below K18.out (fun a ha=>oms_lt Om17.out a ha))
    have Od18:Hid (ORows w18 47 3 (OMd w18 d) (.slice pd n cd) ms fpd):=oms_keep Od17.out (KeepOn.below K18.out (fun a ha=>oms_lt Od17.out a ha))
    have Oh18:Hid (ORows w18 47 3 (OMd w18 d) (.slice ph nl ch) L fph):=oms_keep Oh17.out (KeepOn.below K18.out (fun a ha=>oms_lt Oh17.out a ha))
    have bw18:Hid (Blk w18 w3.heap.size #[.slice pw nl cw,.slice none 0 0,.slice none 0 0,.slice none 0 0,.slice none 0 0] 28):=bw17.out.next K18.out
    have bg18:Hid (Blk w18 w6.heap.size #[.slice pg nl cg,.slice none 0 0,.slice none 0 0,.slice none 0 0,.slice none 0 0] 28):=bg17.out.next K18.out
    have bh18:Hid (Blk w18 w16.heap.size #[.slice ph nl ch,.slice none 0 0,.slice none 0 0,.slice none 0 0,.slice none 0 0] 28):=bh17.out.next K18.out
    clear Ow17 Om17 Od17 Oh17 bw17 bg17 bh17 hb
    have yg0:=bg18.out.cell 0 _ rfl
    have yg1:=bg18.out.cell 1 _ rfl
    have yg2:=bg18.out.cell 2 _ rfl
    have yg3:=bg18.out.cell 3 _ rfl
    have yg4:=bg18.out.cell 4 _ rfl
    go_wp2_with fail
    clear yg0 yg1 yg2 yg3 yg4
    refine (heldSession_any _ _ _ km (fun w' hb=>HHE.out w' _ (oms_tree (oms_keep Om18.out (KeepOn.below hb (fun a ha=>oms_lt Om18.out a ha)))))).mono ?_
    rintro e w19 ⟨rfl,hb⟩
    have K19:Hid (Below w18.heap.size w18 w19):=hb
    have B19:Hid (Below w.heap.size w w19):=B18.out.trans (K19.out.mono B18.out.size)
    have Ow19:Hid (ORows w19 47 3 (OMd w19 d) (.slice pw nl cw) L fpw):=oms_keep Ow18.out (KeepOn.below K19.out (fun a ha=>oms_lt Ow18.out a ha))
    have Om19:Hid (ORows w19 47 3 (OMd w19 d) (.slice pg nl cg) (markL (markMS d) (cntMS d) 1 L) fpg):=oms_keep Om18.out (KeepOn.below K19.out (fun a ha=>oms_lt Om18.out a ha))
    have Od19:Hid (ORows w19 47 3 (OMd w19 d) (.slice pd n cd) ms fpd):=oms_keep Od18.out (KeepOn.below K19.out (fun a ha=>oms_lt Od18.out a ha))
    have Oh19:Hid (ORows w19 47 3 (OMd w19 d) (.slice ph nl ch) L fph):=oms_keep Oh18.out (KeepOn.below K19.out (fun a ha=>oms_lt Oh18.out a ha))
    have bw19:Hid (Blk w19 w3.heap.size #[.slice pw nl cw,.slice none 0 0,.slice none 0 0,.slice none 0 0,.slice none 0 0] 28):=bw18.out.next K19.out
    have bg19:Hid (Blk w19 w6.heap.size #[.slice pg nl cg,.slice none 0 0,.slice none 0 0,.slice none 0 0,.slice none 0 0] 28):=bg18.out.next K19.out
    have bh19:Hid (Blk w19 w16.heap.size #[.slice ph nl ch,.slice none 0 0,.slice none 0 0,.slice none 0 0,.slice none 0 0] 28):=bh18.out.next K19.out
    clear Ow18 Om18 Od18 Oh18 bw18 bg18 bh18 hb
    go_wp2_with fail
    go_ret
    exact ⟨rfl,B19.out⟩
end Go.Proofs.YtefpgpbbgclemaaGreatDoor
