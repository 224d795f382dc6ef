/-
  ReachWalk
-/
import Derived.Test.YtknjlffbdadohaaGreatDoorP49
import Derived.Test.YtknjlffbdadohaaGreatDoorP44b
import Derived.Test.YtknjlffbdadohaaGreatDoorP07
import Derived.Test.YtknjlffbdadohaaGreatDoorP28
set_option maxHeartbeats 16000000
set_option linter.unusedVariables false
set_option maxRecDepth 100000
namespace Go.Proofs.YtknjlffbdadohaaGreatDoor
open Go.ChangeShapes Go.WideShapes Go.ChangeAt Go.RowKit
def OwnY (w:World) (B C:Nat) (v:Value) (l:List ByteArray):Prop:=OwnS w B v l∧∀ g,v.ownBlock=some g→g<C
theorem OwnY.of {w:World} {B:Nat} {v:Value} {l:List ByteArray} (h:OwnS w B v l):OwnY w B w.heap.size v l:=⟨h,fun g hg=>(h.off hg).2⟩
theorem OwnY.next {w w':World} {B C:Nat} {v:Value} {l:List ByteArray} (h:OwnY w B C v l) (hb:Below w.heap.size w w'):OwnY w' B C v l:=⟨h.1.next hb,h.2⟩
theorem OwnY.stay {w w':World} {B C:Nat} {v:Value} {l:List ByteArray} (h:OwnY w B C v l) (hs:w.heap.size≤w'.heap.size) (hk:∀ g,B≤g→g<C→g<w.heap.size→w'.heap[g]?=w.heap[g]?):OwnY w' B C v l:=by
  refine ⟨⟨⟨h.1.1.1,?_⟩,Nat.le_trans h.1.2 hs⟩,h.2⟩
  rcases h.1.1.2 with hn | ⟨g,cap,cur,hv,hB,hg,hr⟩
  · exact .inl hn
  · exact .inr ⟨g,cap,cur,hv,hB,(hk g hB (h.2 g (by rw [hv];rfl)) (Array.getElem?_eq_some_iff.1 hg).1).trans hg,hr⟩
theorem OwnY.offR {w w':World} {B C B' C':Nat} {v:Value} {l:List ByteArray} (h:OwnY w B C v l) (ho:OffR B' C' w w') (hd:C≤B'∨C'≤B):OwnY w' B C v l:=h.stay ho.size (fun g h1 h2 h3=>ho.block g h3 (by omega))
theorem OwnY.low {w w':World} {B C N:Nat} {v:Value} {l:List ByteArray} (h:OwnY w B C v l) (hb:Below N w w') (hN:C≤N):OwnY w' B C v l:=h.stay hb.size (fun g h1 h2 h3=>hb.block g (by omega))
theorem fnExactReached_walk (w:World) (d:Nat) (v:Value) (ms:List Md) (h:Rows w (fun g=>g<w.heap.size) 3 (HMd w (fun g=>g<w.heap.size) d) v ms) (hT:Tabs w) (hp:PowAt w) :
    Calls Tryz.prog 3 #[v] w fun e w'=>e=.returned (.bool true)∧Below w.heap.size w w':=by
  have HTAB:Hid (Tabs w):=hT
  have HPOW:Hid (PowAt w):=hp
  have Z:Hid (Rows w (fun g=>g<w.heap.size) 3 (HMd w (fun g=>g<w.heap.size) d) v ms):=h
  have H:Hid (∀ w',Below w.heap.size w w'→Rows w' All 3 (HMd w' All d) v ms):=fun w' hw=>h.mono (SameOn.of_below hw) (fun _ _=>trivial) (fun _ _ _ h=>h.mono (SameOn.of_below hw) (fun _ _=>trivial))
  obtain ⟨p,cap,rfl,-⟩:=h
  generalize hx:wtS (wtMd d) ms=x at *
  have HX:Hid (wtS (wtMd d) ms=x):=hx
  generalize hr0:leftOf 1048576 x=r at *
  have SZ:Hid (Calls Tryz.prog 4 #[.slice p ms.length cap,.int .i64 1048576] w fun e w'=>e=.returned (.int .i64 r)∧Below w.heap.size w w'):=by
    have:=(szModuleS_all (N:=w.heap.size) d).at ms (1048576:Int) 1048576 rfl Z.out (Nat.le_refl _)
    rw [HX.out,hr0] at this
    exact this
  by_cases hw:1048576<x
  · have hr:r = -1:=by rw [← hr0];exact leftOf_lt hw
    subst hr
    go_enter Tryz.func3,Tryz.ntmps3
    go_wp2_with fail
    refine SZ.out.mono ?_
    rintro e w1 ⟨rfl,hb⟩
    have B1:Hid (Below w.heap.size w w1):=hb
    clear hb
    go_wp2_with fail
    go_ret
    exact ⟨rfl,B1.out⟩
  · obtain ⟨q,rfl⟩:∃ q:Nat,r=(q:Int):=⟨1048576 - x,by rw [← hr0];exact leftOf_ge (by omega)⟩
    have HW:Hid (wtS (wtMd d) ms≤1048576):=by show _≤_;rw [HX.out];omega
    have TO:Hid (∀ w',Below w.heap.size w w'→Calls Tryz.prog 6 #[.slice p ms.length cap] w' fun e w''=>∃ pu cu fp,e=.returned (.slice pu ms.length cu)∧ORows w'' 42 3 (OMd w'' d) (.slice pu ms.length cu) ms fp∧fp.Nodup∧(∀ a ∈ fp,w'.heap.size≤a∧a<w''.heap.size)∧Below w'.heap.size w' w''):=fun w' hw=>by
      refine (toModuleS_own d w' _ ms (H.out w' hw) HW.out).mono ?_
      rintro e w'' ⟨u,fp,rfl,ho,hn,hr,hb⟩
      obtain ⟨pu,cu,rfl,-⟩:=ho.shape
      exact ⟨pu,cu,fp,rfl,ho,hn,hr,hb⟩
    have HCN:Hid (1+(ms.map (cntMS d)).sum≤1099511627776):=by
      show _≤_
      have:=cntMS_le d ms
      have:=HW.out
      omega
    obtain ⟨LF,HIS,hll⟩:=reach_ex d ms
    have hl:Hid (LF.length≤1048576):=Nat.le_trans hll (Nat.le_trans (namesL_len d ms) HW.out)
    have SP:Hid (∀ w' v,Rows w' All 3 (HMd w' All d) v ms→Calls Tryz.prog 5 #[v] w' fun e w''=>∃ u,e=.returned u∧OwnY w'' w'.heap.size w''.heap.size u LF∧Below w'.heap.size w' w''):=fun w' v hr=>by
      refine (specReached_any d w' v ms LF HIS hr HW.out).mono ?_
      rintro e w'' ⟨u,rfl,ho,hb⟩
      exact ⟨u,rfl,OwnY.of ho,hb⟩
    have IM:Hid (∀ w' v,Below w.heap.size w w'→Rows w' All 3 (HMd w' All d) v ms→Calls Tryz.prog 7 #[v] w' fun e w''=>∃ u,e=.returned u∧OwnY w'' w'.heap.size w''.heap.size u LF∧Below w'.heap.size w' w''):=fun w' v hb hr=>by
      refine (implReached_any d w' v ms LF HIS (HTAB.out.below hb) (powAt_below HPOW.out hb) hr HW.out).mono ?_
      rintro e w'' ⟨u,rfl,ho,hb⟩
      exact ⟨u,rfl,OwnY.of ho,hb⟩
    clear hr0 hx hw HIS hll
    have hq:¬ (q:Int)<0:=by omega
    generalize hn:ms.length=n at *
    clear hn
    have hl4:LF.length≤4194304:=Nat.le_trans hl.out (by omega)
    go_enter Tryz.func3,Tryz.ntmps3
    go_wp2_with fail
    refine SZ.out.mono ?_
    rintro e w1 ⟨rfl,hb⟩
    have B1:Hid (Below w.heap.size w w1):=hb
    clear hb
    go_wp2_with fail
    refine (TO.out _ (by first | exact B1.out | exact B1.out.drew)).mono ?_
    rintro e w2 ⟨pa,ca,fpa,rfl,ho,hnd,hrg,hb⟩
    have OXa2:Hid (ORows w2 42 3 (OMd w2 d) (.slice pa n ca) ms fpa):=ho
    have RGa:Hid (fpa.Nodup∧∀ a ∈ fpa,w1.heap.size≤a∧a<w2.heap.size):=(by first | exact ⟨hnd,hrg⟩ | exact ⟨hnd,fun a ha=>hrg a ha⟩)
    have K2:Hid (Below w1.heap.size w1 w2):=(by first | exact hb | exact ⟨hb.os,hb.tape,hb.output,hb.size,hb.block⟩)
    have B2:Hid (Below w.heap.size w w2):=B1.out.trans (K2.out.mono B1.out.size)
    clear hb ho hnd hrg
    go_wp2_with fail
    refine (SP.out _ _ (oms_tree OXa2.out)).mono ?_
    rintro e w3 ⟨uw,rfl,ho,hb⟩
    have Ow3:Hid (OwnY w3 w2.heap.size w3.heap.size uw LF):=ho
    have K3:Hid (Below w2.heap.size w2 w3):=(by first | exact hb | exact ⟨hb.os,hb.tape,hb.output,hb.size,hb.block⟩)
    have B3:Hid (Below w.heap.size w w3):=B2.out.trans (K3.out.mono B2.out.size)
    clear hb ho
    go_wp2_with fail
    refine (TO.out _ (by first | exact B3.out | exact B3.out.drew)).mono ?_
    rintro e w4 ⟨pb,cb,fpb,rfl,ho,hnd,hrg,hb⟩
    have OXb4:Hid (ORows w4 42 3 (OMd w4 d) (.slice pb n cb) ms fpb):=ho
    have RGb:Hid (fpb.Nodup∧∀ a ∈ fpb,w3.heap.size≤a∧a<w4.heap.size):=(by first | exact ⟨hnd,hrg⟩ | exact ⟨hnd,fun a ha=>hrg a ha⟩)
    have K4:Hid (Below w3.heap.size w3 w4):=(by first | exact hb | exact ⟨hb.os,hb.tape,hb.output,hb.size,hb.block⟩)
    have B4:Hid (Below w.heap.size w w4):=B3.out.trans (K4.out.mono B3.out.size)
    clear hb ho hnd hrg
    have Ow4:Hid (OwnY w4 w2.heap.size w3.heap.size uw LF):=OwnY.next Ow3.out K4.out
    clear Ow3
    go_wp2_with fail
    refine (IM.out _ _ B4.out (oms_tree OXb4.out)).mono ?_
    rintro e w5 ⟨ug,rfl,ho,hb⟩
    have Og5:Hid (OwnY w5 w4.heap.size w5.heap.size ug LF):=ho
    have K5:Hid (Below w4.heap.size w4 w5):=(by first | exact hb | exact ⟨hb.os,hb.tape,hb.output,hb.size,hb.block⟩)
    have B5:Hid (Below w.heap.size w w5):=B4.out.trans (K5.out.mono B4.out.size)
    clear hb ho
    have Ow5:Hid (OwnY w5 w2.heap.size w3.heap.size uw LF):=OwnY.next Ow4.out K5.out
    have OXb5:Hid (ORows w5 42 3 (OMd w5 d) (.slice pb n cb) ms fpb):=oms_keep OXb4.out (KeepOn.below K5.out (fun a ha=>oms_lt OXb4.out a ha))
    clear Ow4 OXb4
    go_wp2_with fail
    refine (eqS_own Og5.out.1 Ow5.out.1 hl4).mono ?_
    rintro e w6 ⟨rfl,hb⟩
    have K6:Hid (Below w5.heap.size w5 w6):=(by first | exact hb | exact ⟨hb.os,hb.tape,hb.output,hb.size,hb.block⟩)
    have B6:Hid (Below w.heap.size w w6):=B5.out.trans (K6.out.mono B5.out.size)
    clear hb
    have Ow6:Hid (OwnY w6 w2.heap.size w3.heap.size uw LF):=OwnY.next Ow5.out K6.out
    have Og6:Hid (OwnY w6 w4.heap.size w5.heap.size ug LF):=OwnY.next Og5.out K6.out
    have OXb6:Hid (ORows w6 42 3 (OMd w6 d) (.slice pb n cb) ms fpb):=oms_keep OXb5.out (KeepOn.below K6.out (fun a ha=>oms_lt OXb5.out a ha))
    clear Ow5 Og5 OXb5
    go_wp2_with fail
    refine (TO.out _ (by first | exact B6.out | exact B6.out.drew)).mono ?_
    rintro e w7 ⟨pc,cc,fpc,rfl,ho,hnd,hrg,hb⟩
    have OXc7:Hid (ORows w7 42 3 (OMd w7 d) (.slice pc n cc) ms fpc):=ho
    have RGc:Hid (fpc.Nodup∧∀ a ∈ fpc,w6.heap.size≤a∧a<w7.heap.size):=(by first | exact ⟨hnd,hrg⟩ | exact ⟨hnd,fun a ha=>hrg a ha⟩)
    have K7:Hid (Below w6.heap.size w6 w7):=(by first | exact hb | exact ⟨hb.os,hb.tape,hb.output,hb.size,hb.block⟩)
    have B7:Hid (Below w.heap.size w w7):=B6.out.trans (K7.out.mono B6.out.size)
    clear hb ho hnd hrg
    have Ow7:Hid (OwnY w7 w2.heap.size w3.heap.size uw LF):=OwnY.next Ow6.out K7.out
    have Og7:Hid (OwnY w7 w4.heap.size w5.heap.size ug LF):=OwnY.next Og6.out K7.out
    have OXb7:Hid (ORows w7 42 3 (OMd w7 d) (.slice pb n cb) ms fpb):=oms_keep OXb6.out (KeepOn.below K7.out (fun a ha=>oms_lt OXb6.out a ha))
    clear Ow6 Og6 OXb6
    go_wp2_with fail
    refine (eqModuleS_all d _ _ _ ms (oms_tree OXb7.out) (oms_tree OXc7.out)).mono ?_
    rintro e w8 ⟨rfl,hb⟩
    have K8:Hid (Below w7.heap.size w7 w8):=(by first | exact hb | exact ⟨hb.os,hb.tape,hb.output,hb.size,hb.block⟩)
    have B8:Hid (Below w.heap.size w w8):=B7.out.trans (K8.out.mono B7.out.size)
    clear hb
    have Ow8:Hid (OwnY w8 w2.heap.size w3.heap.size uw LF):=OwnY.next Ow7.out K8.out
    have Og8:Hid (OwnY w8 w4.heap.size w5.heap.size ug LF):=OwnY.next Og7.out K8.out
    have OXb8:Hid (ORows w8 42 3 (OMd w8 d) (.slice pb n cb) ms fpb):=oms_keep OXb7.out (KeepOn.below K8.out (fun a ha=>oms_lt OXb7.out a ha))
    clear Ow7 Og7 OXb7
    go_wp2_with fail
    refine (markMS_all d _ _ ms fpb 1 OXb8.out RGb.out.1 (Nat.le_refl _) HCN.out).mono ?_
    rintro e w9 ⟨rfl,-,off9⟩
    have S3:Hid (w.heap.size≤w3.heap.size):=B3.out.size
    have SZ89:Hid (w8.heap.size≤w9.heap.size):=off9.size
    have OR9:OffR w3.heap.size w4.heap.size w8 w9:=OffR.of off9 RGb.out.2
    have Ow9:Hid (OwnY w9 w2.heap.size w3.heap.size uw LF):=OwnY.offR Ow8.out OR9 (.inl (Nat.le_refl _))
    have Og9:Hid (OwnY w9 w4.heap.size w5.heap.size ug LF):=OwnY.offR Og8.out OR9 (.inr (Nat.le_refl _))
    have hb:Below w3.heap.size w8 w9:=OR9.below (Nat.le_refl _) (Nat.le_trans K4.out.size (Nat.le_trans K5.out.size (Nat.le_trans K6.out.size (Nat.le_trans K7.out.size K8.out.size))))
    have B9:Hid (Below w.heap.size w w9):=B8.out.trans (hb.mono S3.out)
    have hkz0:(0:Int)≤((1+(ms.map (cntMS d)).sum:Nat):Int):=by omega
    generalize ((1+(ms.map (cntMS d)).sum:Nat):Int)=kz at hkz0 ⊢
    have hkz:¬ kz<0:=by omega
    clear off9 OR9 hb OXb8 Ow8 Og8 hkz0
    go_wp2_with fail
    refine (eqS_own Og9.out.1 Ow9.out.1 hl4).mono ?_
    rintro e w10 ⟨rfl,hb⟩
    have K10:Hid (Below w9.heap.size w9 w10):=(by first | exact hb | exact ⟨hb.os,hb.tape,hb.output,hb.size,hb.block⟩)
    have B10:Hid (Below w.heap.size w w10):=B9.out.trans (K10.out.mono B9.out.size)
    clear hb
    have Ow10:Hid (OwnY w10 w2.heap.size w3.heap.size uw LF):=OwnY.next Ow9.out K10.out
    have Og10:Hid (OwnY w10 w4.heap.size w5.heap.size ug LF):=OwnY.next Og9.out K10.out
    clear Ow9 Og9
    go_wp2_with fail
    refine (markS_own Og10.out.1 hl4).mono ?_
    rintro e w11 ⟨rfl,hm11,hb⟩
    have M11:Hid (MarkedS w11 ug LF.length):=hm11
    have S4:Hid (w3.heap.size≤w4.heap.size):=K4.out.size
    have Ow11:Hid (OwnY w11 w2.heap.size w3.heap.size uw LF):=OwnY.low Ow10.out hb S4.out
    have B11:Hid (Below w.heap.size w w11):=B10.out.trans (hb.mono (Nat.le_trans S3.out S4.out))
    clear hb hm11 Ow10 Og10
    go_wp2_with fail
    refine (heldS_own M11.out hl4).mono ?_
    rintro e w12 ⟨rfl,hb⟩
    have K12:Hid (Below w11.heap.size w11 w12):=(by first | exact hb | exact ⟨hb.os,hb.tape,hb.output,hb.size,hb.block⟩)
    have B12:Hid (Below w.heap.size w w12):=B11.out.trans (K12.out.mono B11.out.size)
    clear hb
    have M12:Hid (MarkedS w12 ug LF.length):=M11.out.next K12.out
    have Ow12:Hid (OwnY w12 w2.heap.size w3.heap.size uw LF):=OwnY.next Ow11.out K12.out
    clear M11 Ow11
    go_wp2_with fail
    refine (TO.out _ (by first | exact B12.out | exact B12.out.drew)).mono ?_
    rintro e w13 ⟨pd,cd,fpd,rfl,ho,hnd,hrg,hb⟩
    have OXd13:Hid (ORows w13 42 3 (OMd w13 d) (.slice pd n cd) ms fpd):=ho
    have RGd:Hid (fpd.Nodup∧∀ a ∈ fpd,w12.heap.size≤a∧a<w13.heap.size):=(by first | exact ⟨hnd,hrg⟩ | exact ⟨hnd,fun a ha=>hrg a ha⟩)
    have K13:Hid (Below w12.heap.size w12 w13):=(by first | exact hb | exact ⟨hb.os,hb.tape,hb.output,hb.size,hb.block⟩)
    have B13:Hid (Below w.heap.size w w13):=B12.out.trans (K13.out.mono B12.out.size)
    clear hb ho hnd hrg
    have M13:Hid (MarkedS w13 ug LF.length):=M12.out.next K13.out
    have Ow13:Hid (OwnY w13 w2.heap.size w3.heap.size uw LF):=OwnY.next Ow12.out K13.out
    clear M12 Ow12
    go_wp2_with fail
    refine (IM.out _ _ B13.out (oms_tree OXd13.out)).mono ?_
    rintro e w14 ⟨uh,rfl,ho,hb⟩
    have Oh14:Hid (OwnY w14 w13.heap.size w14.heap.size uh LF):=ho
    have K14:Hid (Below w13.heap.size w13 w14):=(by first | exact hb | exact ⟨hb.os,hb.tape,hb.output,hb.size,hb.block⟩)
    have B14:Hid (Below w.heap.size w w14):=B13.out.trans (K14.out.mono B13.out.size)
    clear hb ho
    have M14:Hid (MarkedS w14 ug LF.length):=M13.out.next K14.out
    have Ow14:Hid (OwnY w14 w2.heap.size w3.heap.size uw LF):=OwnY.next Ow13.out K14.out
    clear M13 Ow13
    go_wp2_with fail
    refine (eqS_own Oh14.out.1 Ow14.out.1 hl4).mono ?_
    rintro e w15 ⟨rfl,hb⟩
    have K15:Hid (Below w14.heap.size w14 w15):=(by first | exact hb | exact ⟨hb.os,hb.tape,hb.output,hb.size,hb.block⟩)
    have B15:Hid (Below w.heap.size w w15):=B14.out.trans (K15.out.mono B14.out.size)
    clear hb
    have M15:Hid (MarkedS w15 ug LF.length):=M14.out.next K15.out
    clear M14
    go_wp2_with fail
    refine (heldS_own M15.out hl4).mono ?_
    rintro e w16 ⟨rfl,hb⟩
    have K16:Hid (Below w15.heap.size w15 w16):=(by first | exact hb | exact ⟨hb.os,hb.tape,hb.output,hb.size,hb.block⟩)
    have B16:Hid (Below w.heap.size w w16):=B15.out.trans (K16.out.mono B15.out.size)
    clear hb
    go_wp2
    go_ret
    exact ⟨rfl,B16.out⟩
end Go.Proofs.YtknjlffbdadohaaGreatDoor
