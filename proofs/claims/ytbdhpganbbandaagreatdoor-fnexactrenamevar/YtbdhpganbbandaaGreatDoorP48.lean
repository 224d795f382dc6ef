/-
  RenVarWalk
-/
import Derived.Test.YtbdhpganbbandaaGreatDoorP47
import Derived.Test.YtbdhpganbbandaaGreatDoorP23
set_option maxHeartbeats 16000000
set_option linter.unusedVariables false
set_option maxRecDepth 100000
namespace Go.Proofs.YtbdhpganbbandaaGreatDoor
open Go.ChangeShapes Go.WideShapes Go.ChangeAt Go.RowKit
theorem setAt_wt (d:Nat) (ms:List Md) (q:Pl) (sf st:ByteArray) (hs:st.size≤10):wtS (wtMd d) (setAt ms q (mapC (fT (ftV sf st)) d))≤11 * wtS (wtMd d) ms:=by
  unfold setAt
  cases hk:ms.findIdx? (named q.mod) with
  | none=>simp only;omega
  | some k =>
    simp only
    cases hm:ms[k]? with
    | none=>simp only;omega
    | some m =>
      simp only
      cases hj:m.funs.findIdx? (sameR ⟨q.name,q.arity⟩) with
      | none=>simp only;omega
      | some j =>
        simp only
        cases hf:m.funs[j]? with
        | none=>simp only;omega
        | some f =>
          simp only
          cases hc:f.clauses[q.clause.toNat]? with
          | none=>simp only;omega
          | some c =>
            simp only
            have key:∀ {α:Type} (p:α→Bool) (xs:List α) (k:Nat) (x:α),xs.findIdx? p=some k→xs[k]?=some x→p x=true∧(xs.take k).any p=false:=fun p xs k x h1 h2=>by
              rw [List.findIdx?_eq_some_iff_getElem] at h1
              obtain ⟨hl,g1,g2⟩:=h1
              obtain ⟨hl',e⟩:=List.getElem?_eq_some_iff.1 h2
              refine ⟨by rw [← e];exact g1,?_⟩
              rw [List.any_eq_false]
              intro y hy
              obtain ⟨n,hn⟩:=List.mem_iff_getElem?.1 hy
              rw [List.getElem?_take] at hn
              split at hn
              · rename_i hnk
                have:=g2 n hnk
                obtain ⟨hl2,e2⟩:=List.getElem?_eq_some_iff.1 hn
                rw [← e2];exact this
              · cases hn
            have k1:=key _ _ _ _ hk hm
            have k2:=key _ _ _ _ hj hf
            exact ren_wt (d:=d) (q:=⟨q.mod,q.name,q.arity,(q.clause.toNat:Nat)⟩) ⟨hm,k1.1,k1.2,hf,k2.1,k2.2,hc,rfl⟩ sf st hs
theorem renVar_wt (d:Nat) (ms:List Md) (q:Pl) (sf st:ByteArray):wtS (wtMd d) (renVar d ms q sf st).1≤11 * wtS (wtMd d) ms:=by
  unfold renVar
  split
  · rename_i hz
    have hs:=varB_size (renCode_ok hz).2.2.1
    unfold finM
    split
    · exact setAt_wt d ms q sf st hs
    · simp only;omega
  · simp only;omega
theorem fnExactRenameVar_walk (w:World) (d:Nat) (v:Value) (ms:List Md) (q:Pl) (sf st:ByteArray) (h:Rows w (fun g=>g<w.heap.size) 3 (HMd w (fun g=>g<w.heap.size) d) v ms) (hq0:okS q.mod) (hq1:okS q.name) (hsf:okS sf) (hst:okS st) (hT:Tabs w∧ErrsAt w) :
    Calls Tryz.prog 3 #[v,.agg #[.string q.mod,.string q.name,.int .i64 q.arity,.int .i64 q.clause],.string sf,.string st] w fun e w'=>e=.returned (.bool true)∧Below w.heap.size w w':=by
  have HTAB:Hid (Tabs w):=hT.1
  have HEE:Hid (ErrsAt w):=hT.2
  have Z:Hid (Rows w (fun g=>g<w.heap.size) 3 (HMd w (fun g=>g<w.heap.size) d) v ms):=h
  have H:Hid (∀ w',Below w.heap.size w w'→Rows w' All 3 (HMd w' All d) v ms):=fun w' hw=>h.mono (SameOn.of_below hw) (fun _ _=>trivial) (fun _ _ _ h=>h.mono (SameOn.of_below hw) (fun _ _=>trivial))
  have HTX:Hid (okS sf∧okS st):=⟨hsf,hst⟩
  obtain ⟨p,cap,rfl,-⟩:=h
  obtain ⟨W1,hW1⟩:∃ W1,W1=w.alloc (.cells #[.string q.mod,.string q.name,.int .i64 q.arity,.int .i64 q.clause] 24):=⟨_,rfl⟩
  have bA:Hid (Blk W1 w.heap.size #[.string q.mod,.string q.name,.int .i64 q.arity,.int .i64 q.clause] 24):=by show Blk _ _ _ _;rw [hW1];exact Blk.new
  have BA:Hid (Below w.heap.size w W1):=by show Below _ _ _;rw [hW1];exact (Below.refl _ _).alloc (Nat.le_refl _) _
  have HW1:Hid (W1=w.alloc (.cells #[.string q.mod,.string q.name,.int .i64 q.arity,.int .i64 q.clause] 24)):=hW1
  have hmf:sf.size≤9223372036854775807:=by unfold okS maxLen at hsf;omega
  have hmt:st.size≤9223372036854775807:=by unfold okS maxLen at hst;omega
  by_cases hlf:1048576<sf.size
  · have hlf':(1048576:Int)<(sf.size:Int):=by omega
    clear hW1 hq0 hq1
    go_enter Tryz.func3,Tryz.ntmps3
    go_wp2_with (rw [← HW1.out])
    go_ret
    exact ⟨rfl,BA.out⟩
  have hlf':¬ (1048576:Int)<(sf.size:Int):=by omega
  by_cases hlt:1048576<st.size
  · have hlt':(1048576:Int)<(st.size:Int):=by omega
    clear hW1 hq0 hq1
    go_enter Tryz.func3,Tryz.ntmps3
    go_wp2_with (rw [← HW1.out])
    go_ret
    exact ⟨rfl,BA.out⟩
  have hlt':¬ (1048576:Int)<(st.size:Int):=by omega
  generalize hx:wtS (wtMd d) ms=x at *
  have HX:Hid (wtS (wtMd d) ms=x):=hx
  generalize hr0:leftOf 1048576 x=r at *
  have SZ:Hid (Calls Tryz.prog 4 #[.slice p ms.length cap,.int .i64 1048576] W1 fun e w'=>e=.returned (.int .i64 r)∧Below W1.heap.size W1 w'):=by
    have:=(szModuleS_all (N:=w.heap.size) d).at ms (w:=W1) (1048576:Int) 1048576 rfl (Z.out.mono (SameOn.of_low (BA.out)) (fun _ h=>h) (fun _ _ _ h=>h.mono (SameOn.of_low (BA.out)) (fun _ h=>h))) (by omega)
    rw [HX.out,hr0] at this
    exact this
  clear hW1
  by_cases hw:1048576<x
  · have hr:r = -1:=by rw [← hr0];exact leftOf_lt hw
    subst hr
    go_enter Tryz.func3,Tryz.ntmps3
    go_wp2_with fail
    rw [← HW1.out]
    refine SZ.out.mono ?_
    rintro e w1 ⟨rfl,hb⟩
    have B1:Hid (Below w.heap.size w w1):=BA.out.trans (hb.mono BA.out.size)
    clear hb
    go_wp2_with fail
    go_ret
    exact ⟨rfl,B1.out⟩
  · obtain ⟨rn,rfl⟩:∃ rn:Nat,r=(rn:Int):=⟨1048576 - x,by rw [← hr0];exact leftOf_ge (by omega)⟩
    have hrn:rn≤1048576:=by have:=leftOf_ge (left:=1048576) (wt:=x) (by omega);omega
    have HW:Hid (wtS (wtMd d) ms≤1048576):=by show _≤_;rw [HX.out];omega
    have HWL:Hid (wtS (wtMd d) ms≤lawW):=by show _≤_;rw [HX.out];unfold lawW;omega
    generalize hr1:leftOf rn (wtPl q)=r1 at *
    have SP:Hid (∀ w',Calls Tryz.prog 5 #[.agg #[.string q.mod,.string q.name,.int .i64 q.arity,.int .i64 q.clause],.int .i64 rn] w' fun e w''=>e=.returned (.int .i64 r1)∧Below w'.heap.size w' w''):=fun w'=>by
      have:=szPlace_any w' q rn (by omega) hq0 hq1
      rwa [hr1] at this
    have TP:Hid (∀ w',Calls Tryz.prog 8 #[.agg #[.string q.mod,.string q.name,.int .i64 q.arity,.int .i64 q.clause]] w' fun e w''=>e=.returned (.agg #[.string q.mod,.string q.name,.int .i64 q.arity,.int .i64 q.clause])∧Below w'.heap.size w' w''):=fun w'=>toPlace_any w' q
    have TO:Hid (∀ w',Below w.heap.size w w'→Calls Tryz.prog 7 #[.slice p ms.length cap] w' fun e w''=>∃ pu cu fp,e=.returned (.slice pu ms.length cu)∧ORows w'' 61 3 (OMd w'' d) (.slice pu ms.length cu) ms fp∧fp.Nodup∧(∀ a ∈ fp,w'.heap.size≤a∧a<w''.heap.size)∧Below w'.heap.size w' w''):=fun w' hw=>by
      refine (toModuleS_own d w' _ ms (H.out w' hw) (Nat.le_trans HW.out (by omega))).mono ?_
      rintro e w'' ⟨u,fp,rfl,ho,hn,hr,hb⟩
      obtain ⟨pu,cu,rfl,-⟩:=ho.shape
      exact ⟨pu,cu,fp,rfl,ho,hn,hr,hb⟩
    have HCN:Hid (1+(ms.map (cntMS d)).sum≤1099511627776):=by
      show _≤_
      have:=cntMS_le d ms
      have:=HW.out
      omega
    have HCL:Hid (1+((renVar d ms q sf st).1.map (cntMS d)).sum≤1099511627776):=by
      show _≤_
      have:=cntMS_le d (renVar d ms q sf st).1
      have:=renVar_wt d ms q sf st
      have:=HW.out
      omega
    have SV:Hid (∀ w' v,Rows w' All 3 (HMd w' All d) v ms→Calls Tryz.prog 6 #[v,.agg #[.string q.mod,.string q.name,.int .i64 q.arity,.int .i64 q.clause],.string sf,.string st] w' fun e w''=>∃ pu cu fp,e=.returned (.tuple #[.slice pu (renVar d ms q sf st).1.length cu,.int .i64 (renVar d ms q sf st).2])∧ORows w'' 61 3 (OMd w'' d) (.slice pu (renVar d ms q sf st).1.length cu) (renVar d ms q sf st).1 fp∧fp.Nodup∧(∀ a ∈ fp,w'.heap.size≤a∧a<w''.heap.size)∧Below w'.heap.size w' w''):=fun w' v hr=>by
      refine (specRenameVar_any d w' v ms q sf st hr HWL.out HTX.out.2 HTX.out.1).mono ?_
      rintro e w'' ⟨u,fp,rfl,ho,hn,hr,hb⟩
      obtain ⟨pu,cu,rfl,-⟩:=ho.shape
      exact ⟨pu,cu,fp,rfl,ho,hn,hr,hb⟩
    have IM:Hid (∀ w' v fp0,Below w.heap.size w w'→ORows w' 61 3 (OMd w' d) v ms fp0→Calls Tryz.prog 9 #[v,.agg #[.string q.mod,.string q.name,.int .i64 q.arity,.int .i64 q.clause],.string sf,.string st] w' fun e w''=>∃ pu cu fp,e=.returned (.tuple #[.slice pu (renVar d ms q sf st).1.length cu,.int .i64 (renVar d ms q sf st).2])∧ORows w'' 61 3 (OMd w'' d) (.slice pu (renVar d ms q sf st).1.length cu) (renVar d ms q sf st).1 fp∧fp.Nodup∧(∀ a ∈ fp,w'.heap.size≤a∧a<w''.heap.size)∧Below w'.heap.size w' w''):=fun w' v fp0 hb hr=>by
      refine (implRenameVar_any d w' v ms q sf st fp0 (HTAB.out.below hb) (HEE.out.below hb) hr HWL.out HTX.out.2).mono ?_
      rintro e w'' ⟨u,fp,rfl,ho,hn,hr,hb⟩
      obtain ⟨pu,cu,rfl,-⟩:=ho.shape
      exact ⟨pu,cu,fp,rfl,ho,hn,hr,hb⟩
    clear hr0 hx hw hrn hq0 hq1
    have hrn0:¬ (rn:Int)<0:=by omega
    generalize hn:ms.length=n at *
    generalize hLF:renVar d ms q sf st=RR at *
    obtain ⟨L,cz⟩:=RR
    simp only at *
    generalize hnl:L.length=nl at *
    clear hn hLF hnl
    go_enter Tryz.func3,Tryz.ntmps3
    go_wp2_with fail
    rw [← HW1.out]
    refine SZ.out.mono ?_
    rintro e w1 ⟨rfl,hb⟩
    have B1:Hid (Below w.heap.size w w1):=BA.out.trans (hb.mono BA.out.size)
    have b1:Hid (Blk w1 w.heap.size #[.string q.mod,.string q.name,.int .i64 q.arity,.int .i64 q.clause] 24):=bA.out.next hb
    clear hb HW1 SZ bA BA
    have y0:=b1.out.cell 0 _ rfl
    have y1:=b1.out.cell 1 _ rfl
    have y2:=b1.out.cell 2 _ rfl
    have y3:=b1.out.cell 3 _ rfl
    go_wp2_with fail
    refine (SP.out _).mono ?_
    rintro e w2 ⟨rfl,hb⟩
    have B2:Hid (Below w.heap.size w w2):=B1.out.trans (hb.mono B1.out.size)
    have b2:Hid (Blk w2 w.heap.size #[.string q.mod,.string q.name,.int .i64 q.arity,.int .i64 q.clause] 24):=b1.out.next hb
    clear hb SP y0 y1 y2 y3
    by_cases hneg:rn<wtPl q
    · have hr:r1 = -1:=by rw [← hr1];exact leftOf_lt hneg
      subst hr
      go_wp2_with fail
      go_ret
      exact ⟨rfl,B2.out⟩
    obtain ⟨r2,rfl⟩:∃ r2:Nat,r1=(r2:Int):=⟨rn - wtPl q,by rw [← hr1];exact leftOf_ge (by omega)⟩
    have hr2:¬ (r2:Int)<0:=by omega
    clear hneg hr1
    have y0:=b2.out.cell 0 _ rfl
    have y1:=b2.out.cell 1 _ rfl
    have y2:=b2.out.cell 2 _ rfl
    have y3:=b2.out.cell 3 _ rfl
    go_wp2_with fail
    go_region_held3 (fun w'=>w'.cell? ⟨w.heap.size,0,none⟩=some (.string q.mod)∧w'.cell? ⟨w.heap.size,1,none⟩=some (.string q.name)∧w'.cell? ⟨w.heap.size,2,none⟩=some (.int .i64 q.arity)∧w'.cell? ⟨w.heap.size,3,none⟩=some (.int .i64 q.clause))
      (first | go_keep | (go_split_ands;refine ⟨?_,?_,?_,?_⟩ <;> exact cell_next hb (by assumption)))
      (first
        | (go_at_call 7;refine (TO.out _ (by first | exact B2.out | exact B2.out.drew)).mono ?_;rintro e w3 ⟨pa,ca,fpa,rfl,ho,hnd,hrg,hb⟩;have OXa3:Hid (ORows w3 61 3 (OMd w3 d) (.slice pa n ca) ms fpa):=ho;have RGa:Hid (fpa.Nodup∧∀ a ∈ fpa,w2.heap.size≤a∧a<w3.heap.size):=(by first | exact ⟨hnd,hrg⟩ | exact ⟨hnd,fun a ha=>hrg a ha⟩);have K3:Hid (Below w2.heap.size w2 w3):=(by first | exact hb | exact ⟨hb.os,hb.tape,hb.output,hb.size,hb.block⟩);clear ho hnd hrg)
        | (go_at_call 8;refine (toPlace_any _ q).mono ?_;rintro e w4 ⟨rfl,hb⟩;have K4:Hid (Below w3.heap.size w3 w4):=(by first | exact hb | exact ⟨hb.os,hb.tape,hb.output,hb.size,hb.block⟩))
        | (go_at_call 6;refine (SV.out _ _ (oms_tree (oms_keep OXa3.out (KeepOn.below K4.out (fun a ha=>oms_lt OXa3.out a ha))))).mono ?_;rintro e w5 ⟨pw,cw,fpw,rfl,ho,hnd,hrg,hb⟩;have OXw5:Hid (ORows w5 61 3 (OMd w5 d) (.slice pw nl cw) L fpw):=ho;have RGw:Hid (fpw.Nodup∧∀ a ∈ fpw,w4.heap.size≤a∧a<w5.heap.size):=⟨hnd,hrg⟩;have K5:Hid (Below w4.heap.size w4 w5):=(by first | exact hb | exact ⟨hb.os,hb.tape,hb.output,hb.size,hb.block⟩);clear ho hnd hrg))
    go_split_ands
    clear y0 y1 y2 y3 hb
    have B3:Hid (Below w.heap.size w w3):=B2.out.trans (K3.out.mono B2.out.size)
    have b3:Hid (Blk w3 w.heap.size #[.string q.mod,.string q.name,.int .i64 q.arity,.int .i64 q.clause] 24):=b2.out.next K3.out
    have B4:Hid (Below w.heap.size w w4):=B3.out.trans (K4.out.mono B3.out.size)
    have b4:Hid (Blk w4 w.heap.size #[.string q.mod,.string q.name,.int .i64 q.arity,.int .i64 q.clause] 24):=b3.out.next K4.out
    have B5:Hid (Below w.heap.size w w5):=B4.out.trans (K5.out.mono B4.out.size)
    have b5:Hid (Blk w5 w.heap.size #[.string q.mod,.string q.name,.int .i64 q.arity,.int .i64 q.clause] 24):=b4.out.next K5.out
    go_wp2_with fail
    refine (TO.out _ (by first | exact B5.out | exact B5.out.drew)).mono ?_
    rintro e w6 ⟨pb,cb,fpb,rfl,ho,hnd,hrg,hb⟩
    have OXb6:Hid (ORows w6 61 3 (OMd w6 d) (.slice pb n cb) ms fpb):=ho
    have RGb:Hid (fpb.Nodup∧∀ a ∈ fpb,w5.heap.size≤a∧a<w6.heap.size):=(by first | exact ⟨hnd,hrg⟩ | exact ⟨hnd,fun a ha=>hrg a ha⟩)
    have K6:Hid (Below w5.heap.size w5 w6):=(by first | exact hb | exact ⟨hb.os,hb.tape,hb.output,hb.size,hb.block⟩)
    have B6:Hid (Below w.heap.size w w6):=B5.out.trans (K6.out.mono B5.out.size)
    have b6:Hid (Blk w6 w.heap.size #[.string q.mod,.string q.name,.int .i64 q.arity,.int .i64 q.clause] 24):=b5.out.next K6.out
    clear hb ho hnd hrg
    have OXw6:Hid (ORows w6 61 3 (OMd w6 d) (.slice pw nl cw) L fpw):=oms_keep OXw5.out (KeepOn.below K6.out (fun a ha=>oms_lt OXw5.out a ha))
    clear OXw5
    have y0:=b6.out.cell 0 _ rfl
    have y1:=b6.out.cell 1 _ rfl
    have y2:=b6.out.cell 2 _ rfl
    have y3:=b6.out.cell 3 _ rfl
    go_wp2_with fail
    refine (TP.out _).mono ?_
    rintro e w7 ⟨rfl,hb⟩
    have K7:Hid (Below w6.heap.size w6 w7):=(by first | exact hb | exact ⟨hb.os,hb.tape,hb.output,hb.size,hb.block⟩)
    have B7:Hid (Below w.heap.size w w7):=B6.out.trans (K7.out.mono B6.out.size)
    have b7:Hid (Blk w7 w.heap.size #[.string q.mod,.string q.name,.int .i64 q.arity,.int .i64 q.clause] 24):=b6.out.next K7.out
    clear hb y0 y1 y2 y3
    have OXw7:Hid (ORows w7 61 3 (OMd w7 d) (.slice pw nl cw) L fpw):=oms_keep OXw6.out (KeepOn.below K7.out (fun a ha=>oms_lt OXw6.out a ha))
    have OXb7:Hid (ORows w7 61 3 (OMd w7 d) (.slice pb n cb) ms fpb):=oms_keep OXb6.out (KeepOn.below K7.out (fun a ha=>oms_lt OXb6.out a ha))
    clear OXw6 OXb6
    go_wp2_with fail
    refine (IM.out _ _ fpb B7.out OXb7.out).mono ?_
    rintro e w8 ⟨pg,cg,fpg,rfl,ho,hnd,hrg,hb⟩
    have OXg8:Hid (ORows w8 61 3 (OMd w8 d) (.slice pg nl cg) L fpg):=ho
    have RGg:Hid (fpg.Nodup∧∀ a ∈ fpg,w7.heap.size≤a∧a<w8.heap.size):=⟨hnd,hrg⟩
    have K8:Hid (Below w7.heap.size w7 w8):=(by first | exact hb | exact ⟨hb.os,hb.tape,hb.output,hb.size,hb.block⟩)
    have B8:Hid (Below w.heap.size w w8):=B7.out.trans (K8.out.mono B7.out.size)
    have b8:Hid (Blk w8 w.heap.size #[.string q.mod,.string q.name,.int .i64 q.arity,.int .i64 q.clause] 24):=b7.out.next K8.out
    clear hb ho hnd hrg
    have OXw8:Hid (ORows w8 61 3 (OMd w8 d) (.slice pw nl cw) L fpw):=oms_keep OXw7.out (KeepOn.below K8.out (fun a ha=>oms_lt OXw7.out a ha))
    have OXb8:Hid (ORows w8 61 3 (OMd w8 d) (.slice pb n cb) ms fpb):=oms_keep OXb7.out (KeepOn.below K8.out (fun a ha=>oms_lt OXb7.out a ha))
    clear OXw7 OXb7
    go_wp2_with fail
    refine (eqModuleS_all d _ _ _ L (oms_tree OXg8.out) (oms_tree OXw8.out)).mono ?_
    rintro e w9 ⟨rfl,hb⟩
    have K9:Hid (Below w8.heap.size w8 w9):=(by first | exact hb | exact ⟨hb.os,hb.tape,hb.output,hb.size,hb.block⟩)
    have B9:Hid (Below w.heap.size w w9):=B8.out.trans (K9.out.mono B8.out.size)
    have b9:Hid (Blk w9 w.heap.size #[.string q.mod,.string q.name,.int .i64 q.arity,.int .i64 q.clause] 24):=b8.out.next K9.out
    clear hb
    have OXw9:Hid (ORows w9 61 3 (OMd w9 d) (.slice pw nl cw) L fpw):=oms_keep OXw8.out (KeepOn.below K9.out (fun a ha=>oms_lt OXw8.out a ha))
    have OXg9:Hid (ORows w9 61 3 (OMd w9 d) (.slice pg nl cg) L fpg):=oms_keep OXg8.out (KeepOn.below K9.out (fun a ha=>oms_lt OXg8.out a ha))
    have OXb9:Hid (ORows w9 61 3 (OMd w9 d) (.slice pb n cb) ms fpb):=oms_keep OXb8.out (KeepOn.below K9.out (fun a ha=>oms_lt OXb8.out a ha))
    clear OXw8 OXg8 OXb8
    go_wp2_with fail
    refine (TO.out _ (by first | exact B9.out | exact B9.out.drew)).mono ?_
    rintro e w10 ⟨pc,cc,fpc,rfl,ho,hnd,hrg,hb⟩
    have OXc10:Hid (ORows w10 61 3 (OMd w10 d) (.slice pc n cc) ms fpc):=ho
    have RGc:Hid (fpc.Nodup∧∀ a ∈ fpc,w9.heap.size≤a∧a<w10.heap.size):=(by first | exact ⟨hnd,hrg⟩ | exact ⟨hnd,fun a ha=>hrg a ha⟩)
    have K10:Hid (Below w9.heap.size w9 w10):=(by first | exact hb | exact ⟨hb.os,hb.tape,hb.output,hb.size,hb.block⟩)
    have B10:Hid (Below w.heap.size w w10):=B9.out.trans (K10.out.mono B9.out.size)
    have b10:Hid (Blk w10 w.heap.size #[.string q.mod,.string q.name,.int .i64 q.arity,.int .i64 q.clause] 24):=b9.out.next K10.out
    clear hb ho hnd hrg
    have OXw10:Hid (ORows w10 61 3 (OMd w10 d) (.slice pw nl cw) L fpw):=oms_keep OXw9.out (KeepOn.below K10.out (fun a ha=>oms_lt OXw9.out a ha))
    have OXg10:Hid (ORows w10 61 3 (OMd w10 d) (.slice pg nl cg) L fpg):=oms_keep OXg9.out (KeepOn.below K10.out (fun a ha=>oms_lt OXg9.out a ha))
    have OXb10:Hid (ORows w10 61 3 (OMd w10 d) (.slice pb n cb) ms fpb):=oms_keep OXb9.out (KeepOn.below K10.out (fun a ha=>oms_lt OXb9.out a ha))
    clear OXw9 OXg9 OXb9
    go_wp2_with fail
    refine (eqModuleS_all d _ _ _ ms (oms_tree OXb10.out) (oms_tree OXc10.out)).mono ?_
    rintro e w11 ⟨rfl,hb⟩
    have K11:Hid (Below w10.heap.size w10 w11):=(by first | exact hb | exact ⟨hb.os,hb.tape,hb.output,hb.size,hb.block⟩)
    have B11:Hid (Below w.heap.size w w11):=B10.out.trans (K11.out.mono B10.out.size)
    have b11:Hid (Blk w11 w.heap.size #[.string q.mod,.string q.name,.int .i64 q.arity,.int .i64 q.clause] 24):=b10.out.next K11.out
    clear hb
    have OXw11:Hid (ORows w11 61 3 (OMd w11 d) (.slice pw nl cw) L fpw):=oms_keep OXw10.out (KeepOn.below K11.out (fun a ha=>oms_lt OXw10.out a ha))
    have OXg11:Hid (ORows w11 61 3 (OMd w11 d) (.slice pg nl cg) L fpg):=oms_keep OXg10.out (KeepOn.below K11.out (fun a ha=>oms_lt OXg10.out a ha))
    have OXb11:Hid (ORows w11 61 3 (OMd w11 d) (.slice pb n cb) ms fpb):=oms_keep OXb10.out (KeepOn.below K11.out (fun a ha=>oms_lt OXb10.out a ha))
    clear OXw10 OXg10 OXb10
    go_wp2_with fail
    refine (markMS_all d _ _ ms fpb 1 OXb11.out RGb.out.1 (Nat.le_refl _) HCN.out).mono ?_
    rintro e w12 ⟨rfl,-,off12⟩
    have S5:Hid (w.heap.size≤w5.heap.size):=B5.out.size
    have S6:Hid (w6.heap.size≤w7.heap.size):=K7.out.size
    have SZ12:Hid (w11.heap.size≤w12.heap.size):=off12.size
    have S56:Hid (w5.heap.size≤w6.heap.size):=K6.out.size
    have OXw12:Hid (ORows w12 61 3 (OMd w12 d) (.slice pw nl cw) L fpw):=oms_keep OXw11.out (off12.keep (fun g hg=>⟨oms_lt OXw11.out g hg,fun hm=>by have h1:=(RGw.out.2 g hg).2;have h2:=(RGb.out.2 g hm).1;omega⟩))
    have OXg12:Hid (ORows w12 61 3 (OMd w12 d) (.slice pg nl cg) L fpg):=oms_keep OXg11.out (off12.keep (fun g hg=>⟨oms_lt OXg11.out g hg,fun hm=>by have h1:=(RGg.out.2 g hg).1;have h2:=(RGb.out.2 g hm).2;have h3:=S6.out;omega⟩))
    have hb:Below w5.heap.size w11 w12:=off12.below (fun g hg=>(RGb.out.2 g hg).1) (Nat.le_trans K6.out.size (Nat.le_trans K7.out.size (Nat.le_trans K8.out.size (Nat.le_trans K9.out.size (Nat.le_trans K10.out.size K11.out.size)))))
    have B12:Hid (Below w.heap.size w w12):=B11.out.trans (hb.mono S5.out)
    have b12:Hid (Blk w12 w.heap.size #[.string q.mod,.string q.name,.int .i64 q.arity,.int .i64 q.clause] 24):=b11.out.below hb b5.out.lt
    have hkz0:(0:Int)≤((1+(ms.map (cntMS d)).sum:Nat):Int):=by omega
    generalize ((1+(ms.map (cntMS d)).sum:Nat):Int)=kz at hkz0 ⊢
    have hkz:¬ kz<0:=by omega
    clear off12 hb OXb11 OXw11 OXg11 hkz0
    go_wp2_with fail
    refine (eqModuleS_all d _ _ _ L (oms_tree OXg12.out) (oms_tree OXw12.out)).mono ?_
    rintro e w13 ⟨rfl,hb⟩
    have K13:Hid (Below w12.heap.size w12 w13):=(by first | exact hb | exact ⟨hb.os,hb.tape,hb.output,hb.size,hb.block⟩)
    have B13:Hid (Below w.heap.size w w13):=B12.out.trans (K13.out.mono B12.out.size)
    have b13:Hid (Blk w13 w.heap.size #[.string q.mod,.string q.name,.int .i64 q.arity,.int .i64 q.clause] 24):=b12.out.next K13.out
    clear hb
    have OXw13:Hid (ORows w13 61 3 (OMd w13 d) (.slice pw nl cw) L fpw):=oms_keep OXw12.out (KeepOn.below K13.out (fun a ha=>oms_lt OXw12.out a ha))
    have OXg13:Hid (ORows w13 61 3 (OMd w13 d) (.slice pg nl cg) L fpg):=oms_keep OXg12.out (KeepOn.below K13.out (fun a ha=>oms_lt OXg12.out a ha))
    clear OXw12 OXg12
    go_wp2_with fail
    refine (markMS_all d _ _ L fpg 1 OXg13.out RGg.out.1 (Nat.le_refl _) HCL.out).mono ?_
    rintro e w14 ⟨rfl,hm14,off14⟩
    have OXm14:Hid (ORows w14 61 3 (OMd w14 d) (.slice pg nl cg) (markL (markMS d) (cntMS d) 1 L) fpg):=hm14
    have OXw14:Hid (ORows w14 61 3 (OMd w14 d) (.slice pw nl cw) L fpw):=oms_keep OXw13.out (off14.keep (fun g hg=>⟨oms_lt OXw13.out g hg,fun hm=>by have h1:=(RGw.out.2 g hg).2;have h2:=(RGg.out.2 g hm).1;have h3:=S56.out;have h4:=S6.out;omega⟩))
    have hb:Below w7.heap.size w13 w14:=off14.below (fun g hg=>(RGg.out.2 g hg).1) (Nat.le_trans K8.out.size (Nat.le_trans K9.out.size (Nat.le_trans K10.out.size (Nat.le_trans K11.out.size (Nat.le_trans SZ12.out K13.out.size)))))
    have B14:Hid (Below w.heap.size w w14):=B13.out.trans (hb.mono (Nat.le_trans S5.out (Nat.le_trans S56.out S6.out)))
    have b14:Hid (Blk w14 w.heap.size #[.string q.mod,.string q.name,.int .i64 q.arity,.int .i64 q.clause] 24):=b13.out.below hb b7.out.lt
    have HHE:Hid (∀ w' v,Rows w' All 3 (HMd w' All d) v (markL (markMS d) (cntMS d) 1 L)→Calls Tryz.prog 12 #[v,.int .i64 1] w' fun e w''=>e=.returned (.int .i64 ((1+(L.map (cntMS d)).sum:Nat):Int))∧Below w'.heap.size w' w''):=fun w' v hr=>heldMS_all d w' v L 1 hr (Nat.le_refl _) HCL.out
    have hkm0:(0:Int)≤((1+(L.map (cntMS d)).sum:Nat):Int):=by omega
    generalize ((1+(L.map (cntMS d)).sum:Nat):Int)=km at hkm0 HHE ⊢
    have hkm:¬ km<0:=by omega
    clear hb hm14 OXw13 OXg13 off14 hkm0
    go_wp2_with fail
    refine (HHE.out _ _ (oms_tree OXm14.out)).mono ?_
    rintro e w15 ⟨rfl,hb⟩
    have K15:Hid (Below w14.heap.size w14 w15):=(by first | exact hb | exact ⟨hb.os,hb.tape,hb.output,hb.size,hb.block⟩)
    have B15:Hid (Below w.heap.size w w15):=B14.out.trans (K15.out.mono B14.out.size)
    have b15:Hid (Blk w15 w.heap.size #[.string q.mod,.string q.name,.int .i64 q.arity,.int .i64 q.clause] 24):=b14.out.next K15.out
    clear hb
    have OXm15:Hid (ORows w15 61 3 (OMd w15 d) (.slice pg nl cg) (markL (markMS d) (cntMS d) 1 L) fpg):=oms_keep OXm14.out (KeepOn.below K15.out (fun a ha=>oms_lt OXm14.out a ha))
    have OXw15:Hid (ORows w15 61 3 (OMd w15 d) (.slice pw nl cw) L fpw):=oms_keep OXw14.out (KeepOn.below K15.out (fun a ha=>oms_lt OXw14.out a ha))
    clear OXm14 OXw14
    have y0:=b15.out.cell 0 _ rfl
    have y1:=b15.out.cell 1 _ rfl
    have y2:=b15.out.cell 2 _ rfl
    have y3:=b15.out.cell 3 _ rfl
    go_wp2_with fail
    go_region_held3 (fun w'=>w'.cell? ⟨w.heap.size,0,none⟩=some (.string q.mod)∧w'.cell? ⟨w.heap.size,1,none⟩=some (.string q.name)∧w'.cell? ⟨w.heap.size,2,none⟩=some (.int .i64 q.arity)∧w'.cell? ⟨w.heap.size,3,none⟩=some (.int .i64 q.clause))
      (first | go_keep | (go_split_ands;refine ⟨?_,?_,?_,?_⟩ <;> exact cell_next hb (by assumption)))
      (first
        | (go_at_call 7;refine (TO.out _ (by first | exact B15.out | exact B15.out.drew)).mono ?_;rintro e w16 ⟨pd,cd,fpd,rfl,ho,hnd,hrg,hb⟩;have OXd16:Hid (ORows w16 61 3 (OMd w16 d) (.slice pd n cd) ms fpd):=ho;have RGd:Hid (fpd.Nodup∧∀ a ∈ fpd,w15.heap.size≤a∧a<w16.heap.size):=(by first | exact ⟨hnd,hrg⟩ | exact ⟨hnd,fun a ha=>hrg a ha⟩);have K16:Hid (Below w15.heap.size w15 w16):=(by first | exact hb | exact ⟨hb.os,hb.tape,hb.output,hb.size,hb.block⟩);clear ho hnd hrg)
        | (go_at_call 8;refine (toPlace_any _ q).mono ?_;rintro e w17 ⟨rfl,hb⟩;have K17:Hid (Below w16.heap.size w16 w17):=(by first | exact hb | exact ⟨hb.os,hb.tape,hb.output,hb.size,hb.block⟩))
        | (go_at_call 9;refine (IM.out _ _ fpd (B15.out.trans ((K16.out.trans (K17.out.mono K16.out.size)).mono B15.out.size)) (oms_keep OXd16.out (KeepOn.below K17.out (fun a ha=>oms_lt OXd16.out a ha)))).mono ?_;rintro e w18 ⟨ph,ch,fph,rfl,ho,hnd,hrg,hb⟩;have OXh18:Hid (ORows w18 61 3 (OMd w18 d) (.slice ph nl ch) L fph):=ho;have RGh:Hid (fph.Nodup∧∀ a ∈ fph,w17.heap.size≤a∧a<w18.heap.size):=⟨hnd,hrg⟩;have K18:Hid (Below w17.heap.size w17 w18):=(by first | exact hb | exact ⟨hb.os,hb.tape,hb.output,hb.size,hb.block⟩);clear ho hnd hrg))
    go_split_ands
    clear y0 y1 y2 y3 hb
    have B16:Hid (Below w.heap.size w w16):=B15.out.trans (K16.out.mono B15.out.size)
    have b16:Hid (Blk w16 w.heap.size #[.string q.mod,.string q.name,.int .i64 q.arity,.int .i64 q.clause] 24):=b15.out.next K16.out
    have OXm16:Hid (ORows w16 61 3 (OMd w16 d) (.slice pg nl cg) (markL (markMS d) (cntMS d) 1 L) fpg):=oms_keep OXm15.out (KeepOn.below K16.out (fun a ha=>oms_lt OXm15.out a ha))
    have OXw16:Hid (ORows w16 61 3 (OMd w16 d) (.slice pw nl cw) L fpw):=oms_keep OXw15.out (KeepOn.below K16.out (fun a ha=>oms_lt OXw15.out a ha))
    clear OXm15 OXw15
    have B17:Hid (Below w.heap.size w w17):=B16.out.trans (K17.out.mono B16.out.size)
    have b17:Hid (Blk w17 w.heap.size #[.string q.mod,.string q.name,.int .i64 q.arity,.int .i64 q.clause] 24):=b16.out.next K17.out
    have OXm17:Hid (ORows w17 61 3 (OMd w17 d) (.slice pg nl cg) (markL (markMS d) (cntMS d) 1 L) fpg):=oms_keep OXm16.out (KeepOn.below K17.out (fun a ha=>oms_lt OXm16.out a ha))
    have OXw17:Hid (ORows w17 61 3 (OMd w17 d) (.slice pw nl cw) L fpw):=oms_keep OXw16.out (KeepOn.below K17.out (fun a ha=>oms_lt OXw16.out a ha))
    clear OXm16 OXw16
    have B18:Hid (Below w.heap.size w w18):=B17.out.trans (K18.out.mono B17.out.size)
    have b18:Hid (Blk w18 w.heap.size #[.string q.mod,.string q.name,.int .i64 q.arity,.int .i64 q.clause] 24):=b17.out.next K18.out
    have OXm18:Hid (ORows w18 61 3 (OMd w18 d) (.slice pg nl cg) (markL (markMS d) (cntMS d) 1 L) fpg):=oms_keep OXm17.out (KeepOn.below K18.out (fun a ha=>oms_lt OXm17.out a ha))
    have OXw18:Hid (ORows w18 61 3 (OMd w18 d) (.slice pw nl cw) L fpw):=oms_keep OXw17.out (KeepOn.below K18.out (fun a ha=>oms_lt OXw17.out a ha))
    clear OXm17 OXw17
    go_wp2_with fail
    refine (eqModuleS_all d _ _ _ L (oms_tree OXh18.out) (oms_tree OXw18.out)).mono ?_
    rintro e w19 ⟨rfl,hb⟩
    have K19:Hid (Below w18.heap.size w18 w19):=(by first | exact hb | exact ⟨hb.os,hb.tape,hb.output,hb.size,hb.block⟩)
    have B19:Hid (Below w.heap.size w w19):=B18.out.trans (K19.out.mono B18.out.size)
    have b19:Hid (Blk w19 w.heap.size #[.string q.mod,.string q.name,.int .i64 q.arity,.int .i64 q.clause] 24):=b18.out.next K19.out
    clear hb
    have OXm19:Hid (ORows w19 61 3 (OMd w19 d) (.slice pg nl cg) (markL (markMS d) (cntMS d) 1 L) fpg):=oms_keep OXm18.out (KeepOn.below K19.out (fun a ha=>oms_lt OXm18.out a ha))
    clear OXm18
    go_wp2_with fail
    refine (HHE.out _ _ (oms_tree OXm19.out)).mono ?_
    rintro e w20 ⟨rfl,hb⟩
    have K20:Hid (Below w19.heap.size w19 w20):=(by first | exact hb | exact ⟨hb.os,hb.tape,hb.output,hb.size,hb.block⟩)
    have B20:Hid (Below w.heap.size w w20):=B19.out.trans (K20.out.mono B19.out.size)
    have b20:Hid (Blk w20 w.heap.size #[.string q.mod,.string q.name,.int .i64 q.arity,.int .i64 q.clause] 24):=b19.out.next K20.out
    clear hb
    go_wp2
    go_ret
    exact ⟨rfl,B20.out⟩
end Go.Proofs.YtbdhpganbbandaaGreatDoor
