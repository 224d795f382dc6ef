/-
  GraphSpecA GraphImplA
-/
import Derived.Test.YtkkabbfdjhcfcaaGreatDoorP36
import Derived.Test.YtkkabbfdjhcfcaaGreatDoorP43
set_option maxHeartbeats 16000000
set_option linter.unusedVariables false
set_option maxRecDepth 100000
namespace Go.Proofs.YtkkabbfdjhcfcaaGreatDoor
open Go.ChangeShapes Go.WideShapes Go.ChangeAt Go.RowKit
def nmT (m s:ByteArray) (n:Int):ByteArray:=strOf (nameT m s n)
theorem okI_nat {n:Nat} (h:n≤1048576):okI (n:Int):=by
  unfold okI;simp [Lit.wf,IntKind.min,IntKind.max,IntKind.signed,IntKind.bits];omega
theorem toL_len (m:Md) (x:Ex):(toL nmT m x).length≤1:=by
  unfold toL
  split
  · split
    · split <;> simp
    · simp
  · simp
theorem callsX_len (m:Md):∀ (d:Nat) (x:Ex),(callsX nmT m d x).length≤1+wtEx d x
  | 0,x=>by simp [callsX]
  | d+1,x=>by
    have h1:=toL_len m x
    have h2:=flat_lenG (callsX nmT m d) (fun y=>1+wtEx d y) (withinX x) (fun y _=>callsX_len m d y)
    have h3:=wtS_within d x
    simp only [callsX,List.length_append]
    omega
theorem within_wt (d:Nat) (x:Ex) {y:Ex} (h:y ∈ withinX x):wtEx d y≤wtEx (d+1) x:=by
  have h1:=wtS_within d x
  obtain ⟨k,hk⟩:=List.mem_iff_getElem?.1 h
  have h2:=sum_take_succ (fun y=>1+wtEx d y) (withinX x) k y hk
  have h3:=sum_take_le (fun y=>1+wtEx d y) (withinX x) (k+1)
  omega
theorem kids_wt (d:Nat) (x:Ex):x.kids.length≤wtEx (d+1) x∧x.text.size≤wtEx (d+1) x∧x.mod.size≤wtEx (d+1) x:=by
  have h:wtEx (d+1) x=x.text.size+x.mod.size+wtS (wtEx d) x.kids+wtS (wtCl (wtEx d)) x.clauses:=rfl
  have h2:x.kids.length≤wtS (wtEx d) x.kids:=by unfold wtS;omega
  omega
theorem toL_small {d:Nat} {m:Md} {x:Ex} (hm:m.name.size≤1048576) (hw:wtEx (d+1) x≤1048576):∀ c ∈ toL nmT m x,c.size≤2097200:=by
  obtain ⟨h1,h2,h3⟩:=kids_wt d x
  intro c hc
  unfold toL at hc
  split at hc
  · split at hc
    · split at hc
      · simp at hc;subst hc;exact nameT_len _ _ _ hm (by omega) (okI_nat (by omega))
      · cases hc
    · simp at hc;subst hc;exact nameT_len _ _ _ (by omega) (by omega) (okI_nat (by omega))
  · cases hc
theorem callsX_small {m:Md} (hm:m.name.size≤1048576):∀ (d:Nat) (x:Ex),wtEx d x≤1048576→∀ c ∈ callsX nmT m d x,c.size≤2097200
  | 0,x,_,c,hc=>by simp [callsX] at hc
  | d+1,x,hw,c,hc=>by
    simp only [callsX,List.mem_append,List.mem_flatMap] at hc
    rcases hc with hc | ⟨y,hy,hc⟩
    · exact toL_small hm hw c hc
    · exact callsX_small hm d y (Nat.le_trans (within_wt d x hy) hw) c hc
theorem okS_small {c:ByteArray} (h:c.size≤2097200):okS c:=by unfold okS maxLen;omega
def CxC (dm d:Nat):Prop:=∀ (w:World) (mc:List Value) (m:Md) (cs:List Value) (x:Ex),HMd w All dm mc m→HEx w All d cs x→wtEx d x≤1048576→m.name.size≤1048576 →
    Calls Tryz.prog 31 #[.agg mc.toArray,.agg cs.toArray] w fun e w'=>∃ u,e=.returned u∧OwnS w' w.heap.size u (callsX nmT m d x)∧Below w.heap.size w w'
theorem l05Calls_of {dm d:Nat} (hE:CxC dm d):CxC dm (d+1):=by
  intro w mc m cs x hm hx hw hms
  have HMM:Hid (∀ w',Below w.heap.size w w'→HMd w' All dm mc m):=fun w' hw=>hm.mono (SameOn.of_below hw) (fun _ h=>h)
  have HXX:Hid (∀ w',Below w.heap.size w w'→HEx w' (fun g=>g<w.heap.size) (d+1) cs x):=fun w' hw=>hx.tight.mono (SameOn.of_below hw) (fun _ h=>h)
  obtain ⟨g1,g2,g3⟩:=kids_wt d x
  obtain ⟨sv,pe,ne,ce,pf,nf,cf,rfl⟩:=hm.shape
  obtain rfl:sv=m.name:=by obtain ⟨_,_,e,_⟩:=hm;simp at e;exact e.1
  obtain ⟨kx,nx,tx,mx,ks,cl⟩:=x
  obtain ⟨kv,cv,rfl,-,-,-,-,⟨p1,q1,rfl,-⟩,⟨p2,q2,rfl,-⟩⟩:=hx
  simp only [Ex.kind,Ex.n,Ex.text,Ex.mod,Ex.kids,Ex.clauses] at *
  have HWT:Hid (wtEx (d+1) (.mk kx nx tx mx ks cl)≤1048576):=hw
  have HSUM:Hid (((withinX (.mk kx nx tx mx ks cl)).map fun y=>1+wtEx d y).sum≤1048576):=Nat.le_trans (wtS_within d _) hw
  have HCD:Hid (callsX nmT m (d+1) (.mk kx nx tx mx ks cl)=toL nmT m (.mk kx nx tx mx ks cl) ++ (withinX (.mk kx nx tx mx ks cl)).flatMap (callsX nmT m d)):=rfl
  have HCL:Hid (toL nmT m (.mk kx nx tx mx ks cl)=if kx=8 then (if mx.toList = [] then (if hasF m tx ks.length then [nmT m.name tx ks.length] else []) else [nmT mx tx ks.length]) else []):=rfl
  have LCL:=toL_len m (.mk kx nx tx mx ks cl)
  have hsm:m.name.size≤1048576:=hms
  have hst:tx.size≤1048576:=by omega
  have hsx:mx.size≤1048576:=by omega
  have hnk:ks.length≤1048576:=by omega
  obtain ⟨i0,hi,hz0,hz1,hz2⟩:=info_parts info_str
  generalize hX:Ex.mk kx nx tx mx ks cl=X at *
  generalize ks.length=nk at *
  generalize cl.length=nc at *
  have OKN:Hid (okI (nk:Int)):=okI_nat hnk
  obtain ⟨W2,hW2⟩:∃ W2,W2=(w.alloc (.cells #[.string m.name,.slice pe ne ce,.slice pf nf cf] 44)).alloc (.cells #[.int .i64 kx,.int .i64 nx,.string tx,.string mx,.slice p1 nk q1,.slice p2 nc q2] 71):=⟨_,rfl⟩
  have bM:Hid (Blk W2 w.heap.size #[.string m.name,.slice pe ne ce,.slice pf nf cf] 44):=by show Blk _ _ _ _;rw [hW2];exact Blk.new.alloc
  have bE:Hid (Blk W2 (w.heap.size+1) #[.int .i64 kx,.int .i64 nx,.string tx,.string mx,.slice p1 nk q1,.slice p2 nc q2] 71):=by
    show Blk _ _ _ _
    rw [hW2]
    have:=Blk.new (w:=w.alloc (.cells #[.string m.name,.slice pe ne ce,.slice pf nf cf] 44)) (cs:=#[.int .i64 kx,.int .i64 nx,.string tx,.string mx,.slice p1 nk q1,.slice p2 nc q2]) (t:=71)
    simp only [alloc_hs] at this
    exact this
  have B2:Hid (Below w.heap.size w W2):=by show Below _ _ _;rw [hW2];exact ((Below.refl _ _).alloc (Nat.le_refl _) _).alloc (by simp only [alloc_hs];omega) _
  have S2:Hid (W2.heap.size=w.heap.size+1+1):=by show _=_;rw [hW2];simp only [alloc_hs]
  have HW2:Hid (W2=(w.alloc (.cells #[.string m.name,.slice pe ne ce,.slice pf nf cf] 44)).alloc (.cells #[.int .i64 kx,.int .i64 nx,.string tx,.string mx,.slice p1 nk q1,.slice p2 nc q2] 71)):=hW2
  have O3:Hid (OwnS (W2.alloc (.cells #[] 9)) (w.heap.size+1+1) (.slice (some ⟨w.heap.size+1+1,0,none⟩) 0 0) []):=by
    have:=OwnS.fresh (w:=W2)
    rw [S2.out] at this
    exact this
  have B3:Hid (Below (w.heap.size+1+1) W2 (W2.alloc (.cells #[] 9))):=(Below.refl _ _).alloc (by rw [S2.out];exact Nat.le_refl _) _
  have HWI:Hid (∀ w',Below w.heap.size w w'→Calls Tryz.prog 53 #[.agg #[.int .i64 kx,.int .i64 nx,.string tx,.string mx,.slice p1 nk q1,.slice p2 nc q2]] w' fun e w''=>∃ u cells,e=.returned u∧w''.ownsRow (w'.heap.size+1) 71 6 u (withinX X).length cells∧CellsR 6 (HEx w' (fun g=>g<w.heap.size) d) cells (withinX X)∧Below w'.heap.size w' w''):=fun w' hw'=>within_any d w' (fun g=>g<w.heap.size) (fun g hg=>Nat.lt_of_lt_of_le hg hw'.size) _ X (HXX.out w' hw') HWT.out
  have HFI:Hid (∀ w',Below w.heap.size w w'→Calls Tryz.prog 51 #[.agg #[.string m.name,.slice pe ne ce,.slice pf nf cf],.string tx,.int .i64 (nk:Int)] w' fun e w''=>e=.returned (.int .i64 (findI (sameR ⟨tx,nk⟩) m.funs))∧Below w'.heap.size w' w''):=fun w' hw'=>l02FindI_any dm w' _ m tx nk (HMM.out w' hw')
  have HNA:Hid (∀ w',Calls Tryz.prog 15 #[.string mx,.string tx,.int .i64 (nk:Int)] w' fun e w''=>e=.returned (.string (nmT mx tx nk))∧Below w'.heap.size w' w''):=fun w'=>specName_any w' mx tx nk hsx hst OKN.out
  have HNB:Hid (∀ w',Calls Tryz.prog 15 #[.string m.name,.string tx,.int .i64 (nk:Int)] w' fun e w''=>e=.returned (.string (nmT m.name tx nk))∧Below w'.heap.size w' w''):=fun w'=>specName_any w' m.name tx nk hsm hst OKN.out
  have bE3:=bE.out.below B3.out (by omega)
  have z0:=bE3.cell 0 _ rfl
  have z1:=bE3.cell 1 _ rfl
  have z2:=bE3.cell 2 _ rfl
  have z3:=bE3.cell 3 _ rfl
  have z4:=bE3.cell 4 _ rfl
  have z5:=bE3.cell 5 _ rfl
  have bM3:=bM.out.below B3.out (by omega)
  have y0:=bM3.cell 0 _ rfl
  have y1:=bM3.cell 1 _ rfl
  have y2:=bM3.cell 2 _ rfl
  clear hm hw hX hW2 g1 g2 g3 hms bE3 bM3
  by_cases hk8:kx=8
  · subst hk8
    have hkb:((8:Int) == 8)=true:=by simp
    have HL1:Hid (toL nmT m X=if mx.toList = [] then (if hasF m tx nk then [nmT m.name tx nk] else []) else [nmT mx tx nk]):=HCL.out.trans (if_pos rfl)
    by_cases hmx:mx.toList = []
    · have hmb:mx.toList.isEmpty=true:=by simp [hmx]
      have HL2:Hid (toL nmT m X=if hasF m tx nk then [nmT m.name tx nk] else []):=HL1.out.trans (if_pos hmx)
      go_enter Tryz.func31,Tryz.ntmps31
      go_wp2_with fail
      rw [← HW2.out]
      refine (HFI.out _ (B2.out.trans (B3.out.mono (by omega)))).mono ?_
      rintro e w3 ⟨rfl,hb3⟩
      have OP:Hid (OwnS w3 (w.heap.size+1+1) (.slice (some ⟨w.heap.size+1+1,0,none⟩) 0 0) []):=O3.out.next hb3
      have BP:Hid (Below (w.heap.size+1+1) W2 w3):=B3.out.trans (hb3.mono (by rw [alloc_hs,S2.out];omega))
      have bE3:=bE.out.below BP.out (by omega)
      have bM3:=bM.out.below BP.out (by omega)
      clear z0 z1 z2 z3 z4 z5 y0 y1 y2 hb3
      have z0:=bE3.cell 0 _ rfl
      have z1:=bE3.cell 1 _ rfl
      have z2:=bE3.cell 2 _ rfl
      have z3:=bE3.cell 3 _ rfl
      have z4:=bE3.cell 4 _ rfl
      have z5:=bE3.cell 5 _ rfl
      have y0:=bM3.cell 0 _ rfl
      have y1:=bM3.cell 1 _ rfl
      have y2:=bM3.cell 2 _ rfl
      clear bE3 bM3
      rcases findI_cases (sameR ⟨tx,nk⟩) m.funs with ⟨hno,hfi⟩ | ⟨kf,xf,hyes,-,-,hfi,-⟩
      · have HL0:Hid (toL nmT m X = []):=HL2.out.trans (by unfold hasF;rw [hno];rfl)
        rw [hfi]
        have HOq:Hid (OwnS w3 (w.heap.size+1+1) (.slice (some ⟨w.heap.size+1+1,0,none⟩) 0 0) (toL nmT m X)):=by show OwnS _ _ _ _;rw [HL0.out];exact OP.out
        have HBq:=BP
        go_wp2_with fail
        clear z0 z1 z2 z3 z4 z5 y0 y1 y2
        refine (HWI.out _ (B2.out.trans (HBq.out.mono (by omega)))).mono ?_
        rintro e w5 ⟨ui,cells5,rfl,o5,c5,hb⟩
        have HOr:Hid (OwnS w5 (w.heap.size+1+1) (.slice (some ⟨w.heap.size+1+1,0,none⟩) 0 0) (toL nmT m X)):=HOq.out.next hb
        have HBr:Hid (Below (w.heap.size+1+1) W2 w5):=HBq.out.trans (hb.mono (by have:=HBq.out.size;rw [S2.out] at this;exact this))
        have HI5:Hid (w5.ownsRow 0 71 6 ui (withinX X).length cells5):=owns_base o5
        have HC5:Hid (CellsR 6 (HEx w5 (fun g=>g<w.heap.size) d) cells5 (withinX X)):=c5.mono (fun cs y _ h=>h.mono (SameOn.of_below hb) (fun _ h=>h))
        obtain ⟨p5,q5,rfl,hcm5⟩:=owns_slice o5
        have hn5:(withinX X).length≤9223372036854775807:=by unfold maxLen at hcm5;omega
        generalize hnn:(withinX X).length=nn at *
        have HNN:Hid ((withinX X).length=nn):=hnn
        have s5:w.heap.size+1+1≤w5.heap.size:=by have:=HBr.out.size;rw [S2.out] at this;exact this
        clear hb hnn HOq HBq o5 c5
        go_wp2_with fail
        go_loopw [5,7] (fun ov iv wr=>∃ k:Nat,k≤nn∧iv=.int .i64 k∧Hid (OwnS wr (w.heap.size+1+1) ov (toL nmT m X ++ ((withinX X).take k).flatMap (callsX nmT m d)))∧Hid (wr.ownsRow 0 71 6 (.slice p5 nn q5) nn cells5)∧Hid (Below (w.heap.size+1+1) w5 wr)) (fun _ iv _=>nn - (intOf iv).toNat)
        case atStart=>exact ⟨0,Nat.zero_le _,rfl,by show OwnS _ _ _ _;simpa using HOr.out,HI5,Below.refl _ _⟩
        case round =>
          obtain ⟨k,hk,rfl,ho,hin,hb⟩:=hrel
          have HB0:Hid (Below w.heap.size w wr):=(B2.out.trans (HBr.out.mono (by omega))).trans (hb.out.mono (by omega))
          have bMr:Hid (Blk wr w.heap.size #[.string m.name,.slice pe ne ce,.slice pf nf cf] 44):=(bM.out.below HBr.out (by omega)).below hb.out (by omega)
          by_cases hlt:k<nn
          · obtain ⟨y,hyk⟩:∃ y,(withinX X)[k]?=some y:=⟨(withinX X)[k]'(by rw [HNN.out];exact hlt),List.getElem?_eq_getElem _⟩
            obtain ⟨cs,hcsl,hcs,hy⟩:=HC5.out.2 k y hyk
            have HY:Hid (∀ w',Below wr.heap.size wr w'→HEx w' All d cs y):=fun w' hw=>(hy.mono (SameOn.of_low (hb.out.mono (by omega))) (fun _ h=>h)).mono (SameOn.of_below hw) (fun _ _=>trivial)
            obtain ⟨z0,z1,z2,z3,z4,z5,rfl⟩:=len6 hcsl
            have ad:∃ g5,p5=some ⟨g5,0,none⟩:=owns_some hin.out (by omega)
            obtain ⟨g5,rfl⟩:=ad
            have a0:=(hin.out.cellAt (k * 6+0) (by omega)).trans (hcs 0 (by omega))
            have a1:=(hin.out.cellAt (k * 6+1) (by omega)).trans (hcs 1 (by omega))
            have a2:=(hin.out.cellAt (k * 6+2) (by omega)).trans (hcs 2 (by omega))
            have a3:=(hin.out.cellAt (k * 6+3) (by omega)).trans (hcs 3 (by omega))
            have a4:=(hin.out.cellAt (k * 6+4) (by omega)).trans (hcs 4 (by omega))
            have a5:=(hin.out.cellAt (k * 6+5) (by omega)).trans (hcs 5 (by omega))
            simp at a0 a1 a2 a3 a4 a5
            have m0:=bMr.out.cell 0 _ rfl
            have m1:=bMr.out.cell 1 _ rfl
            have m2:=bMr.out.cell 2 _ rfl
            have hki:(k:Int)<(nn:Int):=by omega
            have hk0:(0:Int)≤(k:Int):=by omega
            have hsw:w.heap.size+1+1≤wr.heap.size:=by have:=hb.out.size;omega
            have HJ:Hid (toL nmT m X ++ ((withinX X).take (k+1)).flatMap (callsX nmT m d)=(toL nmT m X ++ ((withinX X).take k).flatMap (callsX nmT m d)) ++ callsX nmT m d y):=by
              show _=_
              rw [List.take_add_one,hyk];simp
            have HLK:Hid ((toL nmT m X ++ ((withinX X).take k).flatMap (callsX nmT m d)).length+(callsX nmT m d y).length≤1048577):=by
              have h1:=HSUM.out
              have h2:=sum_take_succ (fun y=>1+wtEx d y) (withinX X) k y hyk
              have h3:=sum_take_le (fun y=>1+wtEx d y) (withinX X) (k+1)
              have h4:=flat_lenG (callsX nmT m d) (fun y=>1+wtEx d y) ((withinX X).take k) (fun z _=>callsX_len m d z)
              have h5:=callsX_len m d y
              show _≤_
              rw [List.length_append]
              omega
            have HWY:Hid (wtEx d y≤1048576):=by
              have h1:=HSUM.out
              have h2:=sum_take_succ (fun y=>1+wtEx d y) (withinX X) k y hyk
              have h3:=sum_take_le (fun y=>1+wtEx d y) (withinX X) (k+1)
              show _≤_
              omega
            have CX:Hid (∀ w',Below wr.heap.size wr w'→Calls Tryz.prog 31 #[.agg #[.string m.name,.slice pe ne ce,.slice pf nf cf],.agg #[z0,z1,z2,z3,z4,z5]] w' fun e w''=>∃ u,e=.returned u∧OwnS w'' w'.heap.size u (callsX nmT m d y)∧Below w'.heap.size w' w''):=fun w' hw'=>by
              have hb9:Below w.heap.size w w':=HB0.out.trans (hw'.mono HB0.out.size)
              exact hE w' _ m _ y (HMM.out w' hb9) (HY.out w' hw') HWY.out hsm
            have OY0:Hid (∀ c ∈ callsX nmT m d y,okS c):=fun c hc=>okS_small (callsX_small hsm d y HWY.out c hc)
            generalize hJ0:toL nmT m X ++ ((withinX X).take k).flatMap (callsX nmT m d)=J at *
            generalize hY0:callsX nmT m d y=Y at *
            clear hcs hcsl hy hJ0 hY0
            go_wp2_with fail
            go_region_law
              (first
                | (refine step_append_rows (R:=HStr) (S:=All) (by rfl) _ _ _ (by rfl) (w.heap.size+1+1) 9 i0 (.string ⟨#[]⟩) 1 16 Tryz.underlying39 hi hz0 hz1 hz2 rfl (by decide) u5 J.length (strs J) (by rfl) (owns_next ho.out.1 K6.out) u6 Y (by rfl) R6.out str_oneCell (by have:=HLK.out;unfold maxLen;omega) (by have:=HLK.out;omega) (Nat.le_trans hsw K6.out.size) ?_;intro v9 w9 news9 hc9 ho9 hg9)
                | (go_simp;go_at_call 31;refine (CX.out _ (by exact (Below.refl _ _).drew)).mono ?_;rintro e w6 ⟨u6,rfl,o6,hb6⟩;have K6:Hid (Below wr.heap.size wr w6):=⟨hb6.os,hb6.tape,hb6.output,hb6.size,hb6.block⟩;have R6:Hid (Rows w6 All 1 HStr u6 Y):=o6.strR OY0.out;clear hb6 o6;dsimp only))
            all_goals
              have HO9:Hid (OwnS w9 (w.heap.size+1+1) v9 (toL nmT m X ++ ((withinX X).take (k+1)).flatMap (callsX nmT m d))):=by
                show OwnS _ _ _ _
                rw [HJ.out]
                exact OwnS.of ho9 (by simp) (by rw [cellsR_str hc9]) (Nat.le_trans (Nat.le_trans hsw K6.out.size) hg9.size)
              have HI9:Hid (w9.ownsRow 0 71 6 (.slice (some ⟨g5,0,none⟩) nn q5) nn cells5):=owns_apart (owns_next ho.out.1 K6.out) (owns_next hin.out K6.out) (by decide) hg9
              have HB9:Hid (Below (w.heap.size+1+1) w5 w9):=(hb.out.trans (K6.out.mono hsw)).trans (owns_below (owns_next ho.out.1 K6.out) hg9 (Nat.le_trans hsw K6.out.size))
              clear hc9 ho9 hg9
              go_wp2_with fail
              exact ⟨⟨k+1,by omega,by go_num,HO9,HI9,HB9⟩,by simp [intOf];omega⟩
          · have HR:Hid (OwnS wr w.heap.size u5 (callsX nmT m (d+1) X)):=by
              have h1:=ho.out
              rw [List.take_of_length_le (by rw [HNN.out];omega)] at h1
              show OwnS _ _ _ _
              rw [HCD.out]
              exact h1.base (by omega)
            go_wp2_with fail
            go_ret
            exact ⟨_,rfl,HR.out,HB0.out⟩
      · have HL0:Hid (toL nmT m X = [nmT m.name tx nk]):=HL2.out.trans (by unfold hasF;rw [hyes];rfl)
        rw [hfi]
        have hkf:(0:Int)≤(kf:Int):=by omega
        clear hfi hyes
        go_wp2_with fail
        refine (HNB.out _).mono ?_
        rintro e w4 ⟨rfl,hb4⟩
        have HO4:Hid (OwnS (w4.alloc (.cells #[.string (nmT m.name tx nk)] 9)) (w.heap.size+1+1) (.slice (some ⟨w.heap.size+1+1,0,none⟩) 0 0) []):=(OP.out.next hb4).next ((Below.refl _ _).alloc (Nat.le_refl _) _)
        have HB4:Hid (Below (w.heap.size+1+1) W2 w4):=BP.out.trans (hb4.mono (by have:=BP.out.size;rw [S2.out] at this;exact this))
        have s4:w.heap.size+1+1≤w4.heap.size:=by have:=HB4.out.size;rw [S2.out] at this;exact this
        have HB4':Hid (Below (w.heap.size+1+1) W2 (w4.alloc (.cells #[.string (nmT m.name tx nk)] 9))):=HB4.out.alloc s4 _
        have F7:Hid (∀ w7,(w4.alloc (.cells #[.string (nmT m.name tx nk)] 9)).grownBy w7 (Value.ownBlock (.slice (some ⟨w.heap.size+1+1,0,none⟩) 0 0))→w7.cell? ⟨w.heap.size+1,0,none⟩=some (.int .i64 8)∧w7.cell? ⟨w.heap.size+1,1,none⟩=some (.int .i64 nx)∧w7.cell? ⟨w.heap.size+1,2,none⟩=some (.string tx)∧w7.cell? ⟨w.heap.size+1,3,none⟩=some (.string mx)∧w7.cell? ⟨w.heap.size+1,4,none⟩=some (.slice p1 nk q1)∧w7.cell? ⟨w.heap.size+1,5,none⟩=some (.slice p2 nc q2)):=fun w7 hg7=>by
          have bE4:=bE.out.below (HB4'.out.trans (owns_below HO4.out.1 hg7 (by rw [alloc_hs];omega))) (by omega)
          exact ⟨bE4.cell 0 _ rfl,bE4.cell 1 _ rfl,bE4.cell 2 _ rfl,bE4.cell 3 _ rfl,bE4.cell 4 _ rfl,bE4.cell 5 _ rfl⟩
        clear hb4
        clear z0 z1 z2 z3 z4 z5 y0 y1 y2
        go_wp2_with (at_builtin;refine wpList_append_own _ rfl _ _ 39 rfl (w.heap.size+1+1) 9 i0 (.string ⟨#[]⟩) 1 16 Tryz.underlying39 hi hz0 hz1 hz2 rfl (by decide) (.slice (some ⟨w.heap.size+1+1,0,none⟩) 0 0) 0 [] rfl HO4.out.1 ⟨w4.heap.size,0,none⟩ 1 1 (strs [(nmT m.name tx nk)]) rfl (by simp [strs]) (one_str w4 _ _ rfl) (strs_oneCell _) (by unfold maxLen;omega) (by omega) (by rw [alloc_hs];omega) ?_;intro v7 w7 ho7 hg7 _;obtain ⟨e0,e1,e2,e3,e4,e5⟩:=F7.out w7 hg7)
        have HOq:Hid (OwnS w7 (w.heap.size+1+1) v7 (toL nmT m X)):=by
          show OwnS _ _ _ _
          rw [HL0.out]
          exact OwnS.of (l:=[]) (m:=[(nmT m.name tx nk)]) ho7 (by simp) (by simp [strs]) (Nat.le_trans (by rw [alloc_hs];omega) hg7.size)
        have HBq:Hid (Below (w.heap.size+1+1) W2 w7):=HB4'.out.trans (owns_below HO4.out.1 hg7 (by rw [alloc_hs];omega))
        clear ho7 hg7 e0 e1 e2 e3 e4 e5
        refine (HWI.out _ (B2.out.trans (HBq.out.mono (by omega)))).mono ?_
        rintro e w5 ⟨ui,cells5,rfl,o5,c5,hb⟩
        have HOr:Hid (OwnS w5 (w.heap.size+1+1) v7 (toL nmT m X)):=HOq.out.next hb
        have HBr:Hid (Below (w.heap.size+1+1) W2 w5):=HBq.out.trans (hb.mono (by have:=HBq.out.size;rw [S2.out] at this;exact this))
        have HI5:Hid (w5.ownsRow 0 71 6 ui (withinX X).length cells5):=owns_base o5
        have HC5:Hid (CellsR 6 (HEx w5 (fun g=>g<w.heap.size) d) cells5 (withinX X)):=c5.mono (fun cs y _ h=>h.mono (SameOn.of_below hb) (fun _ h=>h))
        obtain ⟨p5,q5,rfl,hcm5⟩:=owns_slice o5
        have hn5:(withinX X).length≤9223372036854775807:=by unfold maxLen at hcm5;omega
        generalize hnn:(withinX X).length=nn at *
        have HNN:Hid ((withinX X).length=nn):=hnn
        have s5:w.heap.size+1+1≤w5.heap.size:=by have:=HBr.out.size;rw [S2.out] at this;exact this
        clear hb hnn HOq HBq o5 c5
        go_wp2_with fail
        go_loopw [5,7] (fun ov iv wr=>∃ k:Nat,k≤nn∧iv=.int .i64 k∧Hid (OwnS wr (w.heap.size+1+1) ov (toL nmT m X ++ ((withinX X).take k).flatMap (callsX nmT m d)))∧Hid (wr.ownsRow 0 71 6 (.slice p5 nn q5) nn cells5)∧Hid (Below (w.heap.size+1+1) w5 wr)) (fun _ iv _=>nn - (intOf iv).toNat)
        case atStart=>exact ⟨0,Nat.zero_le _,rfl,by show OwnS _ _ _ _;simpa using HOr.out,HI5,Below.refl _ _⟩
        case round =>
          obtain ⟨k,hk,rfl,ho,hin,hb⟩:=hrel
          have HB0:Hid (Below w.heap.size w wr):=(B2.out.trans (HBr.out.mono (by omega))).trans (hb.out.mono (by omega))
          have bMr:Hid (Blk wr w.heap.size #[.string m.name,.slice pe ne ce,.slice pf nf cf] 44):=(bM.out.below HBr.out (by omega)).below hb.out (by omega)
          by_cases hlt:k<nn
          · obtain ⟨y,hyk⟩:∃ y,(withinX X)[k]?=some y:=⟨(withinX X)[k]'(by rw [HNN.out];exact hlt),List.getElem?_eq_getElem _⟩
            obtain ⟨cs,hcsl,hcs,hy⟩:=HC5.out.2 k y hyk
            have HY:Hid (∀ w',Below wr.heap.size wr w'→HEx w' All d cs y):=fun w' hw=>(hy.mono (SameOn.of_low (hb.out.mono (by omega))) (fun _ h=>h)).mono (SameOn.of_below hw) (fun _ _=>trivial)
            obtain ⟨z0,z1,z2,z3,z4,z5,rfl⟩:=len6 hcsl
            have ad:∃ g5,p5=some ⟨g5,0,none⟩:=owns_some hin.out (by omega)
            obtain ⟨g5,rfl⟩:=ad
            have a0:=(hin.out.cellAt (k * 6+0) (by omega)).trans (hcs 0 (by omega))
            have a1:=(hin.out.cellAt (k * 6+1) (by omega)).trans (hcs 1 (by omega))
            have a2:=(hin.out.cellAt (k * 6+2) (by omega)).trans (hcs 2 (by omega))
            have a3:=(hin.out.cellAt (k * 6+3) (by omega)).trans (hcs 3 (by omega))
            have a4:=(hin.out.cellAt (k * 6+4) (by omega)).trans (hcs 4 (by omega))
            have a5:=(hin.out.cellAt (k * 6+5) (by omega)).trans (hcs 5 (by omega))
            simp at a0 a1 a2 a3 a4 a5
            have m0:=bMr.out.cell 0 _ rfl
            have m1:=bMr.out.cell 1 _ rfl
            have m2:=bMr.out.cell 2 _ rfl
            have hki:(k:Int)<(nn:Int):=by omega
            have hk0:(0:Int)≤(k:Int):=by omega
            have hsw:w.heap.size+1+1≤wr.heap.size:=by have:=hb.out.size;omega
            have HJ:Hid (toL nmT m X ++ ((withinX X).take (k+1)).flatMap (callsX nmT m d)=(toL nmT m X ++ ((withinX X).take k).flatMap (callsX nmT m d)) ++ callsX nmT m d y):=by
              show _=_
              rw [List.take_add_one,hyk];simp
            have HLK:Hid ((toL nmT m X ++ ((withinX X).take k).flatMap (callsX nmT m d)).length+(callsX nmT m d y).length≤1048577):=by
              have h1:=HSUM.out
              have h2:=sum_take_succ (fun y=>1+wtEx d y) (withinX X) k y hyk
              have h3:=sum_take_le (fun y=>1+wtEx d y) (withinX X) (k+1)
              have h4:=flat_lenG (callsX nmT m d) (fun y=>1+wtEx d y) ((withinX X).take k) (fun z _=>callsX_len m d z)
              have h5:=callsX_len m d y
              show _≤_
              rw [List.length_append]
              omega
            have HWY:Hid (wtEx d y≤1048576):=by
              have h1:=HSUM.out
              have h2:=sum_take_succ (fun y=>1+wtEx d y) (withinX X) k y hyk
              have h3:=sum_take_le (fun y=>1+wtEx d y) (withinX X) (k+1)
              show _≤_
              omega
            have CX:Hid (∀ w',Below wr.heap.size wr w'→Calls Tryz.prog 31 #[.agg #[.string m.name,.slice pe ne ce,.slice pf nf cf],.agg #[z0,z1,z2,z3,z4,z5]] w' fun e w''=>∃ u,e=.returned u∧OwnS w'' w'.heap.size u (callsX nmT m d y)∧Below w'.heap.size w' w''):=fun w' hw'=>by
              have hb9:Below w.heap.size w w':=HB0.out.trans (hw'.mono HB0.out.size)
              exact hE w' _ m _ y (HMM.out w' hb9) (HY.out w' hw') HWY.out hsm
            have OY0:Hid (∀ c ∈ callsX nmT m d y,okS c):=fun c hc=>okS_small (callsX_small hsm d y HWY.out c hc)
            generalize hJ0:toL nmT m X ++ ((withinX X).take k).flatMap (callsX nmT m d)=J at *
            generalize hY0:callsX nmT m d y=Y at *
            clear hcs hcsl hy hJ0 hY0
            go_wp2_with fail
            go_region_law
              (first
                | (refine step_append_rows (R:=HStr) (S:=All) (by rfl) _ _ _ (by rfl) (w.heap.size+1+1) 9 i0 (.string ⟨#[]⟩) 1 16 Tryz.underlying39 hi hz0 hz1 hz2 rfl (by decide) u5 J.length (strs J) (by rfl) (owns_next ho.out.1 K6.out) u6 Y (by rfl) R6.out str_oneCell (by have:=HLK.out;unfold maxLen;omega) (by have:=HLK.out;omega) (Nat.le_trans hsw K6.out.size) ?_;intro v9 w9 news9 hc9 ho9 hg9)
                | (go_simp;go_at_call 31;refine (CX.out _ (by exact (Below.refl _ _).drew)).mono ?_;rintro e w6 ⟨u6,rfl,o6,hb6⟩;have K6:Hid (Below wr.heap.size wr w6):=⟨hb6.os,hb6.tape,hb6.output,hb6.size,hb6.block⟩;have R6:Hid (Rows w6 All 1 HStr u6 Y):=o6.strR OY0.out;clear hb6 o6;dsimp only))
            all_goals
              have HO9:Hid (OwnS w9 (w.heap.size+1+1) v9 (toL nmT m X ++ ((withinX X).take (k+1)).flatMap (callsX nmT m d))):=by
                show OwnS _ _ _ _
                rw [HJ.out]
                exact OwnS.of ho9 (by simp) (by rw [cellsR_str hc9]) (Nat.le_trans (Nat.le_trans hsw K6.out.size) hg9.size)
              have HI9:Hid (w9.ownsRow 0 71 6 (.slice (some ⟨g5,0,none⟩) nn q5) nn cells5):=owns_apart (owns_next ho.out.1 K6.out) (owns_next hin.out K6.out) (by decide) hg9
              have HB9:Hid (Below (w.heap.size+1+1) w5 w9):=(hb.out.trans (K6.out.mono hsw)).trans (owns_below (owns_next ho.out.1 K6.out) hg9 (Nat.le_trans hsw K6.out.size))
              clear hc9 ho9 hg9
              go_wp2_with fail
              exact ⟨⟨k+1,by omega,by go_num,HO9,HI9,HB9⟩,by simp [intOf];omega⟩
          · have HR:Hid (OwnS wr w.heap.size u5 (callsX nmT m (d+1) X)):=by
              have h1:=ho.out
              rw [List.take_of_length_le (by rw [HNN.out];omega)] at h1
              show OwnS _ _ _ _
              rw [HCD.out]
              exact h1.base (by omega)
            go_wp2_with fail
            go_ret
            exact ⟨_,rfl,HR.out,HB0.out⟩
    · have hmb:mx.toList.isEmpty=false:=by simpa using hmx
      have HL0:Hid (toL nmT m X = [nmT mx tx nk]):=HL1.out.trans (if_neg hmx)
      go_enter Tryz.func31,Tryz.ntmps31
      go_wp2_with fail
      rw [← HW2.out]
      have OP:=O3
      have BP:=B3
      refine (HNA.out _).mono ?_
      rintro e w4 ⟨rfl,hb4⟩
      have HO4:Hid (OwnS (w4.alloc (.cells #[.string (nmT mx tx nk)] 9)) (w.heap.size+1+1) (.slice (some ⟨w.heap.size+1+1,0,none⟩) 0 0) []):=(OP.out.next hb4).next ((Below.refl _ _).alloc (Nat.le_refl _) _)
      have HB4:Hid (Below (w.heap.size+1+1) W2 w4):=BP.out.trans (hb4.mono (by have:=BP.out.size;rw [S2.out] at this;exact this))
      have s4:w.heap.size+1+1≤w4.heap.size:=by have:=HB4.out.size;rw [S2.out] at this;exact this
      have HB4':Hid (Below (w.heap.size+1+1) W2 (w4.alloc (.cells #[.string (nmT mx tx nk)] 9))):=HB4.out.alloc s4 _
      have F7:Hid (∀ w7,(w4.alloc (.cells #[.string (nmT mx tx nk)] 9)).grownBy w7 (Value.ownBlock (.slice (some ⟨w.heap.size+1+1,0,none⟩) 0 0))→w7.cell? ⟨w.heap.size+1,0,none⟩=some (.int .i64 8)∧w7.cell? ⟨w.heap.size+1,1,none⟩=some (.int .i64 nx)∧w7.cell? ⟨w.heap.size+1,2,none⟩=some (.string tx)∧w7.cell? ⟨w.heap.size+1,3,none⟩=some (.string mx)∧w7.cell? ⟨w.heap.size+1,4,none⟩=some (.slice p1 nk q1)∧w7.cell? ⟨w.heap.size+1,5,none⟩=some (.slice p2 nc q2)):=fun w7 hg7=>by
        have bE4:=bE.out.below (HB4'.out.trans (owns_below HO4.out.1 hg7 (by rw [alloc_hs];omega))) (by omega)
        exact ⟨bE4.cell 0 _ rfl,bE4.cell 1 _ rfl,bE4.cell 2 _ rfl,bE4.cell 3 _ rfl,bE4.cell 4 _ rfl,bE4.cell 5 _ rfl⟩
      clear hb4
      clear z0 z1 z2 z3 z4 z5 y0 y1 y2
      go_wp2_with (at_builtin;refine wpList_append_own _ rfl _ _ 39 rfl (w.heap.size+1+1) 9 i0 (.string ⟨#[]⟩) 1 16 Tryz.underlying39 hi hz0 hz1 hz2 rfl (by decide) (.slice (some ⟨w.heap.size+1+1,0,none⟩) 0 0) 0 [] rfl HO4.out.1 ⟨w4.heap.size,0,none⟩ 1 1 (strs [(nmT mx tx nk)]) rfl (by simp [strs]) (one_str w4 _ _ rfl) (strs_oneCell _) (by unfold maxLen;omega) (by omega) (by rw [alloc_hs];omega) ?_;intro v7 w7 ho7 hg7 _;obtain ⟨e0,e1,e2,e3,e4,e5⟩:=F7.out w7 hg7)
      have HOq:Hid (OwnS w7 (w.heap.size+1+1) v7 (toL nmT m X)):=by
        show OwnS _ _ _ _
        rw [HL0.out]
        exact OwnS.of (l:=[]) (m:=[(nmT mx tx nk)]) ho7 (by simp) (by simp [strs]) (Nat.le_trans (by rw [alloc_hs];omega) hg7.size)
      have HBq:Hid (Below (w.heap.size+1+1) W2 w7):=HB4'.out.trans (owns_below HO4.out.1 hg7 (by rw [alloc_hs];omega))
      clear ho7 hg7 e0 e1 e2 e3 e4 e5
      refine (HWI.out _ (B2.out.trans (HBq.out.mono (by omega)))).mono ?_
      rintro e w5 ⟨ui,cells5,rfl,o5,c5,hb⟩
      have HOr:Hid (OwnS w5 (w.heap.size+1+1) v7 (toL nmT m X)):=HOq.out.next hb
      have HBr:Hid (Below (w.heap.size+1+1) W2 w5):=HBq.out.trans (hb.mono (by have:=HBq.out.size;rw [S2.out] at this;exact this))
      have HI5:Hid (w5.ownsRow 0 71 6 ui (withinX X).length cells5):=owns_base o5
      have HC5:Hid (CellsR 6 (HEx w5 (fun g=>g<w.heap.size) d) cells5 (withinX X)):=c5.mono (fun cs y _ h=>h.mono (SameOn.of_below hb) (fun _ h=>h))
      obtain ⟨p5,q5,rfl,hcm5⟩:=owns_slice o5
      have hn5:(withinX X).length≤9223372036854775807:=by unfold maxLen at hcm5;omega
      generalize hnn:(withinX X).length=nn at *
      have HNN:Hid ((withinX X).length=nn):=hnn
      have s5:w.heap.size+1+1≤w5.heap.size:=by have:=HBr.out.size;rw [S2.out] at this;exact this
      clear hb hnn HOq HBq o5 c5
      go_wp2_with fail
      go_loopw [5,7] (fun ov iv wr=>∃ k:Nat,k≤nn∧iv=.int .i64 k∧Hid (OwnS wr (w.heap.size+1+1) ov (toL nmT m X ++ ((withinX X).take k).flatMap (callsX nmT m d)))∧Hid (wr.ownsRow 0 71 6 (.slice p5 nn q5) nn cells5)∧Hid (Below (w.heap.size+1+1) w5 wr)) (fun _ iv _=>nn - (intOf iv).toNat)
      case atStart=>exact ⟨0,Nat.zero_le _,rfl,by show OwnS _ _ _ _;simpa using HOr.out,HI5,Below.refl _ _⟩
      case round =>
        obtain ⟨k,hk,rfl,ho,hin,hb⟩:=hrel
        have HB0:Hid (Below w.heap.size w wr):=(B2.out.trans (HBr.out.mono (by omega))).trans (hb.out.mono (by omega))
        have bMr:Hid (Blk wr w.heap.size #[.string m.name,.slice pe ne ce,.slice pf nf cf] 44):=(bM.out.below HBr.out (by omega)).below hb.out (by omega)
        by_cases hlt:k<nn
        · obtain ⟨y,hyk⟩:∃ y,(withinX X)[k]?=some y:=⟨(withinX X)[k]'(by rw [HNN.out];exact hlt),List.getElem?_eq_getElem _⟩
          obtain ⟨cs,hcsl,hcs,hy⟩:=HC5.out.2 k y hyk
          have HY:Hid (∀ w',Below wr.heap.size wr w'→HEx w' All d cs y):=fun w' hw=>(hy.mono (SameOn.of_low (hb.out.mono (by omega))) (fun _ h=>h)).mono (SameOn.of_below hw) (fun _ _=>trivial)
          obtain ⟨z0,z1,z2,z3,z4,z5,rfl⟩:=len6 hcsl
          have ad:∃ g5,p5=some ⟨g5,0,none⟩:=owns_some hin.out (by omega)
          obtain ⟨g5,rfl⟩:=ad
          have a0:=(hin.out.cellAt (k * 6+0) (by omega)).trans (hcs 0 (by omega))
          have a1:=(hin.out.cellAt (k * 6+1) (by omega)).trans (hcs 1 (by omega))
          have a2:=(hin.out.cellAt (k * 6+2) (by omega)).trans (hcs 2 (by omega))
          have a3:=(hin.out.cellAt (k * 6+3) (by omega)).trans (hcs 3 (by omega))
          have a4:=(hin.out.cellAt (k * 6+4) (by omega)).trans (hcs 4 (by omega))
          have a5:=(hin.out.cellAt (k * 6+5) (by omega)).trans (hcs 5 (by omega))
          simp at a0 a1 a2 a3 a4 a5
          have m0:=bMr.out.cell 0 _ rfl
          have m1:=bMr.out.cell 1 _ rfl
          have m2:=bMr.out.cell 2 _ rfl
          have hki:(k:Int)<(nn:Int):=by omega
          have hk0:(0:Int)≤(k:Int):=by omega
          have hsw:w.heap.size+1+1≤wr.heap.size:=by have:=hb.out.size;omega
          have HJ:Hid (toL nmT m X ++ ((withinX X).take (k+1)).flatMap (callsX nmT m d)=(toL nmT m X ++ ((withinX X).take k).flatMap (callsX nmT m d)) ++ callsX nmT m d y):=by
            show _=_
            rw [List.take_add_one,hyk];simp
          have HLK:Hid ((toL nmT m X ++ ((withinX X).take k).flatMap (callsX nmT m d)).length+(callsX nmT m d y).length≤1048577):=by
            have h1:=HSUM.out
            have h2:=sum_take_succ (fun y=>1+wtEx d y) (withinX X) k y hyk
            have h3:=sum_take_le (fun y=>1+wtEx d y) (withinX X) (k+1)
            have h4:=flat_lenG (callsX nmT m d) (fun y=>1+wtEx d y) ((withinX X).take k) (fun z _=>callsX_len m d z)
            have h5:=callsX_len m d y
            show _≤_
            rw [List.length_append]
            omega
          have HWY:Hid (wtEx d y≤1048576):=by
            have h1:=HSUM.out
            have h2:=sum_take_succ (fun y=>1+wtEx d y) (withinX X) k y hyk
            have h3:=sum_take_le (fun y=>1+wtEx d y) (withinX X) (k+1)
            show _≤_
            omega
          have CX:Hid (∀ w',Below wr.heap.size wr w'→Calls Tryz.prog 31 #[.agg #[.string m.name,.slice pe ne ce,.slice pf nf cf],.agg #[z0,z1,z2,z3,z4,z5]] w' fun e w''=>∃ u,e=.returned u∧OwnS w'' w'.heap.size u (callsX nmT m d y)∧Below w'.heap.size w' w''):=fun w' hw'=>by
            have hb9:Below w.heap.size w w':=HB0.out.trans (hw'.mono HB0.out.size)
            exact hE w' _ m _ y (HMM.out w' hb9) (HY.out w' hw') HWY.out hsm
          have OY0:Hid (∀ c ∈ callsX nmT m d y,okS c):=fun c hc=>okS_small (callsX_small hsm d y HWY.out c hc)
          generalize hJ0:toL nmT m X ++ ((withinX X).take k).flatMap (callsX nmT m d)=J at *
          generalize hY0:callsX nmT m d y=Y at *
          clear hcs hcsl hy hJ0 hY0
          go_wp2_with fail
          go_region_law
            (first
              | (refine step_append_rows (R:=HStr) (S:=All) (by rfl) _ _ _ (by rfl) (w.heap.size+1+1) 9 i0 (.string ⟨#[]⟩) 1 16 Tryz.underlying39 hi hz0 hz1 hz2 rfl (by decide) u5 J.length (strs J) (by rfl) (owns_next ho.out.1 K6.out) u6 Y (by rfl) R6.out str_oneCell (by have:=HLK.out;unfold maxLen;omega) (by have:=HLK.out;omega) (Nat.le_trans hsw K6.out.size) ?_;intro v9 w9 news9 hc9 ho9 hg9)
              | (go_simp;go_at_call 31;refine (CX.out _ (by exact (Below.refl _ _).drew)).mono ?_;rintro e w6 ⟨u6,rfl,o6,hb6⟩;have K6:Hid (Below wr.heap.size wr w6):=⟨hb6.os,hb6.tape,hb6.output,hb6.size,hb6.block⟩;have R6:Hid (Rows w6 All 1 HStr u6 Y):=o6.strR OY0.out;clear hb6 o6;dsimp only))
          all_goals
            have HO9:Hid (OwnS w9 (w.heap.size+1+1) v9 (toL nmT m X ++ ((withinX X).take (k+1)).flatMap (callsX nmT m d))):=by
              show OwnS _ _ _ _
              rw [HJ.out]
              exact OwnS.of ho9 (by simp) (by rw [cellsR_str hc9]) (Nat.le_trans (Nat.le_trans hsw K6.out.size) hg9.size)
            have HI9:Hid (w9.ownsRow 0 71 6 (.slice (some ⟨g5,0,none⟩) nn q5) nn cells5):=owns_apart (owns_next ho.out.1 K6.out) (owns_next hin.out K6.out) (by decide) hg9
            have HB9:Hid (Below (w.heap.size+1+1) w5 w9):=(hb.out.trans (K6.out.mono hsw)).trans (owns_below (owns_next ho.out.1 K6.out) hg9 (Nat.le_trans hsw K6.out.size))
            clear hc9 ho9 hg9
            go_wp2_with fail
            exact ⟨⟨k+1,by omega,by go_num,HO9,HI9,HB9⟩,by simp [intOf];omega⟩
        · have HR:Hid (OwnS wr w.heap.size u5 (callsX nmT m (d+1) X)):=by
            have h1:=ho.out
            rw [List.take_of_length_le (by rw [HNN.out];omega)] at h1
            show OwnS _ _ _ _
            rw [HCD.out]
            exact h1.base (by omega)
          go_wp2_with fail
          go_ret
          exact ⟨_,rfl,HR.out,HB0.out⟩
  · have hkb:(kx == 8)=false:=by simpa using hk8
    have HL0:Hid (toL nmT m X = []):=HCL.out.trans (if_neg hk8)
    go_enter Tryz.func31,Tryz.ntmps31
    go_wp2_with fail
    rw [← HW2.out]
    have HOq:Hid (OwnS (W2.alloc (.cells #[] 9)) (w.heap.size+1+1) (.slice (some ⟨w.heap.size+1+1,0,none⟩) 0 0) (toL nmT m X)):=by show OwnS _ _ _ _;rw [HL0.out];exact O3.out
    have HBq:=B3
    clear z0 z1 z2 z3 z4 z5 y0 y1 y2
    refine (HWI.out _ (B2.out.trans (HBq.out.mono (by omega)))).mono ?_
    rintro e w5 ⟨ui,cells5,rfl,o5,c5,hb⟩
    have HOr:Hid (OwnS w5 (w.heap.size+1+1) (.slice (some ⟨w.heap.size+1+1,0,none⟩) 0 0) (toL nmT m X)):=HOq.out.next hb
    have HBr:Hid (Below (w.heap.size+1+1) W2 w5):=HBq.out.trans (hb.mono (by have:=HBq.out.size;rw [S2.out] at this;exact this))
    have HI5:Hid (w5.ownsRow 0 71 6 ui (withinX X).length cells5):=owns_base o5
    have HC5:Hid (CellsR 6 (HEx w5 (fun g=>g<w.heap.size) d) cells5 (withinX X)):=c5.mono (fun cs y _ h=>h.mono (SameOn.of_below hb) (fun _ h=>h))
    obtain ⟨p5,q5,rfl,hcm5⟩:=owns_slice o5
    have hn5:(withinX X).length≤9223372036854775807:=by unfold maxLen at hcm5;omega
    generalize hnn:(withinX X).length=nn at *
    have HNN:Hid ((withinX X).length=nn):=hnn
    have s5:w.heap.size+1+1≤w5.heap.size:=by have:=HBr.out.size;rw [S2.out] at this;exact this
    clear hb hnn HOq HBq o5 c5
    go_wp2_with fail
    go_loopw [5,7] (fun ov iv wr=>∃ k:Nat,k≤nn∧iv=.int .i64 k∧Hid (OwnS wr (w.heap.size+1+1) ov (toL nmT m X ++ ((withinX X).take k).flatMap (callsX nmT m d)))∧Hid (wr.ownsRow 0 71 6 (.slice p5 nn q5) nn cells5)∧Hid (Below (w.heap.size+1+1) w5 wr)) (fun _ iv _=>nn - (intOf iv).toNat)
    case atStart=>exact ⟨0,Nat.zero_le _,rfl,by show OwnS _ _ _ _;simpa using HOr.out,HI5,Below.refl _ _⟩
    case round =>
      obtain ⟨k,hk,rfl,ho,hin,hb⟩:=hrel
      have HB0:Hid (Below w.heap.size w wr):=(B2.out.trans (HBr.out.mono (by omega))).trans (hb.out.mono (by omega))
      have bMr:Hid (Blk wr w.heap.size #[.string m.name,.slice pe ne ce,.slice pf nf cf] 44):=(bM.out.below HBr.out (by omega)).below hb.out (by omega)
      by_cases hlt:k<nn
      · obtain ⟨y,hyk⟩:∃ y,(withinX X)[k]?=some y:=⟨(withinX X)[k]'(by rw [HNN.out];exact hlt),List.getElem?_eq_getElem _⟩
        obtain ⟨cs,hcsl,hcs,hy⟩:=HC5.out.2 k y hyk
        have HY:Hid (∀ w',Below wr.heap.size wr w'→HEx w' All d cs y):=fun w' hw=>(hy.mono (SameOn.of_low (hb.out.mono (by omega))) (fun _ h=>h)).mono (SameOn.of_below hw) (fun _ _=>trivial)
        obtain ⟨z0,z1,z2,z3,z4,z5,rfl⟩:=len6 hcsl
        have ad:∃ g5,p5=some ⟨g5,0,none⟩:=owns_some hin.out (by omega)
        obtain ⟨g5,rfl⟩:=ad
        have a0:=(hin.out.cellAt (k * 6+0) (by omega)).trans (hcs 0 (by omega))
        have a1:=(hin.out.cellAt (k * 6+1) (by omega)).trans (hcs 1 (by omega))
        have a2:=(hin.out.cellAt (k * 6+2) (by omega)).trans (hcs 2 (by omega))
        have a3:=(hin.out.cellAt (k * 6+3) (by omega)).trans (hcs 3 (by omega))
        have a4:=(hin.out.cellAt (k * 6+4) (by omega)).trans (hcs 4 (by omega))
        have a5:=(hin.out.cellAt (k * 6+5) (by omega)).trans (hcs 5 (by omega))
        simp at a0 a1 a2 a3 a4 a5
        have m0:=bMr.out.cell 0 _ rfl
        have m1:=bMr.out.cell 1 _ rfl
        have m2:=bMr.out.cell 2 _ rfl
        have hki:(k:Int)<(nn:Int):=by omega
        have hk0:(0:Int)≤(k:Int):=by omega
        have hsw:w.heap.size+1+1≤wr.heap.size:=by have:=hb.out.size;omega
        have HJ:Hid (toL nmT m X ++ ((withinX X).take (k+1)).flatMap (callsX nmT m d)=(toL nmT m X ++ ((withinX X).take k).flatMap (callsX nmT m d)) ++ callsX nmT m d y):=by
          show _=_
          rw [List.take_add_one,hyk];simp
        have HLK:Hid ((toL nmT m X ++ ((withinX X).take k).flatMap (callsX nmT m d)).length+(callsX nmT m d y).length≤1048577):=by
          have h1:=HSUM.out
          have h2:=sum_take_succ (fun y=>1+wtEx d y) (withinX X) k y hyk
          have h3:=sum_take_le (fun y=>1+wtEx d y) (withinX X) (k+1)
          have h4:=flat_lenG (callsX nmT m d) (fun y=>1+wtEx d y) ((withinX X).take k) (fun z _=>callsX_len m d z)
          have h5:=callsX_len m d y
          show _≤_
          rw [List.length_append]
          omega
        have HWY:Hid (wtEx d y≤1048576):=by
          have h1:=HSUM.out
          have h2:=sum_take_succ (fun y=>1+wtEx d y) (withinX X) k y hyk
          have h3:=sum_take_le (fun y=>1+wtEx d y) (withinX X) (k+1)
          show _≤_
          omega
        have CX:Hid (∀ w',Below wr.heap.size wr w'→Calls Tryz.prog 31 #[.agg #[.string m.name,.slice pe ne ce,.slice pf nf cf],.agg #[z0,z1,z2,z3,z4,z5]] w' fun e w''=>∃ u,e=.returned u∧OwnS w'' w'.heap.size u (callsX nmT m d y)∧Below w'.heap.size w' w''):=fun w' hw'=>by
          have hb9:Below w.heap.size w w':=HB0.out.trans (hw'.mono HB0.out.size)
          exact hE w' _ m _ y (HMM.out w' hb9) (HY.out w' hw') HWY.out hsm
        have OY0:Hid (∀ c ∈ callsX nmT m d y,okS c):=fun c hc=>okS_small (callsX_small hsm d y HWY.out c hc)
        generalize hJ0:toL nmT m X ++ ((withinX X).take k).flatMap (callsX nmT m d)=J at *
        generalize hY0:callsX nmT m d y=Y at *
        clear hcs hcsl hy hJ0 hY0
        go_wp2_with fail
        go_region_law
          (first
            | (refine step_append_rows (R:=HStr) (S:=All) (by rfl) _ _ _ (by rfl) (w.heap.size+1+1) 9 i0 (.string ⟨#[]⟩) 1 16 Tryz.underlying39 hi hz0 hz1 hz2 rfl (by decide) u5 J.length (strs J) (by rfl) (owns_next ho.out.1 K6.out) u6 Y (by rfl) R6.out str_oneCell (by have:=HLK.out;unfold maxLen;omega) (by have:=HLK.out;omega) (Nat.le_trans hsw K6.out.size) ?_;intro v9 w9 news9 hc9 ho9 hg9)
            | (go_simp;go_at_call 31;refine (CX.out _ (by exact (Below.refl _ _).drew)).mono ?_;rintro e w6 ⟨u6,rfl,o6,hb6⟩;have K6:Hid (Below wr.heap.size wr w6):=⟨hb6.os,hb6.tape,hb6.output,hb6.size,hb6.block⟩;have R6:Hid (Rows w6 All 1 HStr u6 Y):=o6.strR OY0.out;clear hb6 o6;dsimp only))
        all_goals
          have HO9:Hid (OwnS w9 (w.heap.size+1+1) v9 (toL nmT m X ++ ((withinX X).take (k+1)).flatMap (callsX nmT m d))):=by
            show OwnS _ _ _ _
            rw [HJ.out]
            exact OwnS.of ho9 (by simp) (by rw [cellsR_str hc9]) (Nat.le_trans (Nat.le_trans hsw K6.out.size) hg9.size)
          have HI9:Hid (w9.ownsRow 0 71 6 (.slice (some ⟨g5,0,none⟩) nn q5) nn cells5):=owns_apart (owns_next ho.out.1 K6.out) (owns_next hin.out K6.out) (by decide) hg9
          have HB9:Hid (Below (w.heap.size+1+1) w5 w9):=(hb.out.trans (K6.out.mono hsw)).trans (owns_below (owns_next ho.out.1 K6.out) hg9 (Nat.le_trans hsw K6.out.size))
          clear hc9 ho9 hg9
          go_wp2_with fail
          exact ⟨⟨k+1,by omega,by go_num,HO9,HI9,HB9⟩,by simp [intOf];omega⟩
      · have HR:Hid (OwnS wr w.heap.size u5 (callsX nmT m (d+1) X)):=by
          have h1:=ho.out
          rw [List.take_of_length_le (by rw [HNN.out];omega)] at h1
          show OwnS _ _ _ _
          rw [HCD.out]
          exact h1.base (by omega)
        go_wp2_with fail
        go_ret
        exact ⟨_,rfl,HR.out,HB0.out⟩
theorem l05Calls_all (dm:Nat):∀ d,CxC dm d
  | 0=>fun w mc m cs x _ hx _ _=>hx.elim
  | d+1=>l05Calls_of (l05Calls_all dm d)
def cnB (m:Md) (x:Ex):Option ByteArray:=if x.mod.toList = [] then (if hasF m x.text x.kids.length then some (nmT m.name x.text x.kids.length) else none) else some (nmT x.mod x.text x.kids.length)
theorem toL_cn (m:Md) (x:Ex):toL nmT m x=if x.kind=8 then (cnB m x).toList else []:=by
  unfold toL cnB
  split
  · split
    · split <;> rfl
    · rfl
  · rfl
def SmX (x:Ex):Prop:=x.text.size≤1048576∧x.mod.size≤1048576∧x.kids.length≤1048576
theorem calledName_any (dm d:Nat) (w:World) (mc:List Value) (m:Md) (cs:List Value) (x:Ex) (hm:HMd w All dm mc m) (hx:HEx w All (d+1) cs x) (hw:SmX x) (hms:m.name.size≤1048576) (hp:PowAt w) :
    Calls Tryz.prog 41 #[.agg mc.toArray,.agg cs.toArray] w fun e w'=>e=.returned (.tuple #[.string ((cnB m x).getD ⟨#[]⟩),.bool (cnB m x).isSome])∧Below w.heap.size w w':=by
  have HMF:Hid (∀ w',Below w.heap.size w w'→HMd w' All dm mc m):=fun w' hw=>hm.mono (SameOn.of_below hw) (fun _ h=>h)
  have HPN:Hid (∀ w',Below w.heap.size w w'→PowAt w'):=fun w' hb=>powAt_below hp hb
  obtain ⟨g2,g3,g1⟩:=hw
  obtain ⟨sv,pe,ne,ce,pf,nf,cf,rfl⟩:=hm.shape
  obtain rfl:sv=m.name:=by obtain ⟨_,_,e,_⟩:=hm;simp at e;exact e.1
  obtain ⟨kx,nx,tx,mx,ks,cl⟩:=x
  obtain ⟨kv,cv,rfl,-,-,-,-,⟨p1,q1,rfl,-⟩,⟨p2,q2,rfl,-⟩⟩:=hx
  simp only [Ex.kind,Ex.n,Ex.text,Ex.mod,Ex.kids,Ex.clauses] at *
  have HCN:Hid (cnB m (.mk kx nx tx mx ks cl)=if mx.toList = [] then (if hasF m tx ks.length then some (nmT m.name tx ks.length) else none) else some (nmT mx tx ks.length)):=rfl
  have hst:tx.size≤1048576:=by omega
  have hsx:mx.size≤1048576:=by omega
  have hnk:ks.length≤1048576:=by omega
  generalize hX:Ex.mk kx nx tx mx ks cl=X at *
  generalize ks.length=nk at *
  generalize cl.length=nc at *
  have OKN:Hid (okI (nk:Int)):=okI_nat hnk
  have HFU:Hid (∀ w',Below w.heap.size w w'→Calls Tryz.prog 66 #[.slice pf nf cf,.agg #[.string tx,.int .i64 (nk:Int)]] w' fun e w''=>e=.returned (.bool (hasF m tx nk))∧Below w'.heap.size w' w''):=fun w' hb=>by
    obtain ⟨ev,fv,e,_,_,hr⟩:=HMF.out w' hb
    simp at e
    obtain ⟨-,-,rfl⟩:=e
    exact hasFun_any dm w' _ m.funs ⟨tx,nk⟩ hr
  have HNA:Hid (∀ w',Below w.heap.size w w'→Calls Tryz.prog 37 #[.string mx,.agg #[.string tx,.int .i64 (nk:Int)]] w' fun e w''=>e=.returned (.string (nmT mx tx nk))∧Below w'.heap.size w' w''):=fun w' hb=>fullName_any w' mx tx nk hsx hst OKN.out (HPN.out w' hb)
  have HNB:Hid (∀ w',Below w.heap.size w w'→Calls Tryz.prog 37 #[.string m.name,.agg #[.string tx,.int .i64 (nk:Int)]] w' fun e w''=>e=.returned (.string (nmT m.name tx nk))∧Below w'.heap.size w' w''):=fun w' hb=>fullName_any w' m.name tx nk hms hst OKN.out (HPN.out w' hb)
  obtain ⟨W2,hW2⟩:∃ W2,W2=(w.alloc (.cells #[.string m.name,.slice pe ne ce,.slice pf nf cf] 44)).alloc (.cells #[.int .i64 kx,.int .i64 nx,.string tx,.string mx,.slice p1 nk q1,.slice p2 nc q2] 71):=⟨_,rfl⟩
  have bM:Hid (Blk W2 w.heap.size #[.string m.name,.slice pe ne ce,.slice pf nf cf] 44):=by show Blk _ _ _ _;rw [hW2];exact Blk.new.alloc
  have bE:Hid (Blk W2 (w.heap.size+1) #[.int .i64 kx,.int .i64 nx,.string tx,.string mx,.slice p1 nk q1,.slice p2 nc q2] 71):=by
    show Blk _ _ _ _
    rw [hW2]
    have:=Blk.new (w:=w.alloc (.cells #[.string m.name,.slice pe ne ce,.slice pf nf cf] 44)) (cs:=#[.int .i64 kx,.int .i64 nx,.string tx,.string mx,.slice p1 nk q1,.slice p2 nc q2]) (t:=71)
    simp only [alloc_hs] at this
    exact this
  have B2:Hid (Below w.heap.size w W2):=by show Below _ _ _;rw [hW2];exact ((Below.refl _ _).alloc (Nat.le_refl _) _).alloc (by simp only [alloc_hs];omega) _
  have S2:Hid (W2.heap.size=w.heap.size+1+1):=by show _=_;rw [hW2];simp only [alloc_hs]
  have HW2:Hid (W2=(w.alloc (.cells #[.string m.name,.slice pe ne ce,.slice pf nf cf] 44)).alloc (.cells #[.int .i64 kx,.int .i64 nx,.string tx,.string mx,.slice p1 nk q1,.slice p2 nc q2] 71)):=hW2
  clear hm hX hW2 g1 g2 g3 hp
  go_enter Tryz.func41,Tryz.ntmps41
  go_wp2_with fail
  try rw [← HW2.out]
  refine (calledRef_any _ kx nx tx mx p1 p2 nk q1 nc q2 (by omega)).mono ?_
  rintro e w3 ⟨rfl,hb3⟩
  obtain ⟨W4,hW4⟩:∃ W4,W4=w3.alloc (.cells #[.string tx,.int .i64 (nk:Int)] 78):=⟨_,rfl⟩
  have K4:Hid (Below W2.heap.size W2 W4):=by show Below _ _ _;rw [hW4];exact hb3.alloc hb3.size _
  have B4:Hid (Below w.heap.size w W4):=B2.out.trans (K4.out.mono B2.out.size)
  have bR:Hid (Blk W4 w3.heap.size #[.string tx,.int .i64 (nk:Int)] 78):=by show Blk _ _ _ _;rw [hW4];exact Blk.new
  have HW4:Hid (W4=w3.alloc (.cells #[.string tx,.int .i64 (nk:Int)] 78)):=hW4
  have bE4:=bE.out.next K4.out
  have bM4:=bM.out.next K4.out
  have z0:=bE4.cell 0 _ rfl
  have z1:=bE4.cell 1 _ rfl
  have z2:=bE4.cell 2 _ rfl
  have z3:=bE4.cell 3 _ rfl
  have z4:=bE4.cell 4 _ rfl
  have z5:=bE4.cell 5 _ rfl
  have y0:=bM4.cell 0 _ rfl
  have y1:=bM4.cell 1 _ rfl
  have y2:=bM4.cell 2 _ rfl
  have r0:=bR.out.cell 0 _ rfl
  have r1:=bR.out.cell 1 _ rfl
  rw [hW4] at z0 z1 z2 z3 z4 z5 y0 y1 y2 r0 r1
  clear hb3 hW4
  by_cases hmx:mx.toList = []
  · have hmb:mx.toList.isEmpty=true:=by simp [hmx]
    have HC2:Hid (cnB m X=if hasF m tx nk then some (nmT m.name tx nk) else none):=HCN.out.trans (if_pos hmx)
    go_wp2_with fail
    rw [← HW4.out]
    refine (HFU.out _ B4.out).mono ?_
    rintro e w5 ⟨rfl,hb5⟩
    have K5:Hid (Below W4.heap.size W4 w5):=hb5
    have B5:Hid (Below w.heap.size w w5):=B4.out.trans (hb5.mono B4.out.size)
    clear hb5 z0 z1 z2 z3 z4 z5 y0 y1 y2 r0 r1
    have y0:=(bM4.next K5.out).cell 0 _ rfl
    have r0:=(bR.out.next K5.out).cell 0 _ rfl
    have r1:=(bR.out.next K5.out).cell 1 _ rfl
    cases hh:hasF m tx nk with
    | true =>
      have HC3:Hid (cnB m X=some (nmT m.name tx nk)):=by show _=_;rw [HC2.out,hh];rfl
      go_wp2_with fail
      refine (HNB.out _ B5.out).mono ?_
      rintro e w6 ⟨rfl,hb6⟩
      have B6:Hid (Below w.heap.size w w6):=B5.out.trans (hb6.mono B5.out.size)
      clear hb6
      go_wp2_with fail
      exact bodyPost_ret (v:=.tuple #[.string (nmT m.name tx nk),.bool true]) (by simp [results,Tryz.results41,go_sem]) rfl ⟨by rw [HC3.out];rfl,B6.out⟩
    | false =>
      have HC3:Hid (cnB m X=none):=by show _=_;rw [HC2.out,hh];rfl
      go_wp2_with fail
      exact bodyPost_ret (v:=.tuple #[.string ⟨#[]⟩,.bool false]) (by simp [results,Tryz.results41,go_sem]) rfl ⟨by rw [HC3.out];rfl,B5.out⟩
  · have hmb:mx.toList.isEmpty=false:=by simpa using hmx
    have HC3:Hid (cnB m X=some (nmT mx tx nk)):=HCN.out.trans (if_neg hmx)
    go_wp2_with fail
    rw [← HW4.out]
    refine (HNA.out _ B4.out).mono ?_
    rintro e w6 ⟨rfl,hb6⟩
    have B6:Hid (Below w.heap.size w w6):=B4.out.trans (hb6.mono B4.out.size)
    clear hb6
    go_wp2_with fail
    exact bodyPost_ret (v:=.tuple #[.string (nmT mx tx nk),.bool true]) (by simp [results,Tryz.results41,go_sem]) rfl ⟨by rw [HC3.out];rfl,B6.out⟩
end Go.Proofs.YtkkabbfdjhcfcaaGreatDoor
