/-
  GraphSpecA GraphSpecB GraphRow
-/
import Derived.Test.YtonpgdfpgpepiaaGreatDoorP35
import Derived.Test.YtonpgdfpgpepiaaGreatDoorP39
set_option maxHeartbeats 16000000
set_option linter.unusedVariables false
set_option maxRecDepth 100000
namespace Go.Proofs.YtonpgdfpgpepiaaGreatDoor
open Go.ChangeShapes Go.WideShapes Go.ChangeAt Go.RowKit
def nmT (m s:ByteArray) (n:Int):ByteArray:=strOf (nameT m s n)
theorem okI_nat {n:Nat} (h:n≤1048576):okI (n:Int):=by
  unfold okI;simp [Lit.wf,IntKind.min,IntKind.max,IntKind.signed,IntKind.bits];omega
theorem toL_len (m:Md) (x:Ex):(toL nmT m x).length≤1:=by
  unfold toL
  split
  · split
    · split <;> simp
    · simp
  · simp
theorem callsX_len (m:Md):∀ (d:Nat) (x:Ex),(callsX nmT m d x).length≤1+wtEx d x
  | 0,x=>by simp [callsX]
  | d+1,x=>by
    have h1:=toL_len m x
    have h2:=flat_lenG (callsX nmT m d) (fun y=>1+wtEx d y) (withinX x) (fun y _=>callsX_len m d y)
    have h3:=wtS_within d x
    simp only [callsX,List.length_append]
    omega
theorem within_wt (d:Nat) (x:Ex) {y:Ex} (h:y ∈ withinX x):wtEx d y≤wtEx (d+1) x:=by
  have h1:=wtS_within d x
  obtain ⟨k,hk⟩:=List.mem_iff_getElem?.1 h
  have h2:=sum_take_succ (fun y=>1+wtEx d y) (withinX x) k y hk
  have h3:=sum_take_le (fun y=>1+wtEx d y) (withinX x) (k+1)
  omega
theorem kids_wt (d:Nat) (x:Ex):x.kids.length≤wtEx (d+1) x∧x.text.size≤wtEx (d+1) x∧x.mod.size≤wtEx (d+1) x:=by
  have h:wtEx (d+1) x=x.text.size+x.mod.size+wtS (wtEx d) x.kids+wtS (wtCl (wtEx d)) x.clauses:=rfl
  have h2:x.kids.length≤wtS (wtEx d) x.kids:=by unfold wtS;omega
  omega
theorem toL_small {d:Nat} {m:Md} {x:Ex} (hm:m.name.size≤1048576) (hw:wtEx (d+1) x≤1048576):∀ c ∈ toL nmT m x,c.size≤2097200:=by
  obtain ⟨h1,h2,h3⟩:=kids_wt d x
  intro c hc
  unfold toL at hc
  split at hc
  · split at hc
    · split at hc
      · simp at hc;subst hc;exact nameT_len _ _ _ hm (by omega) (okI_nat (by omega))
      · cases hc
    · simp at hc;subst hc;exact nameT_len _ _ _ (by omega) (by omega) (okI_nat (by omega))
  · cases hc
theorem callsX_small {m:Md} (hm:m.name.size≤1048576):∀ (d:Nat) (x:Ex),wtEx d x≤1048576→∀ c ∈ callsX nmT m d x,c.size≤2097200
  | 0,x,_,c,hc=>by simp [callsX] at hc
  | d+1,x,hw,c,hc=>by
    simp only [callsX,List.mem_append,List.mem_flatMap] at hc
    rcases hc with hc | ⟨y,hy,hc⟩
    · exact toL_small hm hw c hc
    · exact callsX_small hm d y (Nat.le_trans (within_wt d x hy) hw) c hc
theorem okS_small {c:ByteArray} (h:c.size≤2097200):okS c:=by unfold okS maxLen;omega
def CxC (dm d:Nat):Prop:=∀ (w:World) (mc:List Value) (m:Md) (cs:List Value) (x:Ex),HMd w All dm mc m→HEx w All d cs x→wtEx d x≤1048576→m.name.size≤1048576 →
    Calls Tryz.prog 95 #[.agg mc.toArray,.agg cs.toArray] w fun e w'=>∃ u,e=.returned u∧OwnS w' w.heap.size u (callsX nmT m d x)∧Below w.heap.size w w'
theorem l05Calls_of {dm d:Nat} (hE:CxC dm d):CxC dm (d+1):=by
  intro w mc m cs x hm hx hw hms
  have HMM:Hid (∀ w',Below w.heap.size w w'→HMd w' All dm mc m):=fun w' hw=>hm.mono (SameOn.of_below hw) (fun _ h=>h)
  have HXX:Hid (∀ w',Below w.heap.size w w'→HEx w' (fun g=>g<w.heap.size) (d+1) cs x):=fun w' hw=>hx.tight.mono (SameOn.of_below hw) (fun _ h=>h)
  obtain ⟨g1,g2,g3⟩:=kids_wt d x
  obtain ⟨sv,pe,ne,ce,pf,nf,cf,rfl⟩:=hm.shape
  obtain rfl:sv=m.name:=by obtain ⟨_,_,e,_⟩:=hm;simp at e;exact e.1
  obtain ⟨kx,nx,tx,mx,ks,cl⟩:=x
  obtain ⟨kv,cv,rfl,-,-,-,-,⟨p1,q1,rfl,-⟩,⟨p2,q2,rfl,-⟩⟩:=hx
  simp only [Ex.kind,Ex.n,Ex.text,Ex.mod,Ex.kids,Ex.clauses] at *
  have HWT:Hid (wtEx (d+1) (.mk kx nx tx mx ks cl)≤1048576):=hw
  have HSUM:Hid (((withinX (.mk kx nx tx mx ks cl)).map fun y=>1+wtEx d y).sum≤1048576):=Nat.le_trans (wtS_within d _) hw
  have HCD:Hid (callsX nmT m (d+1) (.mk kx nx tx mx ks cl)=toL nmT m (.mk kx nx tx mx ks cl) ++ (withinX (.mk kx nx tx mx ks cl)).flatMap (callsX nmT m d)):=rfl
  have HCL:Hid (toL nmT m (.mk kx nx tx mx ks cl)=if kx=8 then (if mx.toList = [] then (if hasF m tx ks.length then [nmT m.name tx ks.length] else []) else [nmT mx tx ks.length]) else []):=rfl
  have LCL:=toL_len m (.mk kx nx tx mx ks cl)
  have hsm:m.name.size≤1048576:=hms
  have hst:tx.size≤1048576:=by omega
  have hsx:mx.size≤1048576:=by omega
  have hnk:ks.length≤1048576:=by omega
  obtain ⟨i0,hi,hz0,hz1,hz2⟩:=info_parts info_str
  generalize hX:Ex.mk kx nx tx mx ks cl=X at *
  generalize ks.length=nk at *
  generalize cl.length=nc at *
  have OKN:Hid (okI (nk:Int)):=okI_nat hnk
  obtain ⟨W2,hW2⟩:∃ W2,W2=(w.alloc (.cells #[.string m.name,.slice pe ne ce,.slice pf nf cf] 42)).alloc (.cells #[.int .i64 kx,.int .i64 nx,.string tx,.string mx,.slice p1 nk q1,.slice p2 nc q2] 147):=⟨_,rfl⟩
  have bM:Hid (Blk W2 w.heap.size #[.string m.name,.slice pe ne ce,.slice pf nf cf] 42):=by show Blk _ _ _ _;rw [hW2];exact Blk.new.alloc
  have bE:Hid (Blk W2 (w.heap.size+1) #[.int .i64 kx,.int .i64 nx,.string tx,.string mx,.slice p1 nk q1,.slice p2 nc q2] 147):=by
    show Blk _ _ _ _
    rw [hW2]
    have:=Blk.new (w:=w.alloc (.cells #[.string m.name,.slice pe ne ce,.slice pf nf cf] 42)) (cs:=#[.int .i64 kx,.int .i64 nx,.string tx,.string mx,.slice p1 nk q1,.slice p2 nc q2]) (t:=147)
    simp only [alloc_hs] at this
    exact this
  have B2:Hid (Below w.heap.size w W2):=by show Below _ _ _;rw [hW2];exact ((Below.refl _ _).alloc (Nat.le_refl _) _).alloc (by simp only [alloc_hs];omega) _
  have S2:Hid (W2.heap.size=w.heap.size+1+1):=by show _=_;rw [hW2];simp only [alloc_hs]
  have HW2:Hid (W2=(w.alloc (.cells #[.string m.name,.slice pe ne ce,.slice pf nf cf] 42)).alloc (.cells #[.int .i64 kx,.int .i64 nx,.string tx,.string mx,.slice p1 nk q1,.slice p2 nc q2] 147)):=hW2
  have O3:Hid (OwnS (W2.alloc (.cells #[] 9)) (w.heap.size+1+1) (.slice (some ⟨w.heap.size+1+1,0,none⟩) 0 0) []):=by
    have:=OwnS.fresh (w:=W2)
    rw [S2.out] at this
    exact this
  have B3:Hid (Below (w.heap.size+1+1) W2 (W2.alloc (.cells #[] 9))):=(Below.refl _ _).alloc (by rw [S2.out];exact Nat.le_refl _) _
  have HWI:Hid (∀ w',Below w.heap.size w w'→Calls Tryz.prog 132 #[.agg #[.int .i64 kx,.int .i64 nx,.string tx,.string mx,.slice p1 nk q1,.slice p2 nc q2]] w' fun e w''=>∃ u cells,e=.returned u∧w''.ownsRow (w'.heap.size+1) 147 6 u (withinX X).length cells∧CellsR 6 (HEx w' (fun g=>g<w.heap.size) d) cells (withinX X)∧Below w'.heap.size w' w''):=fun w' hw'=>within_any d w' (fun g=>g<w.heap.size) (fun g hg=>Nat.lt_of_lt_of_le hg hw'.size) _ X (HXX.out w' hw') HWT.out
  have HFI:Hid (∀ w',Below w.heap.size w w'→Calls Tryz.prog 57 #[.agg #[.string m.name,.slice pe ne ce,.slice pf nf cf],.string tx,.int .i64 (nk:Int)] w' fun e w''=>e=.returned (.int .i64 (findI (sameR ⟨tx,nk⟩) m.funs))∧Below w'.heap.size w' w''):=fun w' hw'=>l02FindI_any dm w' _ m tx nk (HMM.out w' hw')
  have HNA:Hid (∀ w',Calls Tryz.prog 16 #[.string mx,.string tx,.int .i64 (nk:Int)] w' fun e w''=>e=.returned (.string (nmT mx tx nk))∧Below w'.heap.size w' w''):=fun w'=>specName_any w' mx tx nk hsx hst OKN.out
  have HNB:Hid (∀ w',Calls Tryz.prog 16 #[.string m.name,.string tx,.int .i64 (nk:Int)] w' fun e w''=>e=.returned (.string (nmT m.name tx nk))∧Below w'.heap.size w' w''):=fun w'=>specName_any w' m.name tx nk hsm hst OKN.out
  have bE3:=bE.out.below B3.out (by omega)
  have z0:=bE3.cell 0 _ rfl
  have z1:=bE3.cell 1 _ rfl
  have z2:=bE3.cell 2 _ rfl
  have z3:=bE3.cell 3 _ rfl
  have z4:=bE3.cell 4 _ rfl
  have z5:=bE3.cell 5 _ rfl
  have bM3:=bM.out.below B3.out (by omega)
  have y0:=bM3.cell 0 _ rfl
  have y1:=bM3.cell 1 _ rfl
  have y2:=bM3.cell 2 _ rfl
  clear hm hw hX hW2 g1 g2 g3 hms bE3 bM3
  by_cases hk8:kx=8
  · subst hk8
    have hkb:((8:Int) == 8)=true:=by simp
    have HL1:Hid (toL nmT m X=if mx.toList = [] then (if hasF m tx nk then [nmT m.name tx nk] else []) else [nmT mx tx nk]):=HCL.out.trans (if_pos rfl)
    by_cases hmx:mx.toList = []
    · have hmb:mx.toList.isEmpty=true:=by simp [hmx]
      have HL2:Hid (toL nmT m X=if hasF m tx nk then [nmT m.name tx nk] else []):=HL1.out.trans (if_pos hmx)
      go_enter Tryz.func95,Tryz.ntmps95
      go_wp2_with fail
      rw [← HW2.out]
      refine (HFI.out _ (B2.out.trans (B3.out.mono (by omega)))).mono ?_
      rintro e w3 ⟨rfl,hb3⟩
      have OP:Hid (OwnS w3 (w.heap.size+1+1) (.slice (some ⟨w.heap.size+1+1,0,none⟩) 0 0) []):=O3.out.next hb3
      have BP:Hid (Below (w.heap.size+1+1) W2 w3):=B3.out.trans (hb3.mono (by rw [alloc_hs,S2.out];omega))
      have bE3:=bE.out.below BP.out (by omega)
      have bM3:=bM.out.below BP.out (by omega)
      clear z0 z1 z2 z3 z4 z5 y0 y1 y2 hb3
      have z0:=bE3.cell 0 _ rfl
      have z1:=bE3.cell 1 _ rfl
      have z2:=bE3.cell 2 _ rfl
      have z3:=bE3.cell 3 _ rfl
      have z4:=bE3.cell 4 _ rfl
      have z5:=bE3.cell 5 _ rfl
      have y0:=bM3.cell 0 _ rfl
      have y1:=bM3.cell 1 _ rfl
      have y2:=bM3.cell 2 _ rfl
      clear bE3 bM3
      rcases findI_cases (sameR ⟨tx,nk⟩) m.funs with ⟨hno,hfi⟩ | ⟨kf,xf,hyes,-,-,hfi,-⟩
      · have HL0:Hid (toL nmT m X = []):=HL2.out.trans (by unfold hasF;rw [hno];rfl)
        rw [hfi]
        have HOq:Hid (OwnS w3 (w.heap.size+1+1) (.slice (some ⟨w.heap.size+1+1,0,none⟩) 0 0) (toL nmT m X)):=by show OwnS _ _ _ _;rw [HL0.out];exact OP.out
        have HBq:=BP
        go_wp2_with fail
        clear z0 z1 z2 z3 z4 z5 y0 y1 y2
        refine (HWI.out _ (B2.out.trans (HBq.out.mono (by omega)))).mono ?_
        rintro e w5 ⟨ui,cells5,rfl,o5,c5,hb⟩
        have HOr:Hid (OwnS w5 (w.heap.size+1+1) (.slice (some ⟨w.heap.size+1+1,0,none⟩) 0 0) (toL nmT m X)):=HOq.out.next hb
        have HBr:Hid (Below (w.heap.size+1+1) W2 w5):=HBq.out.trans (hb.mono (by have:=HBq.out.size;rw [S2.out] at this;exact this))
        have HI5:Hid (w5.ownsRow 0 147 6 ui (withinX X).length cells5):=owns_base o5
        have HC5:Hid (CellsR 6 (HEx w5 (fun g=>g<w.heap.size) d) cells5 (withinX X)):=c5.mono (fun cs y _ h=>h.mono (SameOn.of_below hb) (fun _ h=>h))
        obtain ⟨p5,q5,rfl,hcm5⟩:=owns_slice o5
        have hn5:(withinX X).length≤9223372036854775807:=by unfold maxLen at hcm5;omega
        generalize hnn:(withinX X).length=nn at *
        have HNN:Hid ((withinX X).length=nn):=hnn
        have s5:w.heap.size+1+1≤w5.heap.size:=by have:=HBr.out.size;rw [S2.out] at this;exact this
        clear hb hnn HOq HBq o5 c5
        go_wp2_with fail
        go_loopw [5,7] (fun ov iv wr=>∃ k:Nat,k≤nn∧iv=.int .i64 k∧Hid (OwnS wr (w.heap.size+1+1) ov (toL nmT m X ++ ((withinX X).take k).flatMap (callsX nmT m d)))∧Hid (wr.ownsRow 0 147 6 (.slice p5 nn q5) nn cells5)∧Hid (Below (w.heap.size+1+1) w5 wr)) (fun _ iv _=>nn - (intOf iv).toNat)
        case atStart=>exact ⟨0,Nat.zero_le _,rfl,by show OwnS _ _ _ _;simpa using HOr.out,HI5,Below.refl _ _⟩
        case round =>
          obtain ⟨k,hk,rfl,ho,hin,hb⟩:=hrel
          have HB0:Hid (Below w.heap.size w wr):=(B2.out.trans (HBr.out.mono (by omega))).trans (hb.out.mono (by omega))
          have bMr:Hid (Blk wr w.heap.size #[.string m.name,.slice pe ne ce,.slice pf nf cf] 42):=(bM.out.below HBr.out (by omega)).below hb.out (by omega)
          by_cases hlt:k<nn
          · obtain ⟨y,hyk⟩:∃ y,(withinX X)[k]?=some y:=⟨(withinX X)[k]'(by rw [HNN.out];exact hlt),List.getElem?_eq_getElem _⟩
            obtain ⟨cs,hcsl,hcs,hy⟩:=HC5.out.2 k y hyk
            have HY:Hid (∀ w',Below wr.heap.size wr w'→HEx w' All d cs y):=fun w' hw=>(hy.mono (SameOn.of_low (hb.out.mono (by omega))) (fun _ h=>h)).mono (SameOn.of_below hw) (fun _ _=>trivial)
            obtain ⟨z0,z1,z2,z3,z4,z5,rfl⟩:=len6 hcsl
            have ad:∃ g5,p5=some ⟨g5,0,none⟩:=owns_some hin.out (by omega)
            obtain ⟨g5,rfl⟩:=ad
            have a0:=(hin.out.cellAt (k * 6+0) (by omega)).trans (hcs 0 (by omega))
            have a1:=(hin.out.cellAt (k * 6+1) (by omega)).trans (hcs 1 (by omega))
            have a2:=(hin.out.cellAt (k * 6+2) (by omega)).trans (hcs 2 (by omega))
            have a3:=(hin.out.cellAt (k * 6+3) (by omega)).trans (hcs 3 (by omega))
            have a4:=(hin.out.cellAt (k * 6+4) (by omega)).trans (hcs 4 (by omega))
            have a5:=(hin.out.cellAt (k * 6+5) (by omega)).trans (hcs 5 (by omega))
            simp at a0 a1 a2 a3 a4 a5
            have m0:=bMr.out.cell 0 _ rfl
            have m1:=bMr.out.cell 1 _ rfl
            have m2:=bMr.out.cell 2 _ rfl
            have hki:(k:Int)<(nn:Int):=by omega
            have hk0:(0:Int)≤(k:Int):=by omega
            have hsw:w.heap.size+1+1≤wr.heap.size:=by have:=hb.out.size;omega
            have HJ:Hid (toL nmT m X ++ ((withinX X).take (k+1)).flatMap (callsX nmT m d)=(toL nmT m X ++ ((withinX X).take k).flatMap (callsX nmT m d)) ++ callsX nmT m d y):=by
              show _=_
              rw [List.take_add_one,hyk];simp
            have HLK:Hid ((toL nmT m X ++ ((withinX X).take k).flatMap (callsX nmT m d)).length+(callsX nmT m d y).length≤1048577):=by
              have h1:=HSUM.out
              have h2:=sum_take_succ (fun y=>1+wtEx d y) (withinX X) k y hyk
              have h3:=sum_take_le (fun y=>1+wtEx d y) (withinX X) (k+1)
              have h4:=flat_lenG (callsX nmT m d) (fun y=>1+wtEx d y) ((withinX X).take k) (fun z _=>callsX_len m d z)
              have h5:=callsX_len m d y
              show _≤_
              rw [List.length_append]
              omega
            have HWY:Hid (wtEx d y≤1048576):=by
              have h1:=HSUM.out
              have h2:=sum_take_succ (fun y=>1+wtEx d y) (withinX X) k y hyk
              have h3:=sum_take_le (fun y=>1+wtEx d y) (withinX X) (k+1)
              show _≤_
              omega
            have CX:Hid (∀ w',Below wr.heap.size wr w'→Calls Tryz.prog 95 #[.agg #[.string m.name,.slice pe ne ce,.slice pf nf cf],.agg #[z0,z1,z2,z3,z4,z5]] w' fun e w''=>∃ u,e=.returned u∧OwnS w'' w'.heap.size u (callsX nmT m d y)∧Below w'.heap.size w' w''):=fun w' hw'=>by
              have hb9:Below w.heap.size w w':=HB0.out.trans (hw'.mono HB0.out.size)
              exact hE w' _ m _ y (HMM.out w' hb9) (HY.out w' hw') HWY.out hsm
            have OY0:Hid (∀ c ∈ callsX nmT m d y,okS c):=fun c hc=>okS_small (callsX_small hsm d y HWY.out c hc)
            generalize hJ0:toL nmT m X ++ ((withinX X).take k).flatMap (callsX nmT m d)=J at *
            generalize hY0:callsX nmT m d y=Y at *
            clear hcs hcsl hy hJ0 hY0
            go_wp2_with fail
            go_region_law
              (first
                | (refine step_append_rows (R:=HStr) (S:=All) (by rfl) _ _ _ (by rfl) (w.heap.size+1+1) 9 i0 (.string ⟨#[]⟩) 1 16 Tryz.underlying24 hi hz0 hz1 hz2 rfl (by decide) u5 J.length (strs J) (by rfl) (owns_next ho.out.1 K6.out) u6 Y (by rfl) R6.out str_oneCell (by have:=HLK.out;unfold maxLen;omega) (by have:=HLK.out;omega) (Nat.le_trans hsw K6.out.size) ?_;intro v9 w9 news9 hc9 ho9 hg9)
                | (go_simp;go_at_call 95;refine (CX.out _ (by exact (Below.refl _ _).drew)).mono ?_;rintro e w6 ⟨u6,rfl,o6,hb6⟩;have K6:Hid (Below wr.heap.size wr w6):=⟨hb6.os,hb6.tape,hb6.output,hb6.size,hb6.block⟩;have R6:Hid (Rows w6 All 1 HStr u6 Y):=o6.strR OY0.out;clear hb6 o6;dsimp only))
            all_goals
              have HO9:Hid (OwnS w9 (w.heap.size+1+1) v9 (toL nmT m X ++ ((withinX X).take (k+1)).flatMap (callsX nmT m d))):=by
                show OwnS _ _ _ _
                rw [HJ.out]
                exact OwnS.of ho9 (by simp) (by rw [cellsR_str hc9]) (Nat.le_trans (Nat.le_trans hsw K6.out.size) hg9.size)
              have HI9:Hid (w9.ownsRow 0 147 6 (.slice (some ⟨g5,0,none⟩) nn q5) nn cells5):=owns_apart (owns_next ho.out.1 K6.out) (owns_next hin.out K6.out) (by decide) hg9
              have HB9:Hid (Below (w.heap.size+1+1) w5 w9):=(hb.out.trans (K6.out.mono hsw)).trans (owns_below (owns_next ho.out.1 K6.out) hg9 (Nat.le_trans hsw K6.out.size))
              clear hc9 ho9 hg9
              go_wp2_with fail
              exact ⟨⟨k+1,by omega,by go_num,HO9,HI9,HB9⟩,by simp [intOf];omega⟩
          · have HR:Hid (OwnS wr w.heap.size u5 (callsX nmT m (d+1) X)):=by
              have h1:=ho.out
              rw [List.take_of_length_le (by rw [HNN.out];omega)] at h1
              show OwnS _ _ _ _
              rw [HCD.out]
              exact h1.base (by omega)
            go_wp2_with fail
            go_ret
            exact ⟨_,rfl,HR.out,HB0.out⟩
      · have HL0:Hid (toL nmT m X = [nmT m.name tx nk]):=HL2.out.trans (by unfold hasF;rw [hyes];rfl)
        rw [hfi]
        have hkf:(0:Int)≤(kf:Int):=by omega
        clear hfi hyes
        go_wp2_with fail
        refine (HNB.out _).mono ?_
        rintro e w4 ⟨rfl,hb4⟩
        have HO4:Hid (OwnS (w4.alloc (.cells #[.string (nmT m.name tx nk)] 9)) (w.heap.size+1+1) (.slice (some ⟨w.heap.size+1+1,0,none⟩) 0 0) []):=(OP.out.next hb4).next ((Below.refl _ _).alloc (Nat.le_refl _) _)
        have HB4:Hid (Below (w.heap.size+1+1) W2 w4):=BP.out.trans (hb4.mono (by have:=BP.out.size;rw [S2.out] at this;exact this))
        have s4:w.heap.size+1+1≤w4.heap.size:=by have:=HB4.out.size;rw [S2.out] at this;exact this
        have HB4':Hid (Below (w.heap.size+1+1) W2 (w4.alloc (.cells #[.string (nmT m.name tx nk)] 9))):=HB4.out.alloc s4 _
        have F7:Hid (∀ w7,(w4.alloc (.cells #[.string (nmT m.name tx nk)] 9)).grownBy w7 (Value.ownBlock (.slice (some ⟨w.heap.size+1+1,0,none⟩) 0 0))→w7.cell? ⟨w.heap.size+1,0,none⟩=some (.int .i64 8)∧w7.cell? ⟨w.heap.size+1,1,none⟩=some (.int .i64 nx)∧w7.cell? ⟨w.heap.size+1,2,none⟩=some (.string tx)∧w7.cell? ⟨w.heap.size+1,3,none⟩=some (.string mx)∧w7.cell? ⟨w.heap.size+1,4,none⟩=some (.slice p1 nk q1)∧w7.cell? ⟨w.heap.size+1,5,none⟩=some (.slice p2 nc q2)):=fun w7 hg7=>by
          have bE4:=bE.out.below (HB4'.out.trans (owns_below HO4.out.1 hg7 (by rw [alloc_hs];omega))) (by omega)
          exact ⟨bE4.cell 0 _ rfl,bE4.cell 1 _ rfl,bE4.cell 2 _ rfl,bE4.cell 3 _ rfl,bE4.cell 4 _ rfl,bE4.cell 5 _ rfl⟩
        clear hb4
        clear z0 z1 z2 z3 z4 z5 y0 y1 y2
        go_wp2_with (at_builtin;refine wpList_append_own _ rfl _ _ 24 rfl (w.heap.size+1+1) 9 i0 (.string ⟨#[]⟩) 1 16 Tryz.underlying24 hi hz0 hz1 hz2 rfl (by decide) (.slice (some ⟨w.heap.size+1+1,0,none⟩) 0 0) 0 [] rfl HO4.out.1 ⟨w4.heap.size,0,none⟩ 1 1 (strs [(nmT m.name tx nk)]) rfl (by simp [strs]) (one_str w4 _ _ rfl) (strs_oneCell _) (by unfold maxLen;omega) (by omega) (by rw [alloc_hs];omega) ?_;intro v7 w7 ho7 hg7 _;obtain ⟨e0,e1,e2,e3,e4,e5⟩:=F7.out w7 hg7)
        have HOq:Hid (OwnS w7 (w.heap.size+1+1) v7 (toL nmT m X)):=by
          show OwnS _ _ _ _
          rw [HL0.out]
          exact OwnS.of (l:=[]) (m:=[(nmT m.name tx nk)]) ho7 (by simp) (by simp [strs]) (Nat.le_trans (by rw [alloc_hs];omega) hg7.size)
        have HBq:Hid (Below (w.heap.size+1+1) W2 w7):=HB4'.out.trans (owns_below HO4.out.1 hg7 (by rw [alloc_hs];omega))
        clear ho7 hg7 e0 e1 e2 e3 e4 e5
        refine (HWI.out _ (B2.out.trans (HBq.out.mono (by omega)))).mono ?_
        rintro e w5 ⟨ui,cells5,rfl,o5,c5,hb⟩
        have HOr:Hid (OwnS w5 (w.heap.size+1+1) v7 (toL nmT m X)):=HOq.out.next hb
        have HBr:Hid (Below (w.heap.size+1+1) W2 w5):=HBq.out.trans (hb.mono (by have:=HBq.out.size;rw [S2.out] at this;exact this))
        have HI5:Hid (w5.ownsRow 0 147 6 ui (withinX X).length cells5):=owns_base o5
        have HC5:Hid (CellsR 6 (HEx w5 (fun g=>g<w.heap.size) d) cells5 (withinX X)):=c5.mono (fun cs y _ h=>h.mono (SameOn.of_below hb) (fun _ h=>h))
        obtain ⟨p5,q5,rfl,hcm5⟩:=owns_slice o5
        have hn5:(withinX X).length≤9223372036854775807:=by unfold maxLen at hcm5;omega
        generalize hnn:(withinX X).length=nn at *
        have HNN:Hid ((withinX X).length=nn):=hnn
        have s5:w.heap.size+1+1≤w5.heap.size:=by have:=HBr.out.size;rw [S2.out] at this;exact this
        clear hb hnn HOq HBq o5 c5
        go_wp2_with fail
        go_loopw [5,7] (fun ov iv wr=>∃ k:Nat,k≤nn∧iv=.int .i64 k∧Hid (OwnS wr (w.heap.size+1+1) ov (toL nmT m X ++ ((withinX X).take k).flatMap (callsX nmT m d)))∧Hid (wr.ownsRow 0 147 6 (.slice p5 nn q5) nn cells5)∧Hid (Below (w.heap.size+1+1) w5 wr)) (fun _ iv _=>nn - (intOf iv).toNat)
        case atStart=>exact ⟨0,Nat.zero_le _,rfl,by show OwnS _ _ _ _;simpa using HOr.out,HI5,Below.refl _ _⟩
        case round =>
          obtain ⟨k,hk,rfl,ho,hin,hb⟩:=hrel
          have HB0:Hid (Below w.heap.size w wr):=(B2.out.trans (HBr.out.mono (by omega))).trans (hb.out.mono (by omega))
          have bMr:Hid (Blk wr w.heap.size #[.string m.name,.slice pe ne ce,.slice pf nf cf] 42):=(bM.out.below HBr.out (by omega)).below hb.out (by omega)
          by_cases hlt:k<nn
          · obtain ⟨y,hyk⟩:∃ y,(withinX X)[k]?=some y:=⟨(withinX X)[k]'(by rw [HNN.out];exact hlt),List.getElem?_eq_getElem _⟩
            obtain ⟨cs,hcsl,hcs,hy⟩:=HC5.out.2 k y hyk
            have HY:Hid (∀ w',Below wr.heap.size wr w'→HEx w' All d cs y):=fun w' hw=>(hy.mono (SameOn.of_low (hb.out.mono (by omega))) (fun _ h=>h)).mono (SameOn.of_below hw) (fun _ _=>trivial)
            obtain ⟨z0,z1,z2,z3,z4,z5,rfl⟩:=len6 hcsl
            have ad:∃ g5,p5=some ⟨g5,0,none⟩:=owns_some hin.out (by omega)
            obtain ⟨g5,rfl⟩:=ad
            have a0:=(hin.out.cellAt (k * 6+0) (by omega)).trans (hcs 0 (by omega))
            have a1:=(hin.out.cellAt (k * 6+1) (by omega)).trans (hcs 1 (by omega))
            have a2:=(hin.out.cellAt (k * 6+2) (by omega)).trans (hcs 2 (by omega))
            have a3:=(hin.out.cellAt (k * 6+3) (by omega)).trans (hcs 3 (by omega))
            have a4:=(hin.out.cellAt (k * 6+4) (by omega)).trans (hcs 4 (by omega))
            have a5:=(hin.out.cellAt (k * 6+5) (by omega)).trans (hcs 5 (by omega))
            simp at a0 a1 a2 a3 a4 a5
            have m0:=bMr.out.cell 0 _ rfl
            have m1:=bMr.out.cell 1 _ rfl
            have m2:=bMr.out.cell 2 _ rfl
            have hki:(k:Int)<(nn:Int):=by omega
            have hk0:(0:Int)≤(k:Int):=by omega
            have hsw:w.heap.size+1+1≤wr.heap.size:=by have:=hb.out.size;omega
            have HJ:Hid (toL nmT m X ++ ((withinX X).take (k+1)).flatMap (callsX nmT m d)=(toL nmT m X ++ ((withinX X).take k).flatMap (callsX nmT m d)) ++ callsX nmT m d y):=by
              show _=_
              rw [List.take_add_one,hyk];simp
            have HLK:Hid ((toL nmT m X ++ ((withinX X).take k).flatMap (callsX nmT m d)).length+(callsX nmT m d y).length≤1048577):=by
              have h1:=HSUM.out
              have h2:=sum_take_succ (fun y=>1+wtEx d y) (withinX X) k y hyk
              have h3:=sum_take_le (fun y=>1+wtEx d y) (withinX X) (k+1)
              have h4:=flat_lenG (callsX nmT m d) (fun y=>1+wtEx d y) ((withinX X).take k) (fun z _=>callsX_len m d z)
              have h5:=callsX_len m d y
              show _≤_
              rw [List.length_append]
              omega
            have HWY:Hid (wtEx d y≤1048576):=by
              have h1:=HSUM.out
              have h2:=sum_take_succ (fun y=>1+wtEx d y) (withinX X) k y hyk
              have h3:=sum_take_le (fun y=>1+wtEx d y) (withinX X) (k+1)
              show _≤_
              omega
            have CX:Hid (∀ w',Below wr.heap.size wr w'→Calls Tryz.prog 95 #[.agg #[.string m.name,.slice pe ne ce,.slice pf nf cf],.agg #[z0,z1,z2,z3,z4,z5]] w' fun e w''=>∃ u,e=.returned u∧OwnS w'' w'.heap.size u (callsX nmT m d y)∧Below w'.heap.size w' w''):=fun w' hw'=>by
              have hb9:Below w.heap.size w w':=HB0.out.trans (hw'.mono HB0.out.size)
              exact hE w' _ m _ y (HMM.out w' hb9) (HY.out w' hw') HWY.out hsm
            have OY0:Hid (∀ c ∈ callsX nmT m d y,okS c):=fun c hc=>okS_small (callsX_small hsm d y HWY.out c hc)
            generalize hJ0:toL nmT m X ++ ((withinX X).take k).flatMap (callsX nmT m d)=J at *
            generalize hY0:callsX nmT m d y=Y at *
            clear hcs hcsl hy hJ0 hY0
            go_wp2_with fail
            go_region_law
              (first
                | (refine step_append_rows (R:=HStr) (S:=All) (by rfl) _ _ _ (by rfl) (w.heap.size+1+1) 9 i0 (.string ⟨#[]⟩) 1 16 Tryz.underlying24 hi hz0 hz1 hz2 rfl (by decide) u5 J.length (strs J) (by rfl) (owns_next ho.out.1 K6.out) u6 Y (by rfl) R6.out str_oneCell (by have:=HLK.out;unfold maxLen;omega) (by have:=HLK.out;omega) (Nat.le_trans hsw K6.out.size) ?_;intro v9 w9 news9 hc9 ho9 hg9)
                | (go_simp;go_at_call 95;refine (CX.out _ (by exact (Below.refl _ _).drew)).mono ?_;rintro e w6 ⟨u6,rfl,o6,hb6⟩;have K6:Hid (Below wr.heap.size wr w6):=⟨hb6.os,hb6.tape,hb6.output,hb6.size,hb6.block⟩;have R6:Hid (Rows w6 All 1 HStr u6 Y):=o6.strR OY0.out;clear hb6 o6;dsimp only))
            all_goals
              have HO9:Hid (OwnS w9 (w.heap.size+1+1) v9 (toL nmT m X ++ ((withinX X).take (k+1)).flatMap (callsX nmT m d))):=by
                show OwnS _ _ _ _
                rw [HJ.out]
                exact OwnS.of ho9 (by simp) (by rw [cellsR_str hc9]) (Nat.le_trans (Nat.le_trans hsw K6.out.size) hg9.size)
              have HI9:Hid (w9.ownsRow 0 147 6 (.slice (some ⟨g5,0,none⟩) nn q5) nn cells5):=owns_apart (owns_next ho.out.1 K6.out) (owns_next hin.out K6.out) (by decide) hg9
              have HB9:Hid (Below (w.heap.size+1+1) w5 w9):=(hb.out.trans (K6.out.mono hsw)).trans (owns_below (owns_next ho.out.1 K6.out) hg9 (Nat.le_trans hsw K6.out.size))
              clear hc9 ho9 hg9
              go_wp2_with fail
              exact ⟨⟨k+1,by omega,by go_num,HO9,HI9,HB9⟩,by simp [intOf];omega⟩
          · have HR:Hid (OwnS wr w.heap.size u5 (callsX nmT m (d+1) X)):=by
              have h1:=ho.out
              rw [List.take_of_length_le (by rw [HNN.out];omega)] at h1
              show OwnS _ _ _ _
              rw [HCD.out]
              exact h1.base (by omega)
            go_wp2_with fail
            go_ret
            exact ⟨_,rfl,HR.out,HB0.out⟩
    · have hmb:mx.toList.isEmpty=false:=by simpa using hmx
      have HL0:Hid (toL nmT m X = [nmT mx tx nk]):=HL1.out.trans (if_neg hmx)
      go_enter Tryz.func95,Tryz.ntmps95
      go_wp2_with fail
      rw [← HW2.out]
      have OP:=O3
      have BP:=B3
      refine (HNA.out _).mono ?_
      rintro e w4 ⟨rfl,hb4⟩
      have HO4:Hid (OwnS (w4.alloc (.cells #[.string (nmT mx tx nk)] 9)) (w.heap.size+1+1) (.slice (some ⟨w.heap.size+1+1,0,none⟩) 0 0) []):=(OP.out.next hb4).next ((Below.refl _ _).alloc (Nat.le_refl _) _)
      have HB4:Hid (Below (w.heap.size+1+1) W2 w4):=BP.out.trans (hb4.mono (by have:=BP.out.size;rw [S2.out] at this;exact this))
      have s4:w.heap.size+1+1≤w4.heap.size:=by have:=HB4.out.size;rw [S2.out] at this;exact this
      have HB4':Hid (Below (w.heap.size+1+1) W2 (w4.alloc (.cells #[.string (nmT mx tx nk)] 9))):=HB4.out.alloc s4 _
      have F7:Hid (∀ w7,(w4.alloc (.cells #[.string (nmT mx tx nk)] 9)).grownBy w7 (Value.ownBlock (.slice (some ⟨w.heap.size+1+1,0,none⟩) 0 0))→w7.cell? ⟨w.heap.size+1,0,none⟩=some (.int .i64 8)∧w7.cell? ⟨w.heap.size+1,1,none⟩=some (.int .i64 nx)∧w7.cell? ⟨w.heap.size+1,2,none⟩=some (.string tx)∧w7.cell? ⟨w.heap.size+1,3,none⟩=some (.string mx)∧w7.cell? ⟨w.heap.size+1,4,none⟩=some (.slice p1 nk q1)∧w7.cell? ⟨w.heap.size+1,5,none⟩=some (.slice p2 nc q2)):=fun w7 hg7=>by
        have bE4:=bE.out.below (HB4'.out.trans (owns_below HO4.out.1 hg7 (by rw [alloc_hs];omega))) (by omega)
        exact ⟨bE4.cell 0 _ rfl,bE4.cell 1 _ rfl,bE4.cell 2 _ rfl,bE4.cell 3 _ rfl,bE4.cell 4 _ rfl,bE4.cell 5 _ rfl⟩
      clear hb4
      clear z0 z1 z2 z3 z4 z5 y0 y1 y2
      go_wp2_with (at_builtin;refine wpList_append_own _ rfl _ _ 24 rfl (w.heap.size+1+1) 9 i0 (.string ⟨#[]⟩) 1 16 Tryz.underlying24 hi hz0 hz1 hz2 rfl (by decide) (.slice (some ⟨w.heap.size+1+1,0,none⟩) 0 0) 0 [] rfl HO4.out.1 ⟨w4.heap.size,0,none⟩ 1 1 (strs [(nmT mx tx nk)]) rfl (by simp [strs]) (one_str w4 _ _ rfl) (strs_oneCell _) (by unfold maxLen;omega) (by omega) (by rw [alloc_hs];omega) ?_;intro v7 w7 ho7 hg7 _;obtain ⟨e0,e1,e2,e3,e4,e5⟩:=F7.out w7 hg7)
      have HOq:Hid (OwnS w7 (w.heap.size+1+1) v7 (toL nmT m X)):=by
        show OwnS _ _ _ _
        rw [HL0.out]
        exact OwnS.of (l:=[]) (m:=[(nmT mx tx nk)]) ho7 (by simp) (by simp [strs]) (Nat.le_trans (by rw [alloc_hs];omega) hg7.size)
      have HBq:Hid (Below (w.heap.size+1+1) W2 w7):=HB4'.out.trans (owns_below HO4.out.1 hg7 (by rw [alloc_hs];omega))
      clear ho7 hg7 e0 e1 e2 e3 e4 e5
      refine (HWI.out _ (B2.out.trans (HBq.out.mono (by omega)))).mono ?_
      rintro e w5 ⟨ui,cells5,rfl,o5,c5,hb⟩
      have HOr:Hid (OwnS w5 (w.heap.size+1+1) v7 (toL nmT m X)):=HOq.out.next hb
      have HBr:Hid (Below (w.heap.size+1+1) W2 w5):=HBq.out.trans (hb.mono (by have:=HBq.out.size;rw [S2.out] at this;exact this))
      have HI5:Hid (w5.ownsRow 0 147 6 ui (withinX X).length cells5):=owns_base o5
      have HC5:Hid (CellsR 6 (HEx w5 (fun g=>g<w.heap.size) d) cells5 (withinX X)):=c5.mono (fun cs y _ h=>h.mono (SameOn.of_below hb) (fun _ h=>h))
      obtain ⟨p5,q5,rfl,hcm5⟩:=owns_slice o5
      have hn5:(withinX X).length≤9223372036854775807:=by unfold maxLen at hcm5;omega
      generalize hnn:(withinX X).length=nn at *
      have HNN:Hid ((withinX X).length=nn):=hnn
      have s5:w.heap.size+1+1≤w5.heap.size:=by have:=HBr.out.size;rw [S2.out] at this;exact this
      clear hb hnn HOq HBq o5 c5
      go_wp2_with fail
      go_loopw [5,7] (fun ov iv wr=>∃ k:Nat,k≤nn∧iv=.int .i64 k∧Hid (OwnS wr (w.heap.size+1+1) ov (toL nmT m X ++ ((withinX X).take k).flatMap (callsX nmT m d)))∧Hid (wr.ownsRow 0 147 6 (.slice p5 nn q5) nn cells5)∧Hid (Below (w.heap.size+1+1) w5 wr)) (fun _ iv _=>nn - (intOf iv).toNat)
      case atStart=>exact ⟨0,Nat.zero_le _,rfl,by show OwnS _ _ _ _;simpa using HOr.out,HI5,Below.refl _ _⟩
      case round =>
        obtain ⟨k,hk,rfl,ho,hin,hb⟩:=hrel
        have HB0:Hid (Below w.heap.size w wr):=(B2.out.trans (HBr.out.mono (by omega))).trans (hb.out.mono (by omega))
        have bMr:Hid (Blk wr w.heap.size #[.string m.name,.slice pe ne ce,.slice pf nf cf] 42):=(bM.out.below HBr.out (by omega)).below hb.out (by omega)
        by_cases hlt:k<nn
        · obtain ⟨y,hyk⟩:∃ y,(withinX X)[k]?=some y:=⟨(withinX X)[k]'(by rw [HNN.out];exact hlt),List.getElem?_eq_getElem _⟩
          obtain ⟨cs,hcsl,hcs,hy⟩:=HC5.out.2 k y hyk
          have HY:Hid (∀ w',Below wr.heap.size wr w'→HEx w' All d cs y):=fun w' hw=>(hy.mono (SameOn.of_low (hb.out.mono (by omega))) (fun _ h=>h)).mono (SameOn.of_below hw) (fun _ _=>trivial)
          obtain ⟨z0,z1,z2,z3,z4,z5,rfl⟩:=len6 hcsl
          have ad:∃ g5,p5=some ⟨g5,0,none⟩:=owns_some hin.out (by omega)
          obtain ⟨g5,rfl⟩:=ad
          have a0:=(hin.out.cellAt (k * 6+0) (by omega)).trans (hcs 0 (by omega))
          have a1:=(hin.out.cellAt (k * 6+1) (by omega)).trans (hcs 1 (by omega))
          have a2:=(hin.out.cellAt (k * 6+2) (by omega)).trans (hcs 2 (by omega))
          have a3:=(hin.out.cellAt (k * 6+3) (by omega)).trans (hcs 3 (by omega))
          have a4:=(hin.out.cellAt (k * 6+4) (by omega)).trans (hcs 4 (by omega))
          have a5:=(hin.out.cellAt (k * 6+5) (by omega)).trans (hcs 5 (by omega))
          simp at a0 a1 a2 a3 a4 a5
          have m0:=bMr.out.cell 0 _ rfl
          have m1:=bMr.out.cell 1 _ rfl
          have m2:=bMr.out.cell 2 _ rfl
          have hki:(k:Int)<(nn:Int):=by omega
          have hk0:(0:Int)≤(k:Int):=by omega
          have hsw:w.heap.size+1+1≤wr.heap.size:=by have:=hb.out.size;omega
          have HJ:Hid (toL nmT m X ++ ((withinX X).take (k+1)).flatMap (callsX nmT m d)=(toL nmT m X ++ ((withinX X).take k).flatMap (callsX nmT m d)) ++ callsX nmT m d y):=by
            show _=_
            rw [List.take_add_one,hyk];simp
          have HLK:Hid ((toL nmT m X ++ ((withinX X).take k).flatMap (callsX nmT m d)).length+(callsX nmT m d y).length≤1048577):=by
            have h1:=HSUM.out
            have h2:=sum_take_succ (fun y=>1+wtEx d y) (withinX X) k y hyk
            have h3:=sum_take_le (fun y=>1+wtEx d y) (withinX X) (k+1)
            have h4:=flat_lenG (callsX nmT m d) (fun y=>1+wtEx d y) ((withinX X).take k) (fun z _=>callsX_len m d z)
            have h5:=callsX_len m d y
            show _≤_
            rw [List.length_append]
            omega
          have HWY:Hid (wtEx d y≤1048576):=by
            have h1:=HSUM.out
            have h2:=sum_take_succ (fun y=>1+wtEx d y) (withinX X) k y hyk
            have h3:=sum_take_le (fun y=>1+wtEx d y) (withinX X) (k+1)
            show _≤_
            omega
          have CX:Hid (∀ w',Below wr.heap.size wr w'→Calls Tryz.prog 95 #[.agg #[.string m.name,.slice pe ne ce,.slice pf nf cf],.agg #[z0,z1,z2,z3,z4,z5]] w' fun e w''=>∃ u,e=.returned u∧OwnS w'' w'.heap.size u (callsX nmT m d y)∧Below w'.heap.size w' w''):=fun w' hw'=>by
            have hb9:Below w.heap.size w w':=HB0.out.trans (hw'.mono HB0.out.size)
            exact hE w' _ m _ y (HMM.out w' hb9) (HY.out w' hw') HWY.out hsm
          have OY0:Hid (∀ c ∈ callsX nmT m d y,okS c):=fun c hc=>okS_small (callsX_small hsm d y HWY.out c hc)
          generalize hJ0:toL nmT m X ++ ((withinX X).take k).flatMap (callsX nmT m d)=J at *
          generalize hY0:callsX nmT m d y=Y at *
          clear hcs hcsl hy hJ0 hY0
          go_wp2_with fail
          go_region_law
            (first
              | (refine step_append_rows (R:=HStr) (S:=All) (by rfl) _ _ _ (by rfl) (w.heap.size+1+1) 9 i0 (.string ⟨#[]⟩) 1 16 Tryz.underlying24 hi hz0 hz1 hz2 rfl (by decide) u5 J.length (strs J) (by rfl) (owns_next ho.out.1 K6.out) u6 Y (by rfl) R6.out str_oneCell (by have:=HLK.out;unfold maxLen;omega) (by have:=HLK.out;omega) (Nat.le_trans hsw K6.out.size) ?_;intro v9 w9 news9 hc9 ho9 hg9)
              | (go_simp;go_at_call 95;refine (CX.out _ (by exact (Below.refl _ _).drew)).mono ?_;rintro e w6 ⟨u6,rfl,o6,hb6⟩;have K6:Hid (Below wr.heap.size wr w6):=⟨hb6.os,hb6.tape,hb6.output,hb6.size,hb6.block⟩;have R6:Hid (Rows w6 All 1 HStr u6 Y):=o6.strR OY0.out;clear hb6 o6;dsimp only))
          all_goals
            have HO9:Hid (OwnS w9 (w.heap.size+1+1) v9 (toL nmT m X ++ ((withinX X).take (k+1)).flatMap (callsX nmT m d))):=by
              show OwnS _ _ _ _
              rw [HJ.out]
              exact OwnS.of ho9 (by simp) (by rw [cellsR_str hc9]) (Nat.le_trans (Nat.le_trans hsw K6.out.size) hg9.size)
            have HI9:Hid (w9.ownsRow 0 147 6 (.slice (some ⟨g5,0,none⟩) nn q5) nn cells5):=owns_apart (owns_next ho.out.1 K6.out) (owns_next hin.out K6.out) (by decide) hg9
            have HB9:Hid (Below (w.heap.size+1+1) w5 w9):=(hb.out.trans (K6.out.mono hsw)).trans (owns_below (owns_next ho.out.1 K6.out) hg9 (Nat.le_trans hsw K6.out.size))
            clear hc9 ho9 hg9
            go_wp2_with fail
            exact ⟨⟨k+1,by omega,by go_num,HO9,HI9,HB9⟩,by simp [intOf];omega⟩
        · have HR:Hid (OwnS wr w.heap.size u5 (callsX nmT m (d+1) X)):=by
            have h1:=ho.out
            rw [List.take_of_length_le (by rw [HNN.out];omega)] at h1
            show OwnS _ _ _ _
            rw [HCD.out]
            exact h1.base (by omega)
          go_wp2_with fail
          go_ret
          exact ⟨_,rfl,HR.out,HB0.out⟩
  · have hkb:(kx == 8)=false:=by simpa using hk8
    have HL0:Hid (toL nmT m X = []):=HCL.out.trans (if_neg hk8)
    go_enter Tryz.func95,Tryz.ntmps95
    go_wp2_with fail
    rw [← HW2.out]
    have HOq:Hid (OwnS (W2.alloc (.cells #[] 9)) (w.heap.size+1+1) (.slice (some ⟨w.heap.size+1+1,0,none⟩) 0 0) (toL nmT m X)):=by show OwnS _ _ _ _;rw [HL0.out];exact O3.out
    have HBq:=B3
    clear z0 z1 z2 z3 z4 z5 y0 y1 y2
    refine (HWI.out _ (B2.out.trans (HBq.out.mono (by omega)))).mono ?_
    rintro e w5 ⟨ui,cells5,rfl,o5,c5,hb⟩
    have HOr:Hid (OwnS w5 (w.heap.size+1+1) (.slice (some ⟨w.heap.size+1+1,0,none⟩) 0 0) (toL nmT m X)):=HOq.out.next hb
    have HBr:Hid (Below (w.heap.size+1+1) W2 w5):=HBq.out.trans (hb.mono (by have:=HBq.out.size;rw [S2.out] at this;exact this))
    have HI5:Hid (w5.ownsRow 0 147 6 ui (withinX X).length cells5):=owns_base o5
    have HC5:Hid (CellsR 6 (HEx w5 (fun g=>g<w.heap.size) d) cells5 (withinX X)):=c5.mono (fun cs y _ h=>h.mono (SameOn.of_below hb) (fun _ h=>h))
    obtain ⟨p5,q5,rfl,hcm5⟩:=owns_slice o5
    have hn5:(withinX X).length≤9223372036854775807:=by unfold maxLen at hcm5;omega
    generalize hnn:(withinX X).length=nn at *
    have HNN:Hid ((withinX X).length=nn):=hnn
    have s5:w.heap.size+1+1≤w5.heap.size:=by have:=HBr.out.size;rw [S2.out] at this;exact this
    clear hb hnn HOq HBq o5 c5
    go_wp2_with fail
    go_loopw [5,7] (fun ov iv wr=>∃ k:Nat,k≤nn∧iv=.int .i64 k∧Hid (OwnS wr (w.heap.size+1+1) ov (toL nmT m X ++ ((withinX X).take k).flatMap (callsX nmT m d)))∧Hid (wr.ownsRow 0 147 6 (.slice p5 nn q5) nn cells5)∧Hid (Below (w.heap.size+1+1) w5 wr)) (fun _ iv _=>nn - (intOf iv).toNat)
    case atStart=>exact ⟨0,Nat.zero_le _,rfl,by show OwnS _ _ _ _;simpa using HOr.out,HI5,Below.refl _ _⟩
    case round =>
      obtain ⟨k,hk,rfl,ho,hin,hb⟩:=hrel
      have HB0:Hid (Below w.heap.size w wr):=(B2.out.trans (HBr.out.mono (by omega))).trans (hb.out.mono (by omega))
      have bMr:Hid (Blk wr w.heap.size #[.string m.name,.slice pe ne ce,.slice pf nf cf] 42):=(bM.out.below HBr.out (by omega)).below hb.out (by omega)
      by_cases hlt:k<nn
      · obtain ⟨y,hyk⟩:∃ y,(withinX X)[k]?=some y:=⟨(withinX X)[k]'(by rw [HNN.out];exact hlt),List.getElem?_eq_getElem _⟩
        obtain ⟨cs,hcsl,hcs,hy⟩:=HC5.out.2 k y hyk
        have HY:Hid (∀ w',Below wr.heap.size wr w'→HEx w' All d cs y):=fun w' hw=>(hy.mono (SameOn.of_low (hb.out.mono (by omega))) (fun _ h=>h)).mono (SameOn.of_below hw) (fun _ _=>trivial)
        obtain ⟨z0,z1,z2,z3,z4,z5,rfl⟩:=len6 hcsl
        have ad:∃ g5,p5=some ⟨g5,0,none⟩:=owns_some hin.out (by omega)
        obtain ⟨g5,rfl⟩:=ad
        have a0:=(hin.out.cellAt (k * 6+0) (by omega)).trans (hcs 0 (by omega))
        have a1:=(hin.out.cellAt (k * 6+1) (by omega)).trans (hcs 1 (by omega))
        have a2:=(hin.out.cellAt (k * 6+2) (by omega)).trans (hcs 2 (by omega))
        have a3:=(hin.out.cellAt (k * 6+3) (by omega)).trans (hcs 3 (by omega))
        have a4:=(hin.out.cellAt (k * 6+4) (by omega)).trans (hcs 4 (by omega))
        have a5:=(hin.out.cellAt (k * 6+5) (by omega)).trans (hcs 5 (by omega))
        simp at a0 a1 a2 a3 a4 a5
        have m0:=bMr.out.cell 0 _ rfl
        have m1:=bMr.out.cell 1 _ rfl
        have m2:=bMr.out.cell 2 _ rfl
        have hki:(k:Int)<(nn:Int):=by omega
        have hk0:(0:Int)≤(k:Int):=by omega
        have hsw:w.heap.size+1+1≤wr.heap.size:=by have:=hb.out.size;omega
        have HJ:Hid (toL nmT m X ++ ((withinX X).take (k+1)).flatMap (callsX nmT m d)=(toL nmT m X ++ ((withinX X).take k).flatMap (callsX nmT m d)) ++ callsX nmT m d y):=by
          show _=_
          rw [List.take_add_one,hyk];simp
        have HLK:Hid ((toL nmT m X ++ ((withinX X).take k).flatMap (callsX nmT m d)).length+(callsX nmT m d y).length≤1048577):=by
          have h1:=HSUM.out
          have h2:=sum_take_succ (fun y=>1+wtEx d y) (withinX X) k y hyk
          have h3:=sum_take_le (fun y=>1+wtEx d y) (withinX X) (k+1)
          have h4:=flat_lenG (callsX nmT m d) (fun y=>1+wtEx d y) ((withinX X).take k) (fun z _=>callsX_len m d z)
          have h5:=callsX_len m d y
          show _≤_
          rw [List.length_append]
          omega
        have HWY:Hid (wtEx d y≤1048576):=by
          have h1:=HSUM.out
          have h2:=sum_take_succ (fun y=>1+wtEx d y) (withinX X) k y hyk
          have h3:=sum_take_le (fun y=>1+wtEx d y) (withinX X) (k+1)
          show _≤_
          omega
        have CX:Hid (∀ w',Below wr.heap.size wr w'→Calls Tryz.prog 95 #[.agg #[.string m.name,.slice pe ne ce,.slice pf nf cf],.agg #[z0,z1,z2,z3,z4,z5]] w' fun e w''=>∃ u,e=.returned u∧OwnS w'' w'.heap.size u (callsX nmT m d y)∧Below w'.heap.size w' w''):=fun w' hw'=>by
          have hb9:Below w.heap.size w w':=HB0.out.trans (hw'.mono HB0.out.size)
          exact hE w' _ m _ y (HMM.out w' hb9) (HY.out w' hw') HWY.out hsm
        have OY0:Hid (∀ c ∈ callsX nmT m d y,okS c):=fun c hc=>okS_small (callsX_small hsm d y HWY.out c hc)
        generalize hJ0:toL nmT m X ++ ((withinX X).take k).flatMap (callsX nmT m d)=J at *
        generalize hY0:callsX nmT m d y=Y at *
        clear hcs hcsl hy hJ0 hY0
        go_wp2_with fail
        go_region_law
          (first
            | (refine step_append_rows (R:=HStr) (S:=All) (by rfl) _ _ _ (by rfl) (w.heap.size+1+1) 9 i0 (.string ⟨#[]⟩) 1 16 Tryz.underlying24 hi hz0 hz1 hz2 rfl (by decide) u5 J.length (strs J) (by rfl) (owns_next ho.out.1 K6.out) u6 Y (by rfl) R6.out str_oneCell (by have:=HLK.out;unfold maxLen;omega) (by have:=HLK.out;omega) (Nat.le_trans hsw K6.out.size) ?_;intro v9 w9 news9 hc9 ho9 hg9)
            | (go_simp;go_at_call 95;refine (CX.out _ (by exact (Below.refl _ _).drew)).mono ?_;rintro e w6 ⟨u6,rfl,o6,hb6⟩;have K6:Hid (Below wr.heap.size wr w6):=⟨hb6.os,hb6.tape,hb6.output,hb6.size,hb6.block⟩;have R6:Hid (Rows w6 All 1 HStr u6 Y):=o6.strR OY0.out;clear hb6 o6;dsimp only))
        all_goals
          have HO9:Hid (OwnS w9 (w.heap.size+1+1) v9 (toL nmT m X ++ ((withinX X).take (k+1)).flatMap (callsX nmT m d))):=by
            show OwnS _ _ _ _
            rw [HJ.out]
            exact OwnS.of ho9 (by simp) (by rw [cellsR_str hc9]) (Nat.le_trans (Nat.le_trans hsw K6.out.size) hg9.size)
          have HI9:Hid (w9.ownsRow 0 147 6 (.slice (some ⟨g5,0,none⟩) nn q5) nn cells5):=owns_apart (owns_next ho.out.1 K6.out) (owns_next hin.out K6.out) (by decide) hg9
          have HB9:Hid (Below (w.heap.size+1+1) w5 w9):=(hb.out.trans (K6.out.mono hsw)).trans (owns_below (owns_next ho.out.1 K6.out) hg9 (Nat.le_trans hsw K6.out.size))
          clear hc9 ho9 hg9
          go_wp2_with fail
          exact ⟨⟨k+1,by omega,by go_num,HO9,HI9,HB9⟩,by simp [intOf];omega⟩
      · have HR:Hid (OwnS wr w.heap.size u5 (callsX nmT m (d+1) X)):=by
          have h1:=ho.out
          rw [List.take_of_length_le (by rw [HNN.out];omega)] at h1
          show OwnS _ _ _ _
          rw [HCD.out]
          exact h1.base (by omega)
        go_wp2_with fail
        go_ret
        exact ⟨_,rfl,HR.out,HB0.out⟩
theorem l05Calls_all (dm:Nat):∀ d,CxC dm d
  | 0=>fun w mc m cs x _ hx _ _=>hx.elim
  | d+1=>l05Calls_of (l05Calls_all dm d)
def cF (m:Md) (d:Nat) (l:List Ex):List ByteArray:=l.flatMap (callsX nmT m d)
theorem cF_len (m:Md) (d:Nat) (l:List Ex):(cF m d l).length≤(l.map fun y=>1+wtEx d y).sum:=flat_lenG (callsX nmT m d) (fun y=>1+wtEx d y) l (fun z _=>callsX_len m d z)
theorem cF_small {m:Md} (hm:m.name.size≤1048576) {d:Nat} {l:List Ex} (hl:∀ y ∈ l,wtEx d y≤1048576):∀ c ∈ cF m d l,c.size≤2097200:=by
  intro c hc
  obtain ⟨y,hy,hc⟩:=List.mem_flatMap.1 hc
  exact callsX_small hm d y (hl y hy) c hc
theorem mem_wt (d:Nat) {l:List Ex} {y:Ex} (h:y ∈ l):1+wtEx d y≤(l.map fun y=>1+wtEx d y).sum:=by
  obtain ⟨k,hk⟩:=List.mem_iff_getElem?.1 h
  have h2:=sum_take_succ (fun y=>1+wtEx d y) l k y hk
  have h3:=sum_take_le (fun y=>1+wtEx d y) l (k+1)
  omega
theorem l05Of_any (d:Nat) (w:World) (mc:List Value) (m:Md) (cs:List Value) (f:Fn') (hm:HMd w All d mc m) (hf:HFn w All d cs f) (hw:wtFn d f≤1048576) (hms:m.name.size≤1048576) :
    Calls Tryz.prog 59 #[.agg mc.toArray,.agg cs.toArray] w fun e w'=>∃ u,e=.returned u∧OwnS w' w.heap.size u (sortS (cF m d (bodiesOf f.clauses)))∧Below w.heap.size w w':=by
  have HMM:Hid (∀ w',Below w.heap.size w w'→HMd w' All d mc m):=fun w' hw=>hm.mono (SameOn.of_below hw) (fun _ h=>h)
  obtain ⟨sv,pe,ne,ce,pf,nf,cf,rfl⟩:=hm.shape
  obtain ⟨cv,rfl,-,-,p1,q1,rfl,hcl,hcm,hx⟩:=hf
  have HWC:Hid (wtS (wtCl (wtEx d)) f.clauses≤1048576):=by show _≤_;unfold wtFn at hw;omega
  have HX:Hid (f.clauses≠[]→∃ g off,p1=some ⟨g,off,none⟩∧All g∧g<w.heap.size∧∀ i x,f.clauses[i]?=some x→∃ cs,cs.length=2∧(∀ j,j<2→w.cell? ⟨g,off+i * 2+j,none⟩=cs[j]?)∧HCl w All (HEx w All d) cs x):=hx
  have hnb:f.clauses.length≤9223372036854775807:=by unfold maxLen at hcm;omega
  have HSM:Hid (m.name.size≤1048576):=hms
  obtain ⟨i0,hi,hz0,hz1,hz2⟩:=info_parts info_str
  generalize f.clauses=cl at *
  generalize hnc:cl.length=nc at *
  have HNC:Hid (cl.length=nc):=hnc
  obtain ⟨W2,hW2⟩:∃ W2,W2=(w.alloc (.cells #[.string sv,.slice pe ne ce,.slice pf nf cf] 42)).alloc (.cells #[.string f.name,.int .i64 f.arity,.slice p1 nc q1] 46):=⟨_,rfl⟩
  have bM:Hid (Blk W2 w.heap.size #[.string sv,.slice pe ne ce,.slice pf nf cf] 42):=by show Blk _ _ _ _;rw [hW2];exact Blk.new.alloc
  have bF:Hid (Blk W2 (w.heap.size+1) #[.string f.name,.int .i64 f.arity,.slice p1 nc q1] 46):=by
    show Blk _ _ _ _
    rw [hW2]
    have:=Blk.new (w:=w.alloc (.cells #[.string sv,.slice pe ne ce,.slice pf nf cf] 42)) (cs:=#[.string f.name,.int .i64 f.arity,.slice p1 nc q1]) (t:=46)
    simp only [alloc_hs] at this
    exact this
  have B2:Hid (Below w.heap.size w W2):=by show Below _ _ _;rw [hW2];exact ((Below.refl _ _).alloc (Nat.le_refl _) _).alloc (by simp only [alloc_hs];omega) _
  have S2:Hid (W2.heap.size=w.heap.size+1+1):=by show _=_;rw [hW2];simp only [alloc_hs]
  have HW2:Hid (W2=(w.alloc (.cells #[.string sv,.slice pe ne ce,.slice pf nf cf] 42)).alloc (.cells #[.string f.name,.int .i64 f.arity,.slice p1 nc q1] 46)):=hW2
  have O3:Hid (OwnS (W2.alloc (.cells #[] 9)) (w.heap.size+1+1) (.slice (some ⟨w.heap.size+1+1,0,none⟩) 0 0) []):=by
    have:=OwnS.fresh (w:=W2)
    rw [S2.out] at this
    exact this
  have B3:Hid (Below (w.heap.size+1+1) W2 (W2.alloc (.cells #[] 9))):=(Below.refl _ _).alloc (by rw [S2.out];exact Nat.le_refl _) _
  clear hm hw hx hnc hW2 hms
  go_enter Tryz.func59,Tryz.ntmps59
  go_wp2_with fail
  rw [← HW2.out]
  go_loopw [5,6] (fun ov iv wx=>∃ k:Nat,k≤nc∧iv=.int .i64 k∧Hid (OwnS wx (w.heap.size+1+1) ov (cF m d (bodiesOf (cl.take k))))∧Hid (Below (w.heap.size+1+1) W2 wx)) (fun _ iv _=>nc - (intOf iv).toNat)
  case atStart=>exact ⟨0,Nat.zero_le _,rfl,by show OwnS _ _ _ _;simpa [bodiesOf,cF] using O3.out,B3⟩
  case round =>
    obtain ⟨a,ha,rfl,ho,hbx⟩:=hrel
    have HB0:Hid (Below w.heap.size w wr):=B2.out.trans (hbx.out.mono (by omega))
    have bFr:=bF.out.below hbx.out (by omega)
    have x2:=bFr.cell 2 _ rfl
    have hsw:w.heap.size+1+1≤wr.heap.size:=by have:=hbx.out.size;rw [S2.out] at this;exact this
    clear bFr
    by_cases hlt:a<nc
    · obtain ⟨c,hck⟩:∃ c,cl[a]?=some c:=⟨cl[a]'(by rw [HNC.out];exact hlt),List.getElem?_eq_getElem _⟩
      obtain ⟨g,off,rfl,-,hgl,hat⟩:=HX.out (by intro h;rw [h] at hck;simp at hck)
      obtain ⟨cs,hcsl,hcs,pv,bv,rfl,rp,rb⟩:=hat a c hck
      obtain ⟨pp,qp,rfl,-⟩:=rp
      obtain ⟨pb,qb,rfl,hclb,hcmb,hxb⟩:=rb
      have HXB:Hid (c.2≠[]→∃ g off,pb=some ⟨g,off,none⟩∧All g∧g<w.heap.size∧∀ i x,c.2[i]?=some x→∃ cs,cs.length=6∧(∀ j,j<6→w.cell? ⟨g,off+i * 6+j,none⟩=cs[j]?)∧HEx w All d cs x):=hxb
      have hnbb:c.2.length≤9223372036854775807:=by unfold maxLen at hcmb;omega
      have HA0:Hid (w.cell? ⟨g,off+a * 2,none⟩=some (.slice pp c.1.length qp)∧w.cell? ⟨g,off+a * 2+1,none⟩=some (.slice pb c.2.length qb)):=⟨hcs 0 (by omega),hcs 1 (by omega)⟩
      have HGL:Hid (g<w.heap.size):=hgl
      have hki:(a:Int)<(nc:Int):=by omega
      have hk0:(0:Int)≤(a:Int):=by omega
      have HBO:Hid (bodiesOf (cl.take (a+1))=bodiesOf (cl.take a) ++ c.2):=bodiesOf_snoc cl a c hck
      have HSB:Hid ((((bodiesOf (cl.take a) ++ c.2).map fun y=>1+wtEx d y).sum)≤1048576):=by
        have h1:=sumB d cl
        have h2:=HWC.out
        have h3:((bodiesOf (cl.take (a+1))).map fun y=>1+wtEx d y).sum≤((bodiesOf cl).map fun y=>1+wtEx d y).sum:=by
          have e:bodiesOf cl=bodiesOf (cl.take (a+1)) ++ bodiesOf (cl.drop (a+1)):=by
            unfold bodiesOf
            rw [← List.flatMap_append,List.take_append_drop]
          rw [e,List.map_append,List.sum_append];omega
        rw [HBO.out] at h3
        show _≤_
        omega
      generalize hnbo:c.2.length=nb at *
      have HNB:Hid (c.2.length=nb):=hnbo
      clear hcs hat hcsl hxb hck hnbo hclb hcmb x2
      have bFr:=bF.out.below hbx.out (by omega)
      have x2:=bFr.cell 2 _ rfl
      clear bFr
      go_wp2_with fail
      clear x2
      go_loopw [5,7] (fun ov iv wx=>∃ j:Nat,j≤nb∧iv=.int .i64 j∧Hid (OwnS wx (w.heap.size+1+1) ov (cF m d (bodiesOf (cl.take a) ++ c.2.take j)))∧Hid (Below (w.heap.size+1+1) W2 wx)) (fun _ iv _=>nb - (intOf iv).toNat)
      case atStart=>exact ⟨0,Nat.zero_le _,rfl,by show OwnS _ _ _ _;simpa using ho.out,hbx⟩
      case round =>
        obtain ⟨j,hj,rfl,ho2,hb2⟩:=hrel
        clear ho hbx HB0 hsw
        have HB0:Hid (Below w.heap.size w wr):=B2.out.trans (hb2.out.mono (by omega))
        have bFr:=bF.out.below hb2.out (by omega)
        have bMr:=bM.out.below hb2.out (by omega)
        have x2:=bFr.cell 2 _ rfl
        have m0:=bMr.cell 0 _ rfl
        have m1:=bMr.cell 1 _ rfl
        have m2:=bMr.cell 2 _ rfl
        have a0:=(HB0.out.cell (p:=⟨g,off+a * 2,none⟩) HGL.out).trans HA0.out.1
        have a1:=(HB0.out.cell (p:=⟨g,off+a * 2+1,none⟩) HGL.out).trans HA0.out.2
        have hsw:w.heap.size+1+1≤wr.heap.size:=by have:=hb2.out.size;rw [S2.out] at this;exact this
        clear bFr bMr
        by_cases hlj:j<nb
        · obtain ⟨y,hyk⟩:∃ y,c.2[j]?=some y:=⟨c.2[j]'(by rw [HNB.out];exact hlj),List.getElem?_eq_getElem _⟩
          obtain ⟨g5,o5,rfl,-,hgl5,hat5⟩:=HXB.out (by intro h;rw [h] at hyk;simp at hyk)
          obtain ⟨cs5,hcsl5,hcs5,hy⟩:=hat5 j y hyk
          have HY:Hid (∀ w',Below w.heap.size w w'→HEx w' All d cs5 y):=fun w' hw=>hy.mono (SameOn.of_below hw) (fun _ h=>h)
          obtain ⟨z0,z1,z2,z3,z4,z5,rfl⟩:=len6 hcsl5
          have b0:=hcs5 0 (by omega)
          have b1:=hcs5 1 (by omega)
          have b2:=hcs5 2 (by omega)
          have b3:=hcs5 3 (by omega)
          have b4:=hcs5 4 (by omega)
          have b5:=hcs5 5 (by omega)
          rw [← HB0.out.cell (p:=⟨g5,_,none⟩) hgl5] at b0 b1 b2 b3 b4 b5
          simp at b0 b1 b2 b3 b4 b5
          have hji:(j:Int)<(nb:Int):=by omega
          have hj0:(0:Int)≤(j:Int):=by omega
          have HJ:Hid (cF m d (bodiesOf (cl.take a) ++ c.2.take (j+1))=cF m d (bodiesOf (cl.take a) ++ c.2.take j) ++ callsX nmT m d y):=by
            show _=_
            rw [List.take_add_one,hyk]
            simp [cF]
          have HLK:Hid ((cF m d (bodiesOf (cl.take a) ++ c.2.take j)).length+(callsX nmT m d y).length≤1048576):=by
            have h1:=cF_len m d (bodiesOf (cl.take a) ++ c.2.take j)
            have h2:=callsX_len m d y
            have h3:=HSB.out
            have h4:((bodiesOf (cl.take a) ++ c.2.take (j+1)).map fun y=>1+wtEx d y).sum≤((bodiesOf (cl.take a) ++ c.2).map fun y=>1+wtEx d y).sum:=by
              rw [List.map_append,List.map_append,List.sum_append,List.sum_append]
              have:=sum_take_le (fun y=>1+wtEx d y) c.2 (j+1)
              omega
            rw [List.map_append,List.sum_append,sum_take_succ (fun y=>1+wtEx d y) c.2 j y hyk] at h4
            have h5:(cF m d (bodiesOf (cl.take a) ++ c.2.take j)).length≤((bodiesOf (cl.take a) ++ c.2.take j).map fun y=>1+wtEx d y).sum:=h1
            rw [List.map_append,List.sum_append] at h5
            show _≤_
            omega
          have HWY:Hid (wtEx d y≤1048576):=by
            have h3:=HSB.out
            have h4:=sum_take_le (fun y=>1+wtEx d y) c.2 (j+1)
            rw [sum_take_succ (fun y=>1+wtEx d y) c.2 j y hyk] at h4
            rw [List.map_append,List.sum_append] at h3
            show _≤_
            omega
          have CX:Hid (∀ w',Below wr.heap.size wr w'→Calls Tryz.prog 95 #[.agg #[.string sv,.slice pe ne ce,.slice pf nf cf],.agg #[z0,z1,z2,z3,z4,z5]] w' fun e w''=>∃ u,e=.returned u∧OwnS w'' w'.heap.size u (callsX nmT m d y)∧Below w'.heap.size w' w''):=fun w' hw'=>by
            have hb9:Below w.heap.size w w':=HB0.out.trans (hw'.mono HB0.out.size)
            exact l05Calls_all d d w' _ m _ y (HMM.out w' hb9) (HY.out w' hb9) HWY.out HSM.out
          have OY:Hid (∀ c ∈ callsX nmT m d y,okS c):=fun c hc=>okS_small (callsX_small HSM.out d y HWY.out c hc)
          generalize hJ0:cF m d (bodiesOf (cl.take a) ++ c.2.take j)=J at *
          generalize hY0:callsX nmT m d y=Y at *
          clear hcs5 hcsl5 hy hJ0 hY0 hat5
          go_wp2_with fail
          go_region_law
            (first
              | (refine step_append_rows (R:=HStr) (S:=All) (by rfl) _ _ _ (by rfl) (w.heap.size+1+1) 9 i0 (.string ⟨#[]⟩) 1 16 Tryz.underlying24 hi hz0 hz1 hz2 rfl (by decide) u5 J.length (strs J) (by rfl) (owns_next ho2.out.1 K6.out) u6 Y (by rfl) R6.out str_oneCell (by have:=HLK.out;unfold maxLen;omega) (by have:=HLK.out;omega) (Nat.le_trans hsw K6.out.size) ?_;intro v9 w9 news9 hc9 ho9 hg9)
              | (go_simp;go_at_call 95;refine (CX.out _ (by exact (Below.refl _ _).drew)).mono ?_;rintro e w6 ⟨u6,rfl,o6,hb6⟩;have K6:Hid (Below wr.heap.size wr w6):=⟨hb6.os,hb6.tape,hb6.output,hb6.size,hb6.block⟩;have R6:Hid (Rows w6 All 1 HStr u6 Y):=o6.strR OY.out;clear hb6 o6;dsimp only))
          all_goals
            have HO9:Hid (OwnS w9 (w.heap.size+1+1) v9 (cF m d (bodiesOf (cl.take a) ++ c.2.take (j+1)))):=by
              show OwnS _ _ _ _
              rw [HJ.out]
              exact OwnS.of ho9 (by simp) (by rw [cellsR_str hc9]) (Nat.le_trans (Nat.le_trans hsw K6.out.size) hg9.size)
            have HB9:Hid (Below (w.heap.size+1+1) W2 w9):=(hb2.out.trans (K6.out.mono hsw)).trans (owns_below (owns_next ho2.out.1 K6.out) hg9 (Nat.le_trans hsw K6.out.size))
            clear hc9 ho9 hg9
            go_wp2_with fail
            exact ⟨⟨j+1,by omega,by go_num,HO9,HB9⟩,by simp [intOf];omega⟩
        · have HO9:Hid (OwnS wr (w.heap.size+1+1) u5 (cF m d (bodiesOf (cl.take (a+1))))):=by
            have:=ho2.out
            rw [show c.2.take j=c.2 from List.take_of_length_le (by rw [HNB.out];omega),← HBO.out] at this
            exact this
          clear ho2
          go_wp2_with fail
          exact ⟨⟨a+1,by omega,by go_num,HO9,hb2⟩,by simp [intOf];omega⟩
    · have HR:Hid (OwnS wr w.heap.size u5 (cF m d (bodiesOf cl))):=by
        have h1:=ho.out
        rw [List.take_of_length_le (by rw [HNC.out];omega)] at h1
        show OwnS _ _ _ _
        exact h1.base (B':=w.heap.size) (by omega)
      have hsb:((bodiesOf cl).map fun y=>1+wtEx d y).sum≤1048576:=Nat.le_trans (sumB d cl) HWC.out
      have HRR:Hid (StrR wr u5 (cF m d (bodiesOf cl))):=HR.out.strR (fun c hc=>okS_small (cF_small HSM.out (fun y hy=>by have:=mem_wt d hy;omega) c hc))
      have HLE:Hid ((cF m d (bodiesOf cl)).length≤2097152):=by have:=cF_len m d (bodiesOf cl);show _≤_;omega
      clear ho hsb
      go_wp2_with fail
      clear x2
      refine (sorted_any _ _ _ HRR.out HLE.out).mono ?_
      rintro e w9 ⟨u9,rfl,o9,hb9⟩
      have HO9:Hid (OwnS w9 w.heap.size u9 (sortS (cF m d (bodiesOf cl)))):=OwnS.base o9 HB0.out.size
      have HB9:Hid (Below w.heap.size w w9):=HB0.out.trans (hb9.mono HB0.out.size)
      clear o9 hb9
      go_wp2
      go_ret
      exact ⟨_,rfl,HO9.out,HB9.out⟩
def HEd (cs:List Value) (e:Edge):Prop:=cs = [.string e.1,.string e.2]
abbrev OwnE (w:World) (B:Nat) (v:Value) (l:List Edge):Prop:=OwnG 70 2 HEd w B v l
theorem info_ed:(Tryz.prog.info? 70).map (fun i=>(i.zero,i.size,i.bytes))=some (some (.agg #[.string ⟨#[]⟩,.string ⟨#[]⟩]),2,32):=by kernel_rfl
theorem info_ss:(Tryz.prog.info? 24).map (fun i=>(i.zero,i.size,i.bytes))=some (some (.slice none 0 0),1,24):=by kernel_rfl
theorem OwnS.apart {w w':World} {B:Nat} {v:Value} {l:List ByteArray} {e:TypeId} (h:OwnS w B v l) (ha:ApartE e w w') (hs:w.heap.size≤w'.heap.size) (he:9≠e):OwnS w' B v l:=⟨ha.owns h.1 he,Nat.le_trans h.2 hs⟩
theorem OwnE.apart {w w':World} {B:Nat} {v:Value} {l:List Edge} {e:TypeId} (h:OwnE w B v l) (ha:ApartE e w w') (hs:w.heap.size≤w'.heap.size) (he:70≠e):OwnE w' B v l:=by
  obtain ⟨⟨cells,g1,g2⟩,g3⟩:=h
  exact ⟨⟨cells,ha.owns g1 he,g2⟩,Nat.le_trans g3 hs⟩
theorem OwnS.oneC {w:World} {B:Nat} {v:Value} {l:List ByteArray} (h:OwnS w B v l):∀ u ∈ [v],u.oneCell'=true:=by
  intro u hu
  obtain rfl:u=v:=by simpa using hu
  rcases h.1.2 with ⟨rfl,_⟩ | ⟨g,cap,cur,rfl,_⟩ <;> rfl
theorem owns_same {w:World} {B c n:Nat} {e:TypeId} {v:Value} {xs ys:List Value} (h:w.ownsRow B e c v n xs) (k:w.ownsRow B e c v n ys):xs=ys:=by
  obtain ⟨h1,h2⟩:=h
  obtain ⟨k1,k2⟩:=k
  rcases h2 with ⟨rfl,hn⟩ | ⟨g,cap,cur,rfl,_,hg,_,_,_,hx⟩
  · subst hn
    rw [Nat.zero_mul] at h1 k1
    rw [List.length_eq_zero_iff.1 h1,List.length_eq_zero_iff.1 k1]
  · rcases k2 with ⟨hv,_⟩ | ⟨g',cap',cur',hv,_,hg',_,_,_,hx'⟩
    · cases hv
    · cases hv
      rw [hg] at hg'
      cases hg'
      rw [← hx,← hx']
theorem OwnS.at {w:World} {B n q:Nat} {p:Option Addr} {l:List ByteArray} {k:Nat} {s:ByteArray} (h:OwnS w B (.slice p n q) l) (hk:l[k]?=some s):∃ g,p=some ⟨g,0,none⟩∧w.cell? ⟨g,k,none⟩=some (.string s):=by
  have hl:=(List.getElem?_eq_some_iff.1 hk).1
  rcases h.1.2 with ⟨hv,hn⟩ | ⟨g,cap,cur,hv,_⟩
  · omega
  · cases hv
    exact ⟨g,rfl,(h.1.cellAt k (by omega)).trans (by simp [strs,hk])⟩
theorem owns_at {w:World} {B n q:Nat} {e:TypeId} {p:Option Addr} {us:List Value} {k:Nat} {u:Value} (h:w.ownsRow B e 1 (.slice p n q) n us) (hk:us[k]?=some u):∃ g,p=some ⟨g,0,none⟩∧w.cell? ⟨g,k,none⟩=some u:=by
  have hl:=(List.getElem?_eq_some_iff.1 hk).1
  have h1:=h.1
  rcases h.2 with ⟨hv,hn⟩ | ⟨g,cap,cur,hv,_⟩
  · omega
  · cases hv
    exact ⟨g,rfl,(h.cellAt k (by omega)).trans hk⟩
theorem rows_get {α:Type} {w:World} {S:Nat→Prop} {c:Nat} {R:List Value→α→Prop} {v:Value} {xs:List α} (h:Rows w S c R v xs) {x:α} (hx:x ∈ xs):∃ cs,R cs x:=by
  obtain ⟨p,cap,_,_,_,hr⟩:=h
  obtain ⟨i,hi⟩:=List.mem_iff_getElem?.1 hx
  obtain ⟨g,off,_,_,_,hat⟩:=hr (by intro e;rw [e] at hi;simp at hi)
  obtain ⟨cs,_,_,hv⟩:=hat i x hi
  exact ⟨cs,hv⟩
theorem rows_arity {w:World} {d:Nat} {v:Value} {ms:List Md} (h:Rows w All 3 (HMd w All d) v ms) {m:Md} (hm:m ∈ ms) {f:Fn'} (hf:f ∈ m.funs):okI f.arity:=by
  obtain ⟨cs,ev,fv,_,_,_,hr⟩:=rows_get h hm
  obtain ⟨cs2,cv,_,_,ho,_⟩:=rows_get hr hf
  exact ho
theorem step_append_pair {w:World} {B:Nat} {v:Value} {l:List Edge} {ops:Array Oper} {o:Oper} {a:Act} {K:Act→World→Prop} {Q:Exit→Act→World→Prop} {E:Prop} (hgd:o.guard=none) (s x:Operand)
    (ho:o.op=.call { callee:=.builtin .append,args:=#[s,x],argTypes:=#[68,68] })
    (h:OwnE w B v l) (g:Nat) (q:Edge) (hg:w.heap[g]?=some (Obj.cells #[.string q.1,.string q.2] 70 (0,0))) (hs:a.eval s=v) (hx:a.eval x=.slice (some ⟨g,0,none⟩) 1 1) (hl:l.length+1≤2199023255552)
    (k:∀ v' w',OwnE w' B v' (l ++ [q])→Below B w w'→ApartE 70 w w'→K (a.put o.dst v') w') :
    if Region.wanted o (yielded ops a.tmps)=true then Oper.wp Tryz.prog o a w K Q else E:=by
  have hw:Region.wanted o (yielded ops a.tmps)=true:=by simp [Region.wanted,hgd]
  rw [if_pos hw]
  obtain ⟨i,hi',hz0,hz1,hz2⟩:=info_parts info_ed
  obtain ⟨⟨cells,g1,g2⟩,g3⟩:=h
  refine wp_append_own w s x _ ho B 70 i (.agg #[.string ⟨#[]⟩,.string ⟨#[]⟩]) 2 32 Tryz.underlying68 hi' hz0 hz1 hz2 rfl (by decide) v l.length cells hs g1 ⟨g,0,none⟩ 1 1 [.string q.1,.string q.2] hx rfl (World.news_of_block (cs:=#[.string q.1,.string q.2]) (t:=70) (fr:=(0,0)) hg) (by intro u hu;simp at hu;rcases hu with rfl | rfl <;> rfl) (by unfold maxLen;omega) (by omega) g3 ?_
  intro v' w' k1 k2 _
  exact k v' w' ⟨⟨_,by simpa using k1,g2.append (CellsR.one rfl rfl)⟩,Nat.le_trans g3 k2.size⟩ (owns_below g1 k2 g3) (ApartE.of_grown g1 k2)
structure FT (w:World) (B:Nat) (fv:Value) (fs:List ByteArray) (tv:Value) (ts:List (List ByteArray)):Prop where
  fr:OwnS w B fv fs
  to:∃ us,w.ownsRow B 24 1 tv ts.length us∧∀ (k:Nat) (t:List ByteArray),ts[k]?=some t→∃ u,us[k]?=some u∧OwnS w B u t∧∀ g,u.ownBlock=some g→fv.ownBlock≠some g
theorem FT.next {w w':World} {B:Nat} {fv tv:Value} {fs:List ByteArray} {ts:List (List ByteArray)} (h:FT w B fv fs tv ts) (hb:Below w.heap.size w w'):FT w' B fv fs tv ts:=by
  obtain ⟨us,h1,h2⟩:=h.to
  refine ⟨h.fr.next hb,us,owns_next h1 hb,fun k t hk=>?_⟩
  obtain ⟨u,g1,g2,g3⟩:=h2 k t hk
  exact ⟨u,g1,g2.next hb,g3⟩
theorem FT.apart {w w':World} {B:Nat} {fv tv:Value} {fs:List ByteArray} {ts:List (List ByteArray)} {e:TypeId} (h:FT w B fv fs tv ts) (ha:ApartE e w w') (hs:w.heap.size≤w'.heap.size) (he:9≠e) (he2:24≠e):FT w' B fv fs tv ts:=by
  obtain ⟨us,h1,h2⟩:=h.to
  refine ⟨h.fr.apart ha hs he,us,ha.owns h1 he2,fun k t hk=>?_⟩
  obtain ⟨u,g1,g2,g3⟩:=h2 k t hk
  exact ⟨u,g1,g2.apart ha hs he,g3⟩
theorem FT.nil {w:World} {B:Nat} {fv tv:Value} (h:OwnS w B fv []) (k:w.ownsRow B 24 1 tv 0 []):FT w B fv [] tv []:=⟨h,[],k,fun k t hk=>by simp at hk⟩
theorem FT.pushF {w w':World} {B g cap:Nat} {fv tv:Value} {fs:List ByteArray} {ts:List (List ByteArray)} {x:ByteArray} (h:FT w B fv fs tv ts) (ho:OwnS w' B (.slice (some ⟨g,0,none⟩) (fs.length+1) cap) (fs ++ [x]))
    (hg:fv.ownBlock=some g∨w.heap.size≤g) (hk:∀ j,j<w.heap.size→some j≠fv.ownBlock→w'.heap[j]?=w.heap[j]?) (ha:ApartE 9 w w') (hs:w.heap.size≤w'.heap.size):FT w' B (.slice (some ⟨g,0,none⟩) (fs.length+1) cap) (fs ++ [x]) tv ts:=by
  obtain ⟨us,h1,h2⟩:=h.to
  refine ⟨ho,us,ha.owns h1 (by decide),fun k t hk'=>?_⟩
  obtain ⟨u,g1,g2,g3⟩:=h2 k t hk'
  refine ⟨u,g1,?_,fun b hb=>?_⟩
  · refine ⟨⟨g2.1.1,?_⟩,Nat.le_trans g2.2 hs⟩
    rcases g2.1.2 with hn | ⟨b,cp,cur,hv,hB,hh,hr⟩
    · exact .inl hn
    · have hlt:=(Array.getElem?_eq_some_iff.1 hh).1
      exact .inr ⟨b,cp,cur,hv,hB,(hk b hlt (fun e=>g3 b (by rw [hv];rfl) e.symm)).trans hh,hr⟩
  · have hlt:=(g2.off hb).2
    intro e
    have e':g=b:=by simpa [Value.ownBlock] using e
    subst e'
    rcases hg with hg | hg
    · exact g3 _ hb hg
    · omega
theorem FT.pushT {w w':World} {B:Nat} {fv tv tv' u:Value} {fs:List ByteArray} {ts:List (List ByteArray)} {t:List ByteArray} (h:FT w B fv fs tv ts) (hu:OwnS w B u t) (hd:∀ g,u.ownBlock=some g→fv.ownBlock≠some g)
    (ho:∀ us,w.ownsRow B 24 1 tv ts.length us→w'.ownsRow B 24 1 tv' (ts.length+1) (us ++ [u])) (ha:ApartE 24 w w') (hs:w.heap.size≤w'.heap.size):FT w' B fv fs tv' (ts ++ [t]):=by
  obtain ⟨us,h1,h2⟩:=h.to
  refine ⟨h.fr.apart ha hs (by decide),us ++ [u],by simpa using ho us h1,fun k t' hk=>?_⟩
  have hl:us.length=ts.length:=by have:=h1.1;omega
  by_cases hlt:k<ts.length
  · rw [List.getElem?_append_left hlt] at hk
    obtain ⟨u',g1,g2,g3⟩:=h2 k t' hk
    exact ⟨u',by rw [List.getElem?_append_left (by omega)];exact g1,g2.apart ha hs (by decide),g3⟩
  · have hk1:=(List.getElem?_eq_some_iff.1 hk).1
    have hk2:k=ts.length:=by simp at hk1;omega
    subst hk2
    rw [List.getElem?_append_right (Nat.le_refl _),Nat.sub_self] at hk
    obtain rfl:t=t':=by simpa using hk
    exact ⟨u,by rw [List.getElem?_append_right (by omega)];simp [hl],hu.apart ha hs (by decide),hd⟩
end Go.Proofs.YtonpgdfpgpepiaaGreatDoor
