/-
  CheckSpecD
-/
import Derived.Test.YtefpgpbbgclemaaGreatDoorP31
import Derived.Deep.RegionLaw
set_option maxHeartbeats 16000000
set_option linter.unusedVariables false
set_option maxRecDepth 100000
namespace Go.Proofs.YtefpgpbbgclemaaGreatDoor
open Go.ChangeShapes Go.WideShapes Go.ChangeAt Go.RowKit
theorem wtS_within (d:Nat) (x:Ex):((withinX x).map fun y=>1+wtEx d y).sum≤wtEx (d+1) x:=by
  have h2:∀ l:List Ex,(l.map fun y=>1+wtEx d y).sum=wtS (wtEx d) l:=fun l=>by
    unfold wtS
    induction l with
    | nil=>rfl
    | cons y l ih=>simp only [List.map_cons,List.sum_cons,List.length_cons,ih];omega
  have h3:∀ cl:List Cl,wtS (wtEx d) (bodiesOf cl)≤wtS (wtCl (wtEx d)) cl:=fun cl=>by
    induction cl with
    | nil=>simp [bodiesOf,wtS]
    | cons c cl ih =>
      have e:bodiesOf (c :: cl)=c.2 ++ bodiesOf cl:=by simp [bodiesOf]
      rw [e]
      simp only [wtS,List.length_append,List.map_append,List.sum_append,List.length_cons,List.map_cons,List.sum_cons,wtCl] at ih ⊢
      omega
  rw [h2]
  have e:withinX x=x.kids ++ bodiesOf x.clauses:=rfl
  rw [e]
  have h4:=h3 x.clauses
  have h5:wtEx (d+1) x=x.text.size+x.mod.size+wtS (wtEx d) x.kids+wtS (wtCl (wtEx d)) x.clauses:=rfl
  have h6:wtS (wtEx d) (x.kids ++ bodiesOf x.clauses)=wtS (wtEx d) x.kids+wtS (wtEx d) (bodiesOf x.clauses):=by
    unfold wtS;rw [List.length_append,List.map_append,List.sum_append];omega
  omega
theorem callL_len (ms:List Md) (m:Md) (x:Ex):(callL ms m x).length≤1:=by
  unfold callL
  split
  · split <;> simp
  · simp
theorem flat_lenG {α β:Type} (f:α→List β) (g:α→Nat):∀ l:List α,(∀ y ∈ l,(f y).length≤g y)→(l.flatMap f).length≤(l.map g).sum
  | [],_=>by simp
  | y :: l,h=>by
    rw [List.flatMap_cons,List.length_append,List.map_cons,List.sum_cons]
    have h1:=h y (by simp)
    have h2:=flat_lenG f g l (fun z hz=>h z (by simp [hz]))
    omega
theorem codesX_len (ms:List Md) (m:Md):∀ (d:Nat) (x:Ex),(codesX ms m d x).length≤1+wtEx d x
  | 0,_=>by simp [codesX]
  | d+1,x=>by
    have h1:=wtS_within d x
    have h2:=callL_len ms m x
    have h3:=flat_lenG (codesX ms m d) (fun y=>1+wtEx d y) (withinX x) (fun y _=>codesX_len ms m d y)
    simp only [codesX,List.length_append]
    omega
theorem callL_mem (ms:List Md) (m:Md) (x:Ex):∀ c ∈ callL ms m x,c=cCall∨c=cFar:=by
  unfold callL
  intro c hc
  split at hc
  · split at hc
    · simp at hc
    · rename_i h
      simp at hc
      subst hc
      unfold callC at h ⊢
      split
      · split
        · rename_i h1 h2;exact absurd (by simp [h1,h2]) h
        · exact Or.inl rfl
      · split
        · rename_i h1 h2;exact absurd (by simp [h1,h2]) h
        · exact Or.inr rfl
  · simp at hc
theorem codesX_mem (ms:List Md) (m:Md):∀ (d:Nat) (x:Ex),∀ c ∈ codesX ms m d x,c=cCall∨c=cFar
  | 0,_=>fun c hc=>by simp [codesX] at hc
  | d+1,x=>fun c hc=>by
    simp only [codesX,List.mem_append,List.mem_flatMap] at hc
    rcases hc with hc | ⟨y,_,hc⟩
    · exact callL_mem ms m x c hc
    · exact codesX_mem ms m d y c hc
theorem okS_code {c:ByteArray} (h:c=cCall∨c=cFar):okS c:=by
  rcases h with rfl | rfl <;> (unfold okS;decide)
def LxC (dm d:Nat):Prop:=∀ (w:World) (v:Value) (ms:List Md) (mc:List Value) (m:Md) (cs:List Value) (x:Ex),Rows w All 3 (HMd w All dm) v ms→HMd w All dm mc m→HEx w All d cs x→wtEx d x≤1048576 →
    Calls Tryz.prog 82 #[v,.agg mc.toArray,.agg cs.toArray] w fun e w'=>∃ u,e=.returned u∧OwnS w' w.heap.size u (codesX ms m d x)∧Below w.heap.size w w'
theorem l05Exp_of {dm d:Nat} (hE:LxC dm d):LxC dm (d+1):=by
  intro w v ms mc m cs x h hm hx hw
  have HMS:Hid (∀ w',Below w.heap.size w w'→Rows w' All 3 (HMd w' All dm) v ms):=fun w' hw=>h.mono (SameOn.of_below hw) (fun _ h=>h) (fun _ _ _ h=>h.mono (SameOn.of_below hw) (fun _ h=>h))
  have HMM:Hid (∀ w',Below w.heap.size w w'→HMd w' All dm mc m):=fun w' hw=>hm.mono (SameOn.of_below hw) (fun _ h=>h)
  have HXX:Hid (∀ w',Below w.heap.size w w'→HEx w' (fun g=>g<w.heap.size) (d+1) cs x):=fun w' hw=>hx.tight.mono (SameOn.of_below hw) (fun _ h=>h)
  obtain ⟨sv,pe,ne,ce,pf,nf,cf,rfl⟩:=hm.shape
  obtain ⟨kx,nx,tx,mx,ks,cl⟩:=x
  obtain ⟨kv,cv,rfl,-,-,-,-,⟨p1,q1,rfl,-⟩,⟨p2,q2,rfl,-⟩⟩:=hx
  simp only [Ex.kind,Ex.n,Ex.text,Ex.mod,Ex.kids,Ex.clauses] at *
  obtain ⟨p,cap,rfl,-⟩:=h
  generalize ms.length=n at *
  have HWT:Hid (wtEx (d+1) (.mk kx nx tx mx ks cl)≤1048576):=hw
  have HSUM:Hid (((withinX (.mk kx nx tx mx ks cl)).map fun y=>1+wtEx d y).sum≤1048576):=Nat.le_trans (wtS_within d _) hw
  have HCD:Hid (codesX ms m (d+1) (.mk kx nx tx mx ks cl)=callL ms m (.mk kx nx tx mx ks cl) ++ (withinX (.mk kx nx tx mx ks cl)).flatMap (codesX ms m d)):=rfl
  have HCL:Hid (callL ms m (.mk kx nx tx mx ks cl)=if kx=8 then (if (callC ms m (.mk kx nx tx mx ks cl)).toList = [] then [] else [callC ms m (.mk kx nx tx mx ks cl)]) else []):=rfl
  have LCL:=callL_len ms m (.mk kx nx tx mx ks cl)
  have OCL:Hid (∀ c ∈ callL ms m (.mk kx nx tx mx ks cl),c=cCall∨c=cFar):=callL_mem ms m _
  obtain ⟨i0,hi,hz0,hz1,hz2⟩:=info_parts info_str
  generalize hX:Ex.mk kx nx tx mx ks cl=X at *
  generalize ks.length=nk at *
  generalize cl.length=nc at *
  obtain ⟨W2,hW2⟩:∃ W2,W2=(w.alloc (.cells #[.string sv,.slice pe ne ce,.slice pf nf cf] 47)).alloc (.cells #[.int .i64 kx,.int .i64 nx,.string tx,.string mx,.slice p1 nk q1,.slice p2 nc q2] 79):=⟨_,rfl⟩
  have bM:Hid (Blk W2 w.heap.size #[.string sv,.slice pe ne ce,.slice pf nf cf] 47):=by show Blk _ _ _ _;rw [hW2];exact Blk.new.alloc
  have bE:Hid (Blk W2 (w.heap.size+1) #[.int .i64 kx,.int .i64 nx,.string tx,.string mx,.slice p1 nk q1,.slice p2 nc q2] 79):=by
    show Blk _ _ _ _
    rw [hW2]
    have:=Blk.new (w:=w.alloc (.cells #[.string sv,.slice pe ne ce,.slice pf nf cf] 47)) (cs:=#[.int .i64 kx,.int .i64 nx,.string tx,.string mx,.slice p1 nk q1,.slice p2 nc q2]) (t:=79)
    simp only [alloc_hs] at this
    exact this
  have B2:Hid (Below w.heap.size w W2):=by show Below _ _ _;rw [hW2];exact ((Below.refl _ _).alloc (Nat.le_refl _) _).alloc (by simp only [alloc_hs];omega) _
  have S2:Hid (W2.heap.size=w.heap.size+1+1):=by show _=_;rw [hW2];simp only [alloc_hs]
  have HW2:Hid (W2=(w.alloc (.cells #[.string sv,.slice pe ne ce,.slice pf nf cf] 47)).alloc (.cells #[.int .i64 kx,.int .i64 nx,.string tx,.string mx,.slice p1 nk q1,.slice p2 nc q2] 79)):=hW2
  have O3:Hid (OwnS (W2.alloc (.cells #[] 9)) (w.heap.size+1+1) (.slice (some ⟨w.heap.size+1+1,0,none⟩) 0 0) []):=by
    have:=OwnS.fresh (w:=W2)
    rw [S2.out] at this
    exact this
  have B3:Hid (Below (w.heap.size+1+1) W2 (W2.alloc (.cells #[] 9))):=(Below.refl _ _).alloc (by rw [S2.out];exact Nat.le_refl _) _
  have HWI:Hid (∀ w',Below w.heap.size w w'→Calls Tryz.prog 114 #[.agg #[.int .i64 kx,.int .i64 nx,.string tx,.string mx,.slice p1 nk q1,.slice p2 nc q2]] w' fun e w''=>∃ u cells,e=.returned u∧w''.ownsRow (w'.heap.size+1) 79 6 u (withinX X).length cells∧CellsR 6 (HEx w' (fun g=>g<w.heap.size) d) cells (withinX X)∧Below w'.heap.size w' w''):=fun w' hw'=>within_any d w' (fun g=>g<w.heap.size) (fun g hg=>Nat.lt_of_lt_of_le hg hw'.size) _ X (HXX.out w' hw') HWT.out
  have HCA:Hid (∀ w',Below w.heap.size w w'→Calls Tryz.prog 113 #[.slice p n cap,.agg #[.string sv,.slice pe ne ce,.slice pf nf cf],.agg #[.int .i64 kx,.int .i64 nx,.string tx,.string mx,.slice p1 nk q1,.slice p2 nc q2]] w' fun e w''=>e=.returned (.string (callC ms m X))∧Below w'.heap.size w' w''):=fun w' hw'=>l05Call_any dm (d+1) w' _ ms _ m _ X (HMS.out w' hw') (HMM.out w' hw') ((HXX.out w' hw').mono ⟨Nat.le_refl _,fun _ _ _=>rfl⟩ (fun _ _=>trivial))
  clear hm hw hX hW2
  by_cases hk8:kx=8
  · subst hk8
    have hkb:((8:Int) == 8)=true:=by simp
    have HL1:Hid (callL ms m X=if (callC ms m X).toList = [] then [] else [callC ms m X]):=HCL.out.trans (if_pos rfl)
    have HCM:Hid (callC ms m X ∈ callL ms m X∨(callC ms m X).toList = []):=by
      by_cases h:(callC ms m X).toList = []
      · exact Or.inr h
      · left;rw [HL1.out,if_neg h];simp
    generalize callC ms m X=cc at *
    by_cases hcc:cc.toList = []
    · have hcb:(cc.toList == ([]:List UInt8))=true:=by simp [hcc]
      have HL0:Hid (callL ms m X = []):=HL1.out.trans (if_pos hcc)
      go_enter Tryz.func82,Tryz.ntmps82
      go_wp2_with fail
      rw [← HW2.out]
      refine (HCA.out _ (B2.out.trans (B3.out.mono (by omega)))).mono ?_
      rintro e w4 ⟨rfl,hb4⟩
      have HOq:Hid (OwnS w4 (w.heap.size+1+1) (.slice (some ⟨w.heap.size+1+1,0,none⟩) 0 0) (callL ms m X)):=by show OwnS _ _ _ _;rw [HL0.out];exact O3.out.next hb4
      have HBq:Hid (Below (w.heap.size+1+1) W2 w4):=B3.out.trans (hb4.mono (by rw [alloc_hs,S2.out];omega))
      have bE4:=bE.out.below HBq.out (by omega)
      have e0:=bE4.cell 0 _ rfl
      have e1:=bE4.cell 1 _ rfl
      have e2:=bE4.cell 2 _ rfl
      have e3:=bE4.cell 3 _ rfl
      have e4:=bE4.cell 4 _ rfl
      have e5:=bE4.cell 5 _ rfl
      clear hb4 bE4
      go_wp2_with fail
      clear e0 e1 e2 e3 e4 e5
      refine (HWI.out _ (B2.out.trans (HBq.out.mono (by omega)))).mono ?_
      rintro e w5 ⟨u5,cells5,rfl,o5,c5,hb⟩
      have HOr:Hid (OwnS w5 (w.heap.size+1+1) (.slice (some ⟨w.heap.size+1+1,0,none⟩) 0 0) (callL ms m X)):=HOq.out.next hb
      have HBr:Hid (Below (w.heap.size+1+1) W2 w5):=HBq.out.trans (hb.mono (by have:=HBq.out.size;rw [S2.out] at this;exact this))
      have HI5:Hid (w5.ownsRow 0 79 6 u5 (withinX X).length cells5):=owns_base o5
      have HC5:Hid (CellsR 6 (HEx w5 (fun g=>g<w.heap.size) d) cells5 (withinX X)):=c5.mono (fun cs y _ h=>h.mono (SameOn.of_below hb) (fun _ h=>h))
      obtain ⟨p5,q5,rfl,hcm5⟩:=owns_slice o5
      have hn5:(withinX X).length≤9223372036854775807:=by unfold maxLen at hcm5;omega
      generalize hnn:(withinX X).length=nn at *
      have HNN:Hid ((withinX X).length=nn):=hnn
      have s5:w.heap.size+1+1≤w5.heap.size:=by have:=HBr.out.size;rw [S2.out] at this;exact this
      clear hb hnn HOq HBq o5 c5
      go_wp2_with fail
      go_loopw [7,10] (fun ov iv wr=>∃ k:Nat,k≤nn∧iv=.int .i64 k∧Hid (OwnS wr (w.heap.size+1+1) ov (callL ms m X ++ ((withinX X).take k).flatMap (codesX ms m d)))∧Hid (wr.ownsRow 0 79 6 (.slice p5 nn q5) nn cells5)∧Hid (Below (w.heap.size+1+1) w5 wr)) (fun _ iv _=>nn - (intOf iv).toNat)
      case atStart=>exact ⟨0,Nat.zero_le _,rfl,by show OwnS _ _ _ _;simpa using HOr.out,HI5,Below.refl _ _⟩
      case round =>
        obtain ⟨k,hk,rfl,ho,hin,hb⟩:=hrel
        have HB0:Hid (Below w.heap.size w wr):=(B2.out.trans (HBr.out.mono (by omega))).trans (hb.out.mono (by omega))
        have bMr:Hid (Blk wr w.heap.size #[.string sv,.slice pe ne ce,.slice pf nf cf] 47):=(bM.out.below HBr.out (by omega)).below hb.out (by omega)
        by_cases hlt:k<nn
        · obtain ⟨y,hyk⟩:∃ y,(withinX X)[k]?=some y:=⟨(withinX X)[k]'(by rw [HNN.out];exact hlt),List.getElem?_eq_getElem _⟩
          obtain ⟨cs,hcsl,hcs,hy⟩:=HC5.out.2 k y hyk
          have HY:Hid (∀ w',Below wr.heap.size wr w'→HEx w' All d cs y):=fun w' hw=>(hy.mono (SameOn.of_low (hb.out.mono (by omega))) (fun _ h=>h)).mono (SameOn.of_below hw) (fun _ _=>trivial)
          obtain ⟨z0,z1,z2,z3,z4,z5,rfl⟩:=len6 hcsl
          have ad:∃ g5,p5=some ⟨g5,0,none⟩:=owns_some hin.out (by omega)
          obtain ⟨g5,rfl⟩:=ad
          have a0:=(hin.out.cellAt (k * 6+0) (by omega)).trans (hcs 0 (by omega))
          have a1:=(hin.out.cellAt (k * 6+1) (by omega)).trans (hcs 1 (by omega))
          have a2:=(hin.out.cellAt (k * 6+2) (by omega)).trans (hcs 2 (by omega))
          have a3:=(hin.out.cellAt (k * 6+3) (by omega)).trans (hcs 3 (by omega))
          have a4:=(hin.out.cellAt (k * 6+4) (by omega)).trans (hcs 4 (by omega))
          have a5:=(hin.out.cellAt (k * 6+5) (by omega)).trans (hcs 5 (by omega))
          simp at a0 a1 a2 a3 a4 a5
          have m0:=bMr.out.cell 0 _ rfl
          have m1:=bMr.out.cell 1 _ rfl
          have m2:=bMr.out.cell 2 _ rfl
          have hki:(k:Int)<(nn:Int):=by omega
          have hk0:(0:Int)≤(k:Int):=by omega
          have hsw:w.heap.size+1+1≤wr.heap.size:=by have:=hb.out.size;omega
          have HJ:Hid (callL ms m X ++ ((withinX X).take (k+1)).flatMap (codesX ms m d)=(callL ms m X ++ ((withinX X).take k).flatMap (codesX ms m d)) ++ codesX ms m d y):=by
            show _=_
            rw [List.take_add_one,hyk];simp
          have HLK:Hid ((callL ms m X ++ ((withinX X).take k).flatMap (codesX ms m d)).length+(codesX ms m d y).length≤1048577):=by
            have h1:=HSUM.out
            have h2:=sum_take_succ (fun y=>1+wtEx d y) (withinX X) k y hyk
            have h3:=sum_take_le (fun y=>1+wtEx d y) (withinX X) (k+1)
            have h4:=flat_lenG (codesX ms m d) (fun y=>1+wtEx d y) ((withinX X).take k) (fun z _=>codesX_len ms m d z)
            have h5:=codesX_len ms m d y
            show _≤_
            rw [List.length_append]
            omega
          have HWY:Hid (wtEx d y≤1048576):=by
            have h1:=HSUM.out
            have h2:=sum_take_succ (fun y=>1+wtEx d y) (withinX X) k y hyk
            have h3:=sum_take_le (fun y=>1+wtEx d y) (withinX X) (k+1)
            show _≤_
            omega
          have CX:Hid (∀ w',Below wr.heap.size wr w'→Calls Tryz.prog 82 #[.slice p n cap,.agg #[.string sv,.slice pe ne ce,.slice pf nf cf],.agg #[z0,z1,z2,z3,z4,z5]] w' fun e w''=>∃ u,e=.returned u∧OwnS w'' w'.heap.size u (codesX ms m d y)∧Below w'.heap.size w' w''):=fun w' hw'=>by
            have hb9:Below w.heap.size w w':=HB0.out.trans (hw'.mono HB0.out.size)
            exact hE w' _ ms _ m _ y (HMS.out w' hb9) (HMM.out w' hb9) (HY.out w' hw') HWY.out
          generalize hJ0:callL ms m X ++ ((withinX X).take k).flatMap (codesX ms m d)=J at *
          generalize hY0:codesX ms m d y=Y at *
          have OY:Hid (∀ c ∈ Y,okS c):=fun c hc=>okS_code (codesX_mem ms m d y c (by rw [hY0];exact hc))
          clear hcs hcsl hy hJ0 hY0
          go_wp2_with fail
          go_region_law
            (first
              | (refine step_append_rows (R:=HStr) (S:=All) (by rfl) _ _ _ (by rfl) (w.heap.size+1+1) 9 i0 (.string ⟨#[]⟩) 1 16 Tryz.underlying103 hi hz0 hz1 hz2 rfl (by decide) u7 J.length (strs J) (by rfl) (owns_next ho.out.1 K6.out) u6 Y (by rfl) R6.out str_oneCell (by have:=HLK.out;unfold maxLen;omega) (by have:=HLK.out;omega) (Nat.le_trans hsw K6.out.size) ?_;intro v9 w9 news9 hc9 ho9 hg9)
              | (go_simp;go_at_call 82;refine (CX.out _ (by exact (Below.refl _ _).drew)).mono ?_;rintro e w6 ⟨u6,rfl,o6,hb6⟩;have K6:Hid (Below wr.heap.size wr w6):=⟨hb6.os,hb6.tape,hb6.output,hb6.size,hb6.block⟩;have R6:Hid (Rows w6 All 1 HStr u6 Y):=o6.strR OY.out;clear hb6 o6;dsimp only))
          all_goals
            have HO9:Hid (OwnS w9 (w.heap.size+1+1) v9 (callL ms m X ++ ((withinX X).take (k+1)).flatMap (codesX ms m d))):=by
              show OwnS _ _ _ _
              rw [HJ.out]
              exact OwnS.of ho9 (by simp) (by rw [cellsR_str hc9]) (Nat.le_trans (Nat.le_trans hsw K6.out.size) hg9.size)
            have HI9:Hid (w9.ownsRow 0 79 6 (.slice (some ⟨g5,0,none⟩) nn q5) nn cells5):=owns_apart (owns_next ho.out.1 K6.out) (owns_next hin.out K6.out) (by decide) hg9
            have HB9:Hid (Below (w.heap.size+1+1) w5 w9):=(hb.out.trans (K6.out.mono hsw)).trans (owns_below (owns_next ho.out.1 K6.out) hg9 (Nat.le_trans hsw K6.out.size))
            clear hc9 ho9 hg9
            go_wp2_with fail
            exact ⟨⟨k+1,by omega,by go_num,HO9,HI9,HB9⟩,by simp [intOf];omega⟩
        · have HR:Hid (OwnS wr w.heap.size u7 (codesX ms m (d+1) X)):=by
            have h1:=ho.out
            rw [List.take_of_length_le (by rw [HNN.out];omega)] at h1
            show OwnS _ _ _ _
            rw [HCD.out]
            exact h1.base (by omega)
          go_wp2_with fail
          go_ret
          exact ⟨_,rfl,HR.out,HB0.out⟩
    · have hcb:(cc.toList == ([]:List UInt8))=false:=by simp [hcc]
      have HL0:Hid (callL ms m X = [cc]):=HL1.out.trans (if_neg hcc)
      go_enter Tryz.func82,Tryz.ntmps82
      go_wp2_with fail
      rw [← HW2.out]
      refine (HCA.out _ (B2.out.trans (B3.out.mono (by omega)))).mono ?_
      rintro e w4 ⟨rfl,hb4⟩
      have HO4:Hid (OwnS (w4.alloc (.cells #[.string cc] 9)) (w.heap.size+1+1) (.slice (some ⟨w.heap.size+1+1,0,none⟩) 0 0) []):=(O3.out.next hb4).next ((Below.refl _ _).alloc (Nat.le_refl _) _)
      have HB4:Hid (Below (w.heap.size+1+1) W2 w4):=B3.out.trans (hb4.mono (by rw [alloc_hs,S2.out];omega))
      have s4:w.heap.size+1+1≤w4.heap.size:=by have:=HB4.out.size;rw [S2.out] at this;exact this
      have HB4':Hid (Below (w.heap.size+1+1) W2 (w4.alloc (.cells #[.string cc] 9))):=HB4.out.alloc s4 _
      have F7:Hid (∀ w7,(w4.alloc (.cells #[.string cc] 9)).grownBy w7 (Value.ownBlock (.slice (some ⟨w.heap.size+1+1,0,none⟩) 0 0))→w7.cell? ⟨w.heap.size+1,0,none⟩=some (.int .i64 8)∧w7.cell? ⟨w.heap.size+1,1,none⟩=some (.int .i64 nx)∧w7.cell? ⟨w.heap.size+1,2,none⟩=some (.string tx)∧w7.cell? ⟨w.heap.size+1,3,none⟩=some (.string mx)∧w7.cell? ⟨w.heap.size+1,4,none⟩=some (.slice p1 nk q1)∧w7.cell? ⟨w.heap.size+1,5,none⟩=some (.slice p2 nc q2)):=fun w7 hg7=>by
        have bE4:=bE.out.below (HB4'.out.trans (owns_below HO4.out.1 hg7 (by rw [alloc_hs];omega))) (by omega)
        exact ⟨bE4.cell 0 _ rfl,bE4.cell 1 _ rfl,bE4.cell 2 _ rfl,bE4.cell 3 _ rfl,bE4.cell 4 _ rfl,bE4.cell 5 _ rfl⟩
      clear hb4
      go_wp2_with (at_builtin;refine wpList_append_own _ rfl _ _ 103 rfl (w.heap.size+1+1) 9 i0 (.string ⟨#[]⟩) 1 16 Tryz.underlying103 hi hz0 hz1 hz2 rfl (by decide) (.slice (some ⟨w.heap.size+1+1,0,none⟩) 0 0) 0 [] rfl HO4.out.1 ⟨w4.heap.size,0,none⟩ 1 1 (strs [cc]) rfl (by simp [strs]) (one_str w4 cc _ rfl) (strs_oneCell _) (by unfold maxLen;omega) (by omega) (by rw [alloc_hs];omega) ?_;intro v7 w7 ho7 hg7 _;obtain ⟨e0,e1,e2,e3,e4,e5⟩:=F7.out w7 hg7)
      have HOq:Hid (OwnS w7 (w.heap.size+1+1) v7 (callL ms m X)):=by
        show OwnS _ _ _ _
        rw [HL0.out]
        exact OwnS.of (l:=[]) (m:=[cc]) ho7 (by simp) (by simp [strs]) (Nat.le_trans (by rw [alloc_hs];omega) hg7.size)
      have HBq:Hid (Below (w.heap.size+1+1) W2 w7):=HB4'.out.trans (owns_below HO4.out.1 hg7 (by rw [alloc_hs];omega))
      clear ho7 hg7 e0 e1 e2 e3 e4 e5
      refine (HWI.out _ (B2.out.trans (HBq.out.mono (by omega)))).mono ?_
      rintro e w5 ⟨u5,cells5,rfl,o5,c5,hb⟩
      have HOr:Hid (OwnS w5 (w.heap.size+1+1) v7 (callL ms m X)):=HOq.out.next hb
      have HBr:Hid (Below (w.heap.size+1+1) W2 w5):=HBq.out.trans (hb.mono (by have:=HBq.out.size;rw [S2.out] at this;exact this))
      have HI5:Hid (w5.ownsRow 0 79 6 u5 (withinX X).length cells5):=owns_base o5
      have HC5:Hid (CellsR 6 (HEx w5 (fun g=>g<w.heap.size) d) cells5 (withinX X)):=c5.mono (fun cs y _ h=>h.mono (SameOn.of_below hb) (fun _ h=>h))
      obtain ⟨p5,q5,rfl,hcm5⟩:=owns_slice o5
      have hn5:(withinX X).length≤9223372036854775807:=by unfold maxLen at hcm5;omega
      generalize hnn:(withinX X).length=nn at *
      have HNN:Hid ((withinX X).length=nn):=hnn
      have s5:w.heap.size+1+1≤w5.heap.size:=by have:=HBr.out.size;rw [S2.out] at this;exact this
      clear hb hnn HOq HBq o5 c5
      go_wp2_with fail
      go_loopw [7,10] (fun ov iv wr=>∃ k:Nat,k≤nn∧iv=.int .i64 k∧Hid (OwnS wr (w.heap.size+1+1) ov (callL ms m X ++ ((withinX X).take k).flatMap (codesX ms m d)))∧Hid (wr.ownsRow 0 79 6 (.slice p5 nn q5) nn cells5)∧Hid (Below (w.heap.size+1+1) w5 wr)) (fun _ iv _=>nn - (intOf iv).toNat)
      case atStart=>exact ⟨0,Nat.zero_le _,rfl,by show OwnS _ _ _ _;simpa using HOr.out,HI5,Below.refl _ _⟩
      case round =>
        obtain ⟨k,hk,rfl,ho,hin,hb⟩:=hrel
        have HB0:Hid (Below w.heap.size w wr):=(B2.out.trans (HBr.out.mono (by omega))).trans (hb.out.mono (by omega))
        have bMr:Hid (Blk wr w.heap.size #[.string sv,.slice pe ne ce,.slice pf nf cf] 47):=(bM.out.below HBr.out (by omega)).below hb.out (by omega)
        by_cases hlt:k<nn
        · obtain ⟨y,hyk⟩:∃ y,(withinX X)[k]?=some y:=⟨(withinX X)[k]'(by rw [HNN.out];exact hlt),List.getElem?_eq_getElem _⟩
          obtain ⟨cs,hcsl,hcs,hy⟩:=HC5.out.2 k y hyk
          have HY:Hid (∀ w',Below wr.heap.size wr w'→HEx w' All d cs y):=fun w' hw=>(hy.mono (SameOn.of_low (hb.out.mono (by omega))) (fun _ h=>h)).mono (SameOn.of_below hw) (fun _ _=>trivial)
          obtain ⟨z0,z1,z2,z3,z4,z5,rfl⟩:=len6 hcsl
          have ad:∃ g5,p5=some ⟨g5,0,none⟩:=owns_some hin.out (by omega)
          obtain ⟨g5,rfl⟩:=ad
          have a0:=(hin.out.cellAt (k * 6+0) (by omega)).trans (hcs 0 (by omega))
          have a1:=(hin.out.cellAt (k * 6+1) (by omega)).trans (hcs 1 (by omega))
          have a2:=(hin.out.cellAt (k * 6+2) (by omega)).trans (hcs 2 (by omega))
          have a3:=(hin.out.cellAt (k * 6+3) (by omega)).trans (hcs 3 (by omega))
          have a4:=(hin.out.cellAt (k * 6+4) (by omega)).trans (hcs 4 (by omega))
          have a5:=(hin.out.cellAt (k * 6+5) (by omega)).trans (hcs 5 (by omega))
          simp at a0 a1 a2 a3 a4 a5
          have m0:=bMr.out.cell 0 _ rfl
          have m1:=bMr.out.cell 1 _ rfl
          have m2:=bMr.out.cell 2 _ rfl
          have hki:(k:Int)<(nn:Int):=by omega
          have hk0:(0:Int)≤(k:Int):=by omega
          have hsw:w.heap.size+1+1≤wr.heap.size:=by have:=hb.out.size;omega
          have HJ:Hid (callL ms m X ++ ((withinX X).take (k+1)).flatMap (codesX ms m d)=(callL ms m X ++ ((withinX X).take k).flatMap (codesX ms m d)) ++ codesX ms m d y):=by
            show _=_
            rw [List.take_add_one,hyk];simp
          have HLK:Hid ((callL ms m X ++ ((withinX X).take k).flatMap (codesX ms m d)).length+(codesX ms m d y).length≤1048577):=by
            have h1:=HSUM.out
            have h2:=sum_take_succ (fun y=>1+wtEx d y) (withinX X) k y hyk
            have h3:=sum_take_le (fun y=>1+wtEx d y) (withinX X) (k+1)
            have h4:=flat_lenG (codesX ms m d) (fun y=>1+wtEx d y) ((withinX X).take k) (fun z _=>codesX_len ms m d z)
            have h5:=codesX_len ms m d y
            show _≤_
            rw [List.length_append]
            omega
          have HWY:Hid (wtEx d y≤1048576):=by
            have h1:=HSUM.out
            have h2:=sum_take_succ (fun y=>1+wtEx d y) (withinX X) k y hyk
            have h3:=sum_take_le (fun y=>1+wtEx d y) (withinX X) (k+1)
            show _≤_
            omega
          have CX:Hid (∀ w',Below wr.heap.size wr w'→Calls Tryz.prog 82 #[.slice p n cap,.agg #[.string sv,.slice pe ne ce,.slice pf nf cf],.agg #[z0,z1,z2,z3,z4,z5]] w' fun e w''=>∃ u,e=.returned u∧OwnS w'' w'.heap.size u (codesX ms m d y)∧Below w'.heap.size w' w''):=fun w' hw'=>by
            have hb9:Below w.heap.size w w':=HB0.out.trans (hw'.mono HB0.out.size)
            exact hE w' _ ms _ m _ y (HMS.out w' hb9) (HMM.out w' hb9) (HY.out w' hw') HWY.out
          generalize hJ0:callL ms m X ++ ((withinX X).take k).flatMap (codesX ms m d)=J at *
          generalize hY0:codesX ms m d y=Y at *
          have OY:Hid (∀ c ∈ Y,okS c):=fun c hc=>okS_code (codesX_mem ms m d y c (by rw [hY0];exact hc))
          clear hcs hcsl hy hJ0 hY0
          go_wp2_with fail
          go_region_law
            (first
              | (refine step_append_rows (R:=HStr) (S:=All) (by rfl) _ _ _ (by rfl) (w.heap.size+1+1) 9 i0 (.string ⟨#[]⟩) 1 16 Tryz.underlying103 hi hz0 hz1 hz2 rfl (by decide) u7 J.length (strs J) (by rfl) (owns_next ho.out.1 K6.out) u6 Y (by rfl) R6.out str_oneCell (by have:=HLK.out;unfold maxLen;omega) (by have:=HLK.out;omega) (Nat.le_trans hsw K6.out.size) ?_;intro v9 w9 news9 hc9 ho9 hg9)
              | (go_simp;go_at_call 82;refine (CX.out _ (by exact (Below.refl _ _).drew)).mono ?_;rintro e w6 ⟨u6,rfl,o6,hb6⟩;have K6:Hid (Below wr.heap.size wr w6):=⟨hb6.os,hb6.tape,hb6.output,hb6.size,hb6.block⟩;have R6:Hid (Rows w6 All 1 HStr u6 Y):=o6.strR OY.out;clear hb6 o6;dsimp only))
          all_goals
            have HO9:Hid (OwnS w9 (w.heap.size+1+1) v9 (callL ms m X ++ ((withinX X).take (k+1)).flatMap (codesX ms m d))):=by
              show OwnS _ _ _ _
              rw [HJ.out]
              exact OwnS.of ho9 (by simp) (by rw [cellsR_str hc9]) (Nat.le_trans (Nat.le_trans hsw K6.out.size) hg9.size)
            have HI9:Hid (w9.ownsRow 0 79 6 (.slice (some ⟨g5,0,none⟩) nn q5) nn cells5):=owns_apart (owns_next ho.out.1 K6.out) (owns_next hin.out K6.out) (by decide) hg9
            have HB9:Hid (Below (w.heap.size+1+1) w5 w9):=(hb.out.trans (K6.out.mono hsw)).trans (owns_below (owns_next ho.out.1 K6.out) hg9 (Nat.le_trans hsw K6.out.size))
            clear hc9 ho9 hg9
            go_wp2_with fail
            exact ⟨⟨k+1,by omega,by go_num,HO9,HI9,HB9⟩,by simp [intOf];omega⟩
        · have HR:Hid (OwnS wr w.heap.size u7 (codesX ms m (d+1) X)):=by
            have h1:=ho.out
            rw [List.take_of_length_le (by rw [HNN.out];omega)] at h1
            show OwnS _ _ _ _
            rw [HCD.out]
            exact h1.base (by omega)
          go_wp2_with fail
          go_ret
          exact ⟨_,rfl,HR.out,HB0.out⟩
  · have hkb:(kx == 8)=false:=by simpa using hk8
    have HL0:Hid (callL ms m X = []):=HCL.out.trans (if_neg hk8)
    have HOq:Hid (OwnS (W2.alloc (.cells #[] 9)) (w.heap.size+1+1) (.slice (some ⟨w.heap.size+1+1,0,none⟩) 0 0) (callL ms m X)):=by show OwnS _ _ _ _;rw [HL0.out];exact O3.out
    have HBq:=B3
    go_enter Tryz.func82,Tryz.ntmps82
    go_wp2_with fail
    rw [← HW2.out]
    refine (HWI.out _ (B2.out.trans (HBq.out.mono (by omega)))).mono ?_
    rintro e w5 ⟨u5,cells5,rfl,o5,c5,hb⟩
    have HOr:Hid (OwnS w5 (w.heap.size+1+1) (.slice (some ⟨w.heap.size+1+1,0,none⟩) 0 0) (callL ms m X)):=HOq.out.next hb
    have HBr:Hid (Below (w.heap.size+1+1) W2 w5):=HBq.out.trans (hb.mono (by have:=HBq.out.size;rw [S2.out] at this;exact this))
    have HI5:Hid (w5.ownsRow 0 79 6 u5 (withinX X).length cells5):=owns_base o5
    have HC5:Hid (CellsR 6 (HEx w5 (fun g=>g<w.heap.size) d) cells5 (withinX X)):=c5.mono (fun cs y _ h=>h.mono (SameOn.of_below hb) (fun _ h=>h))
    obtain ⟨p5,q5,rfl,hcm5⟩:=owns_slice o5
    have hn5:(withinX X).length≤9223372036854775807:=by unfold maxLen at hcm5;omega
    generalize hnn:(withinX X).length=nn at *
    have HNN:Hid ((withinX X).length=nn):=hnn
    have s5:w.heap.size+1+1≤w5.heap.size:=by have:=HBr.out.size;rw [S2.out] at this;exact this
    clear hb hnn HOq HBq o5 c5
    go_wp2_with fail
    go_loopw [7,10] (fun ov iv wr=>∃ k:Nat,k≤nn∧iv=.int .i64 k∧Hid (OwnS wr (w.heap.size+1+1) ov (callL ms m X ++ ((withinX X).take k).flatMap (codesX ms m d)))∧Hid (wr.ownsRow 0 79 6 (.slice p5 nn q5) nn cells5)∧Hid (Below (w.heap.size+1+1) w5 wr)) (fun _ iv _=>nn - (intOf iv).toNat)
    case atStart=>exact ⟨0,Nat.zero_le _,rfl,by show OwnS _ _ _ _;simpa using HOr.out,HI5,Below.refl _ _⟩
    case round =>
      obtain ⟨k,hk,rfl,ho,hin,hb⟩:=hrel
      have HB0:Hid (Below w.heap.size w wr):=(B2.out.trans (HBr.out.mono (by omega))).trans (hb.out.mono (by omega))
      have bMr:Hid (Blk wr w.heap.size #[.string sv,.slice pe ne ce,.slice pf nf cf] 47):=(bM.out.below HBr.out (by omega)).below hb.out (by omega)
      by_cases hlt:k<nn
      · obtain ⟨y,hyk⟩:∃ y,(withinX X)[k]?=some y:=⟨(withinX X)[k]'(by rw [HNN.out];exact hlt),List.getElem?_eq_getElem _⟩
        obtain ⟨cs,hcsl,hcs,hy⟩:=HC5.out.2 k y hyk
        have HY:Hid (∀ w',Below wr.heap.size wr w'→HEx w' All d cs y):=fun w' hw=>(hy.mono (SameOn.of_low (hb.out.mono (by omega))) (fun _ h=>h)).mono (SameOn.of_below hw) (fun _ _=>trivial)
        obtain ⟨z0,z1,z2,z3,z4,z5,rfl⟩:=len6 hcsl
        have ad:∃ g5,p5=some ⟨g5,0,none⟩:=owns_some hin.out (by omega)
        obtain ⟨g5,rfl⟩:=ad
        have a0:=(hin.out.cellAt (k * 6+0) (by omega)).trans (hcs 0 (by omega))
        have a1:=(hin.out.cellAt (k * 6+1) (by omega)).trans (hcs 1 (by omega))
        have a2:=(hin.out.cellAt (k * 6+2) (by omega)).trans (hcs 2 (by omega))
        have a3:=(hin.out.cellAt (k * 6+3) (by omega)).trans (hcs 3 (by omega))
        have a4:=(hin.out.cellAt (k * 6+4) (by omega)).trans (hcs 4 (by omega))
        have a5:=(hin.out.cellAt (k * 6+5) (by omega)).trans (hcs 5 (by omega))
        simp at a0 a1 a2 a3 a4 a5
        have m0:=bMr.out.cell 0 _ rfl
        have m1:=bMr.out.cell 1 _ rfl
        have m2:=bMr.out.cell 2 _ rfl
        have hki:(k:Int)<(nn:Int):=by omega
        have hk0:(0:Int)≤(k:Int):=by omega
        have hsw:w.heap.size+1+1≤wr.heap.size:=by have:=hb.out.size;omega
        have HJ:Hid (callL ms m X ++ ((withinX X).take (k+1)).flatMap (codesX ms m d)=(callL ms m X ++ ((withinX X).take k).flatMap (codesX ms m d)) ++ codesX ms m d y):=by
          show _=_
          rw [List.take_add_one,hyk];simp
        have HLK:Hid ((callL ms m X ++ ((withinX X).take k).flatMap (codesX ms m d)).length+(codesX ms m d y).length≤1048577):=by
          have h1:=HSUM.out
          have h2:=sum_take_succ (fun y=>1+wtEx d y) (withinX X) k y hyk
          have h3:=sum_take_le (fun y=>1+wtEx d y) (withinX X) (k+1)
          have h4:=flat_lenG (codesX ms m d) (fun y=>1+wtEx d y) ((withinX X).take k) (fun z _=>codesX_len ms m d z)
          have h5:=codesX_len ms m d y
          show _≤_
          rw [List.length_append]
          omega
        have HWY:Hid (wtEx d y≤1048576):=by
          have h1:=HSUM.out
          have h2:=sum_take_succ (fun y=>1+wtEx d y) (withinX X) k y hyk
          have h3:=sum_take_le (fun y=>1+wtEx d y) (withinX X) (k+1)
          show _≤_
          omega
        have CX:Hid (∀ w',Below wr.heap.size wr w'→Calls Tryz.prog 82 #[.slice p n cap,.agg #[.string sv,.slice pe ne ce,.slice pf nf cf],.agg #[z0,z1,z2,z3,z4,z5]] w' fun e w''=>∃ u,e=.returned u∧OwnS w'' w'.heap.size u (codesX ms m d y)∧Below w'.heap.size w' w''):=fun w' hw'=>by
          have hb9:Below w.heap.size w w':=HB0.out.trans (hw'.mono HB0.out.size)
          exact hE w' _ ms _ m _ y (HMS.out w' hb9) (HMM.out w' hb9) (HY.out w' hw') HWY.out
        generalize hJ0:callL ms m X ++ ((withinX X).take k).flatMap (codesX ms m d)=J at *
        generalize hY0:codesX ms m d y=Y at *
        have OY:Hid (∀ c ∈ Y,okS c):=fun c hc=>okS_code (codesX_mem ms m d y c (by rw [hY0];exact hc))
        clear hcs hcsl hy hJ0 hY0
        go_wp2_with fail
        go_region_law
          (first
            | (refine step_append_rows (R:=HStr) (S:=All) (by rfl) _ _ _ (by rfl) (w.heap.size+1+1) 9 i0 (.string ⟨#[]⟩) 1 16 Tryz.underlying103 hi hz0 hz1 hz2 rfl (by decide) u7 J.length (strs J) (by rfl) (owns_next ho.out.1 K6.out) u6 Y (by rfl) R6.out str_oneCell (by have:=HLK.out;unfold maxLen;omega) (by have:=HLK.out;omega) (Nat.le_trans hsw K6.out.size) ?_;intro v9 w9 news9 hc9 ho9 hg9)
            | (go_simp;go_at_call 82;refine (CX.out _ (by exact (Below.refl _ _).drew)).mono ?_;rintro e w6 ⟨u6,rfl,o6,hb6⟩;have K6:Hid (Below wr.heap.size wr w6):=⟨hb6.os,hb6.tape,hb6.output,hb6.size,hb6.block⟩;have R6:Hid (Rows w6 All 1 HStr u6 Y):=o6.strR OY.out;clear hb6 o6;dsimp only))
        all_goals
          have HO9:Hid (OwnS w9 (w.heap.size+1+1) v9 (callL ms m X ++ ((withinX X).take (k+1)).flatMap (codesX ms m d))):=by
            show OwnS _ _ _ _
            rw [HJ.out]
            exact OwnS.of ho9 (by simp) (by rw [cellsR_str hc9]) (Nat.le_trans (Nat.le_trans hsw K6.out.size) hg9.size)
          have HI9:Hid (w9.ownsRow 0 79 6 (.slice (some ⟨g5,0,none⟩) nn q5) nn cells5):=owns_apart (owns_next ho.out.1 K6.out) (owns_next hin.out K6.out) (by decide) hg9
          have HB9:Hid (Below (w.heap.size+1+1) w5 w9):=(hb.out.trans (K6.out.mono hsw)).trans (owns_below (owns_next ho.out.1 K6.out) hg9 (Nat.le_trans hsw K6.out.size))
          clear hc9 ho9 hg9
          go_wp2_with fail
          exact ⟨⟨k+1,by omega,by go_num,HO9,HI9,HB9⟩,by simp [intOf];omega⟩
      · have HR:Hid (OwnS wr w.heap.size u7 (codesX ms m (d+1) X)):=by
          have h1:=ho.out
          rw [List.take_of_length_le (by rw [HNN.out];omega)] at h1
          show OwnS _ _ _ _
          rw [HCD.out]
          exact h1.base (by omega)
        go_wp2_with fail
        go_ret
        exact ⟨_,rfl,HR.out,HB0.out⟩
theorem l05Exp_all (dm:Nat):∀ d,LxC dm d
  | 0=>fun w v ms mc m cs x _ _ h _=>h.elim
  | d+1=>l05Exp_of (l05Exp_all dm d)
end Go.Proofs.YtefpgpbbgclemaaGreatDoor
