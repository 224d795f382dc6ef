/-
  CheckSpecD
-/
import Derived.Test.YtbdhpganbbandaaGreatDoorP34
import Derived.Deep.RegionLaw
set_option maxHeartbeats 16000000
set_option linter.unusedVariables false
set_option maxRecDepth 100000
namespace Go.Proofs.YtbdhpganbbandaaGreatDoor
open Go.ChangeShapes Go.WideShapes Go.ChangeAt Go.RowKit
section
open Go.Proofs.Tryz
theorem wtS_within (d:Nat) (x:Ex):((withinX x).map λy=>1+wtEx d y).sum<=wtEx (d+1) x:=by
 have h2:∀ l:List Ex,(l.map λy=>1+wtEx d y).sum=wtS (wtEx d) l:=λl=>by
  unfold wtS
  induction l with
  | nil=>rfl
  | cons y l ih=>simp only [List.map_cons,List.sum_cons,List.length_cons,ih];omega
 have h3:∀ cl:List Cl,wtS (wtEx d) (bodiesOf cl)<=wtS (wtCl (wtEx d)) cl:=λcl=>by
  induction cl with
  | nil=>simp [bodiesOf,wtS]
  | cons c cl ih =>
   have e:bodiesOf (c :: cl)=c.2 ++ bodiesOf cl:=(by simp [bodiesOf]);rw [e];simp only [wtS,List.length_append,List.map_append,List.sum_append,List.length_cons,List.map_cons,List.sum_cons,wtCl] at ih ⊢;omega
 rw [h2];have e:withinX x=x.kids ++ bodiesOf x.clauses:=rfl;rw [e];have h4:=h3 x.clauses;have h5:wtEx (d+1) x=x.text.size+x.mod.size+wtS (wtEx d) x.kids+wtS (wtCl (wtEx d)) x.clauses:=rfl
 have h6:wtS (wtEx d) (x.kids ++ bodiesOf x.clauses)=wtS (wtEx d) x.kids+wtS (wtEx d) (bodiesOf x.clauses):=by
  unfold wtS;rw [List.length_append,List.map_append,List.sum_append];omega
 omega
theorem callL_len (ms:List Md) (m:Md) (x:Ex):(callL ms m x).length<=1:=by
 unfold callL
 split
 . split <;> simp
 . simp
theorem flat_lenG {α β:Type} (f:α->List β) (g:α->Nat):∀ l:List α,(∀ y ∈ l,(f y).length<=g y)->(l.flatMap f).length<=(l.map g).sum
 | [],_=>by simp
 | y :: l,h=>by
  rw [List.flatMap_cons,List.length_append,List.map_cons,List.sum_cons];have h1:=h y (by simp);have h2:=flat_lenG f g l (λz hz=>h z (by simp [hz]));omega
theorem codesX_len (ms:List Md) (m:Md):∀ (d:Nat) (x:Ex),(codesX ms m d x).length<=1+wtEx d x
 | 0,_=>by simp [codesX]
 | d+1,x=>by
  have h1:=wtS_within d x;have h2:=callL_len ms m x;have h3:=flat_lenG (codesX ms m d) (λy=>1+wtEx d y) (withinX x) (λy _=>codesX_len ms m d y);simp only [codesX,List.length_append];omega
theorem callL_mem (ms:List Md) (m:Md) (x:Ex):∀ c ∈ callL ms m x,c=cCall\/c=cFar:=by
 unfold callL;intro c hc
 split at hc
 . split at hc
   . simp at hc
   . rename_i h
     simp at hc;subst hc;unfold callC at h ⊢
     split
     . split
       . rename_i h1 h2;exact absurd (by simp [h1,h2]) h
       . exact Or.inl rfl
     . split
       . rename_i h1 h2;exact absurd (by simp [h1,h2]) h
       . exact Or.inr rfl
 . simp at hc
theorem codesX_mem (ms:List Md) (m:Md):∀ (d:Nat) (x:Ex),∀ c ∈ codesX ms m d x,c=cCall\/c=cFar
 | 0,_=>λc hc=>by simp [codesX] at hc
 | d+1,x=>λc hc=>by
  simp only [codesX,List.mem_append,List.mem_flatMap] at hc
  rcases hc with hc | ⟨y,_,hc⟩
  . exact callL_mem ms m x c hc
  . exact codesX_mem ms m d y c hc
theorem okS_code {c:ByteArray} (h:c=cCall\/c=cFar):okS c:=by
 rcases h with rfl | rfl <;> (unfold okS;decide)
def LxC (dm d:Nat):Prop:=∀ (w:World) (v:Value) (ms:List Md) (mc:List Value) (m:Md) (cs:List Value) (x:Ex),Rows w All 3 (HMd w All dm) v ms->HMd w All dm mc m->HEx w All d cs x->wtEx d x<=16777216 ->
 Calls prog 107 #[v,.agg mc.toArray,.agg cs.toArray] w λe w'=>∃ u,e=.returned u/\OwnS w' w.heap.size u (codesX ms m d x)/\Bz w w'
theorem l05Exp_of {dm d:Nat} (hE:LxC dm d):LxC dm (d+1):=by
 intro w v ms mc m cs x h hm hx hw;have HMS:Hid (∀ w',Bz w w'->Rows w' All 3 (HMd w' All dm) v ms):=λw' hw=>h.mono (sqO hw) sqj (λ_ _ _ h=>h.mono (sqO hw) sqj);have HMM:Hid (∀ w',Bz w w'->HMd w' All dm mc m):=λw' hw=>hm.mono (sqO hw) sqj;have HXX:Hid (∀ w',Bz w w'->HEx w' (λg=>g<w.heap.size) (d+1) cs x):=λw' hw=>hx.tight.mono (sqO hw) sqj;obtain ⟨sv,pe,ne,ce,pf,nf,cf,rfl⟩:=hm.shape;obtain ⟨kx,nx,tx,mx,ks,cl⟩:=x;obtain ⟨kv,cv,rfl,-,-,-,-,⟨p1,q1,rfl,-⟩,⟨p2,q2,rfl,-⟩⟩:=hx;simp only [Ex.kind,Ex.n,Ex.text,Ex.mod,Ex.kids,Ex.clauses] at *;obtain ⟨p,cap,rfl,-⟩:=h;generalize ms.length=n at *;have HWT:=hid hw;have HSUM:=hid (Nat.le_trans (wtS_within d _) hw);have HCD:Hid (codesX ms m (d+1) (.mk kx nx tx mx ks cl)=callL ms m (.mk kx nx tx mx ks cl) ++ (withinX (.mk kx nx tx mx ks cl)).flatMap (codesX ms m d)):=rfl;have HCL:Hid (callL ms m (.mk kx nx tx mx ks cl)=if kx=8 then (if (callC ms m (.mk kx nx tx mx ks cl)).toList = [] then [] else [callC ms m (.mk kx nx tx mx ks cl)]) else []):=rfl;have LCL:=callL_len ms m (.mk kx nx tx mx ks cl);have OCL:Hid (∀ c ∈ callL ms m (.mk kx nx tx mx ks cl),c=cCall\/c=cFar):=callL_mem ms m _;obtain ⟨i0,hi,hz0,hz1,hz2⟩:=info_parts info_str;generalize hX:Ex.mk kx nx tx mx ks cl=X at *;generalize ks.length=nk at *;generalize cl.length=nc at *;obtain ⟨W2,hW2⟩:∃ W2,W2=(w.alloc (.cells #[.string sv,.slice pe ne ce,.slice pf nf cf] 61)).alloc (.cells #[.int .i64 kx,.int .i64 nx,.string tx,.string mx,.slice p1 nk q1,.slice p2 nc q2] 74):=⟨_,rfl⟩;have bM:Hid (Blk W2 w.heap.size #[.string sv,.slice pe ne ce,.slice pf nf cf] 61):=(by show Blk _ _ _ _;rw [hW2];exact Blk.new.alloc)
 have bE:Hid (Blk W2 (w.heap.size+1) #[.int .i64 kx,.int .i64 nx,.string tx,.string mx,.slice p1 nk q1,.slice p2 nc q2] 74):=by
  show Blk _ _ _ _;rw [hW2];have:=Blk.new (w:=w.alloc (.cells #[.string sv,.slice pe ne ce,.slice pf nf cf] 61)) (cs:=#[.int .i64 kx,.int .i64 nx,.string tx,.string mx,.slice p1 nk q1,.slice p2 nc q2]) (t:=74);simp only [alloc_hs] at this;exact this
 have B2:Hid (Bz w W2):=(by show Below _ _ _;rw [hW2];exact ((sqN _ _)).alloc (by simp only [alloc_hs];omega) _);have S2:Hid (W2.heap.size=w.heap.size+1+1):=(by show _=_;rw [hW2];simp only [alloc_hs]);have HW2:=hid hW2
 have O3:Hid (OwnS (W2.alloc (.cells #[] 9)) (w.heap.size+1+1) (.slice (some ⟨w.heap.size+1+1,0,none⟩) 0 0) []):=by
  have:=OwnS.fresh (w:=W2);rw [S2.out] at this;exact this
 have B3:Hid (Below (w.heap.size+1+1) W2 (W2.alloc (.cells #[] 9))):=(Below.refl _ _).alloc (by rw [S2.out];exact Nat.le_refl _) _;have HWI:Hid (∀ w',Bz w w'->Calls prog 135 #[.agg #[.int .i64 kx,.int .i64 nx,.string tx,.string mx,.slice p1 nk q1,.slice p2 nc q2]] w' λe w''=>∃ u cells,e=.returned u/\w''.ownsRow (w'.heap.size+1) 74 6 u (withinX X).length cells/\CellsR 6 (HEx w' (λg=>g<w.heap.size) d) cells (withinX X)/\Below w'.heap.size w' w''):=λw' hw'=>within_any d w' (λg=>g<w.heap.size) (λg hg=>Nat.lt_of_lt_of_le hg hw'.size) _ X (HXX.out w' hw') HWT.out;have HCA:Hid (∀ w',Bz w w'->Calls prog 134 #[.slice p n cap,.agg #[.string sv,.slice pe ne ce,.slice pf nf cf],.agg #[.int .i64 kx,.int .i64 nx,.string tx,.string mx,.slice p1 nk q1,.slice p2 nc q2]] w' λe w''=>e=.returned (.string (callC ms m X))/\Below w'.heap.size w' w''):=λw' hw'=>l05Call_any dm (d+1) w' _ ms _ m _ X (HMS.out w' hw') (HMM.out w' hw') ((HXX.out w' hw').mono sqS (λ_ _=>trivial));clear hm hw hX hW2;by_cases hk8:kx=8
 . subst hk8
   have hkb:((8:Int) == 8)=true:=(by simp);have HL1:=hid (HCL.out.trans (if_pos rfl))
   have HCM:Hid (callC ms m X ∈ callL ms m X\/(callC ms m X).toList = []):=by
    by_cases h:(callC ms m X).toList = []
    . exact Or.inr h
    . left;rw [HL1.out,if_neg h];simp
   generalize callC ms m X=cc at *;by_cases hcc:cc.toList = []
   . have hcb:(cc.toList == ([]:List UInt8))=true:=by simp [hcc]
     have HL0:=hid (HL1.out.trans (if_pos hcc));go_enter func107,ntmps107;go_wp2_with fail;rw [<-HW2.out];refine (HCA.out _ (B2.out.trans (B3.out.mono (by omega)))).mono ?_;rintro e w4 ⟨rfl,hb4⟩;have HOq:Hid (OwnS w4 (w.heap.size+1+1) (.slice (some ⟨w.heap.size+1+1,0,none⟩) 0 0) (callL ms m X)):=(by show OwnS _ _ _ _;rw [HL0.out];exact O3.out.next hb4);have HBq:=hid (B3.out.trans (hb4.mono (by rw [alloc_hs,S2.out];omega)));have bE4:=bE.out.below HBq.out (by omega);obtain ⟨e0,e1,e2,e3,e4,e5⟩:=sqB6 bE4;clear hb4 bE4;go_wp2_with fail;clear e0 e1 e2 e3 e4 e5;refine (HWI.out _ (B2.out.trans (HBq.out.mono (by omega)))).mono ?_;rintro e w5 ⟨u5,cells5,rfl,o5,c5,hb⟩;have HOr:=hid (HOq.out.next hb);have HBr:=hid (HBq.out.trans (hb.mono (by have:=HBq.out.size;rw [S2.out] at this;exact this)));have HI5:=hid (owns_base o5);have HC5:=hid (c5.mono (λcs y _ h=>h.mono (sqO hb) sqj));obtain ⟨p5,q5,rfl,hcm5⟩:=owns_slice o5;have hn5:(withinX X).length<=9223372036854775807:=(by unfold maxLen at hcm5;omega);generalize hnn:(withinX X).length=nn at *;have HNN:=hid hnn;have s5:w.heap.size+1+1<=w5.heap.size:=(by have:=HBr.out.size;rw [S2.out] at this;exact this);clear hb hnn HOq HBq o5 c5;go_wp2_with fail
     go_loopw [7,10] (λov iv wr=>∃ k:Nat,k<=nn/\iv=.int .i64 k/\Hid (OwnS wr (w.heap.size+1+1) ov (callL ms m X ++ ((withinX X).take k).flatMap (codesX ms m d)))/\Hid (wr.ownsRow 0 74 6 (.slice p5 nn q5) nn cells5)/\Hid (Below (w.heap.size+1+1) w5 wr)) (λ_ iv _=>nn - (intOf iv).toNat)
     case atStart=>exact ⟨0,Nat.zero_le _,rfl,by show OwnS _ _ _ _;simpa using HOr.out,HI5,Below.refl _ _⟩
     case round =>
      obtain ⟨k,hk,rfl,ho,hin,hb⟩:=hrel;have HB0:Hid (Bz w wr):=(B2.out.trans (HBr.out.mono (by omega))).trans (hb.out.mono (by omega));have bMr:Hid (Blk wr w.heap.size #[.string sv,.slice pe ne ce,.slice pf nf cf] 61):=(bM.out.below HBr.out (by omega)).below hb.out (by omega);by_cases hlt:k<nn
      . obtain ⟨y,hyk⟩:∃ y,(withinX X)[k]?=some y:=⟨(withinX X)[k]'(by rw [HNN.out];exact hlt),List.getElem?_eq_getElem _⟩
        obtain ⟨cs,hcsl,hcs,hy⟩:=HC5.out.2 k y hyk;have HY:Hid (∀ w',Bz wr w'->HEx w' All d cs y):=λw' hw=>(hy.mono (SameOn.of_low (hb.out.mono (by omega))) sqj).mono (sqO hw) (λ_ _=>trivial);obtain ⟨z0,z1,z2,z3,z4,z5,rfl⟩:=len6 hcsl;have ad:∃ g5,p5=some ⟨g5,0,none⟩:=owns_some hin.out (by omega);obtain ⟨g5,rfl⟩:=ad;have a0:=(hin.out.cellAt (k * 6+0) (by omega)).trans (hcs 0 (by omega));have a1:=(hin.out.cellAt (k * 6+1) (by omega)).trans (hcs 1 (by omega));have a2:=(hin.out.cellAt (k * 6+2) (by omega)).trans (hcs 2 (by omega));have a3:=(hin.out.cellAt (k * 6+3) (by omega)).trans (hcs 3 (by omega));have a4:=(hin.out.cellAt (k * 6+4) (by omega)).trans (hcs 4 (by omega));have a5:=(hin.out.cellAt (k * 6+5) (by omega)).trans (hcs 5 (by omega));simp at a0 a1 a2 a3 a4 a5;obtain ⟨m0,m1,m2⟩:=sqB3 bMr.out;have hki:(k:Int)<(nn:Int):=(by omega);have hk0:=sqI k;have hsw:w.heap.size+1+1<=wr.heap.size:=(by have:=hb.out.size;omega)
        have HJ:Hid (callL ms m X ++ ((withinX X).take (k+1)).flatMap (codesX ms m d)=(callL ms m X ++ ((withinX X).take k).flatMap (codesX ms m d)) ++ codesX ms m d y):=by
         show _=_;rw [List.take_add_one,hyk];simp
        have HLK:Hid ((callL ms m X ++ ((withinX X).take k).flatMap (codesX ms m d)).length+(codesX ms m d y).length<=16777217):=by
         have h1:=HSUM.out;have h2:=sum_take_succ (λy=>1+wtEx d y) (withinX X) k y hyk;have h3:=sum_take_le (λy=>1+wtEx d y) (withinX X) (k+1);have h4:=flat_lenG (codesX ms m d) (λy=>1+wtEx d y) ((withinX X).take k) (λz _=>codesX_len ms m d z);have h5:=codesX_len ms m d y;show _<=_;rw [List.length_append];omega
        have HWY:Hid (wtEx d y<=16777216):=by
         have h1:=HSUM.out;have h2:=sum_take_succ (λy=>1+wtEx d y) (withinX X) k y hyk;have h3:=sum_take_le (λy=>1+wtEx d y) (withinX X) (k+1);show _<=_;omega
        have CX:Hid (∀ w',Bz wr w'->Calls prog 107 #[.slice p n cap,.agg #[.string sv,.slice pe ne ce,.slice pf nf cf],.agg #[z0,z1,z2,z3,z4,z5]] w' λe w''=>∃ u,e=.returned u/\OwnS w'' w'.heap.size u (codesX ms m d y)/\Below w'.heap.size w' w''):=λw' hw'=>by
         have hb9:Bz w w':=HB0.out.trans (hw'.mono HB0.out.size);exact hE w' _ ms _ m _ y (HMS.out w' hb9) (HMM.out w' hb9) (HY.out w' hw') HWY.out
        generalize hJ0:callL ms m X ++ ((withinX X).take k).flatMap (codesX ms m d)=J at *;generalize hY0:codesX ms m d y=Y at *;have OY:Hid (∀ c ∈ Y,okS c):=λc hc=>okS_code (codesX_mem ms m d y c (by rw [hY0];exact hc));clear hcs hcsl hy hJ0 hY0;go_wp2_with fail
        go_region_law
         (first
          | (refine step_append_rows (R:=HStr) (S:=All) (by rfl) _ _ _ (by rfl) (w.heap.size+1+1) 9 i0 (.string ⟨#[]⟩) 1 16 underlying49 hi hz0 hz1 hz2 rfl (by decide) u7 J.length (strs J) (by rfl) (owns_next ho.out.1 K6.out) u6 Y (by rfl) R6.out str_oneCell (by have:=HLK.out;unfold maxLen;omega) (by have:=HLK.out;omega) (Nat.le_trans hsw K6.out.size) ?_;intro v9 w9 news9 hc9 ho9 hg9)
          | (go_simp;go_at_call 107;refine (CX.out _ (by exact (Below.refl _ _).drew)).mono ?_;rintro e w6 ⟨u6,rfl,o6,hb6⟩;have K6:Hid (Bz wr w6):=⟨hb6.os,hb6.tape,hb6.output,hb6.size,hb6.block⟩;have R6:=hid (o6.strR OY.out);clear hb6 o6;dsimp only))
        all_goals
         have HO9:Hid (OwnS w9 (w.heap.size+1+1) v9 (callL ms m X ++ ((withinX X).take (k+1)).flatMap (codesX ms m d))):=by
          show OwnS _ _ _ _;rw [HJ.out];exact OwnS.of ho9 (by simp) (by rw [cellsR_str hc9]) (Nat.le_trans (Nat.le_trans hsw K6.out.size) hg9.size)
         have HI9:=hid (owns_apart (owns_next ho.out.1 K6.out) (owns_next hin.out K6.out) (by decide) hg9);have HB9:Hid (Below (w.heap.size+1+1) w5 w9):=(hb.out.trans (K6.out.mono hsw)).trans (owns_below (owns_next ho.out.1 K6.out) hg9 (Nat.le_trans hsw K6.out.size));clear hc9 ho9 hg9;go_wp2_with fail;exact ⟨⟨k+1,by omega,by go_num,HO9,HI9,HB9⟩,by simp [intOf];omega⟩
      . have HR:Hid (OwnS wr w.heap.size u7 (codesX ms m (d+1) X)):=by
         have h1:=ho.out;rw [List.take_of_length_le (by rw [HNN.out];omega)] at h1;show OwnS _ _ _ _;rw [HCD.out];exact h1.base (by omega)
        go_wp2;go_ret;exact ⟨_,rfl,HR.out,HB0.out⟩
   . have hcb:(cc.toList == ([]:List UInt8))=false:=by simp [hcc]
     have HL0:=hid (HL1.out.trans (if_neg hcc));go_enter func107,ntmps107;go_wp2_with fail;rw [<-HW2.out];refine (HCA.out _ (B2.out.trans (B3.out.mono (by omega)))).mono ?_;rintro e w4 ⟨rfl,hb4⟩;have HO4:Hid (OwnS (w4.alloc (.cells #[.string cc] 9)) (w.heap.size+1+1) (.slice (some ⟨w.heap.size+1+1,0,none⟩) 0 0) []):=(O3.out.next hb4).next ((sqN _ _));have HB4:=hid (B3.out.trans (hb4.mono (by rw [alloc_hs,S2.out];omega)));have s4:w.heap.size+1+1<=w4.heap.size:=(by have:=HB4.out.size;rw [S2.out] at this;exact this);have HB4':Hid (Below (w.heap.size+1+1) W2 (w4.alloc (.cells #[.string cc] 9))):=HB4.out.alloc s4 _
     have F7:Hid (∀ w7,(w4.alloc (.cells #[.string cc] 9)).grownBy w7 (Value.ownBlock (.slice (some ⟨w.heap.size+1+1,0,none⟩) 0 0))->w7.cell? ⟨w.heap.size+1,0,none⟩=some (.int .i64 8)/\w7.cell? ⟨w.heap.size+1,1,none⟩=some (.int .i64 nx)/\w7.cell? ⟨w.heap.size+1,2,none⟩=some (.string tx)/\w7.cell? ⟨w.heap.size+1,3,none⟩=some (.string mx)/\w7.cell? ⟨w.heap.size+1,4,none⟩=some (.slice p1 nk q1)/\w7.cell? ⟨w.heap.size+1,5,none⟩=some (.slice p2 nc q2)):=λw7 hg7=>by
      have bE4:=bE.out.below (HB4'.out.trans (owns_below HO4.out.1 hg7 (by rw [alloc_hs];omega))) (by omega);exact ⟨bE4.cell 0 _ rfl,bE4.cell 1 _ rfl,bE4.cell 2 _ rfl,bE4.cell 3 _ rfl,bE4.cell 4 _ rfl,bE4.cell 5 _ rfl⟩
     clear hb4;go_wp2_with (at_builtin;refine wpList_append_own _ rfl _ _ 49 rfl (w.heap.size+1+1) 9 i0 (.string ⟨#[]⟩) 1 16 underlying49 hi hz0 hz1 hz2 rfl (by decide) (.slice (some ⟨w.heap.size+1+1,0,none⟩) 0 0) 0 [] rfl HO4.out.1 ⟨w4.heap.size,0,none⟩ 1 1 (strs [cc]) rfl (by simp [strs]) (one_str w4 cc _ rfl) (strs_oneCell _) (by unfold maxLen;omega) (by omega) (by rw [alloc_hs];omega) ?_;intro v7 w7 ho7 hg7 _;obtain ⟨e0,e1,e2,e3,e4,e5⟩:=F7.out w7 hg7)
     have HOq:Hid (OwnS w7 (w.heap.size+1+1) v7 (callL ms m X)):=by
      show OwnS _ _ _ _;rw [HL0.out];exact OwnS.of (l:=[]) (m:=[cc]) ho7 (by simp) (by simp [strs]) (Nat.le_trans (by rw [alloc_hs];omega) hg7.size)
     have HBq:=hid (HB4'.out.trans (owns_below HO4.out.1 hg7 (by rw [alloc_hs];omega)));clear ho7 hg7 e0 e1 e2 e3 e4 e5;refine (HWI.out _ (B2.out.trans (HBq.out.mono (by omega)))).mono ?_;rintro e w5 ⟨u5,cells5,rfl,o5,c5,hb⟩;have HOr:=hid (HOq.out.next hb);have HBr:=hid (HBq.out.trans (hb.mono (by have:=HBq.out.size;rw [S2.out] at this;exact this)));have HI5:=hid (owns_base o5);have HC5:=hid (c5.mono (λcs y _ h=>h.mono (sqO hb) sqj));obtain ⟨p5,q5,rfl,hcm5⟩:=owns_slice o5;have hn5:(withinX X).length<=9223372036854775807:=(by unfold maxLen at hcm5;omega);generalize hnn:(withinX X).length=nn at *;have HNN:=hid hnn;have s5:w.heap.size+1+1<=w5.heap.size:=(by have:=HBr.out.size;rw [S2.out] at this;exact this);clear hb hnn HOq HBq o5 c5;go_wp2_with fail
     go_loopw [7,10] (λov iv wr=>∃ k:Nat,k<=nn/\iv=.int .i64 k/\Hid (OwnS wr (w.heap.size+1+1) ov (callL ms m X ++ ((withinX X).take k).flatMap (codesX ms m d)))/\Hid (wr.ownsRow 0 74 6 (.slice p5 nn q5) nn cells5)/\Hid (Below (w.heap.size+1+1) w5 wr)) (λ_ iv _=>nn - (intOf iv).toNat)
     case atStart=>exact ⟨0,Nat.zero_le _,rfl,by show OwnS _ _ _ _;simpa using HOr.out,HI5,Below.refl _ _⟩
     case round =>
      obtain ⟨k,hk,rfl,ho,hin,hb⟩:=hrel;have HB0:Hid (Bz w wr):=(B2.out.trans (HBr.out.mono (by omega))).trans (hb.out.mono (by omega));have bMr:Hid (Blk wr w.heap.size #[.string sv,.slice pe ne ce,.slice pf nf cf] 61):=(bM.out.below HBr.out (by omega)).below hb.out (by omega);by_cases hlt:k<nn
      . obtain ⟨y,hyk⟩:∃ y,(withinX X)[k]?=some y:=⟨(withinX X)[k]'(by rw [HNN.out];exact hlt),List.getElem?_eq_getElem _⟩
        obtain ⟨cs,hcsl,hcs,hy⟩:=HC5.out.2 k y hyk;have HY:Hid (∀ w',Bz wr w'->HEx w' All d cs y):=λw' hw=>(hy.mono (SameOn.of_low (hb.out.mono (by omega))) sqj).mono (sqO hw) (λ_ _=>trivial);obtain ⟨z0,z1,z2,z3,z4,z5,rfl⟩:=len6 hcsl;have ad:∃ g5,p5=some ⟨g5,0,none⟩:=owns_some hin.out (by omega);obtain ⟨g5,rfl⟩:=ad;have a0:=(hin.out.cellAt (k * 6+0) (by omega)).trans (hcs 0 (by omega));have a1:=(hin.out.cellAt (k * 6+1) (by omega)).trans (hcs 1 (by omega));have a2:=(hin.out.cellAt (k * 6+2) (by omega)).trans (hcs 2 (by omega));have a3:=(hin.out.cellAt (k * 6+3) (by omega)).trans (hcs 3 (by omega));have a4:=(hin.out.cellAt (k * 6+4) (by omega)).trans (hcs 4 (by omega));have a5:=(hin.out.cellAt (k * 6+5) (by omega)).trans (hcs 5 (by omega));simp at a0 a1 a2 a3 a4 a5;obtain ⟨m0,m1,m2⟩:=sqB3 bMr.out;have hki:(k:Int)<(nn:Int):=(by omega);have hk0:=sqI k;have hsw:w.heap.size+1+1<=wr.heap.size:=(by have:=hb.out.size;omega)
        have HJ:Hid (callL ms m X ++ ((withinX X).take (k+1)).flatMap (codesX ms m d)=(callL ms m X ++ ((withinX X).take k).flatMap (codesX ms m d)) ++ codesX ms m d y):=by
         show _=_;rw [List.take_add_one,hyk];simp
        have HLK:Hid ((callL ms m X ++ ((withinX X).take k).flatMap (codesX ms m d)).length+(codesX ms m d y).length<=16777217):=by
         have h1:=HSUM.out;have h2:=sum_take_succ (λy=>1+wtEx d y) (withinX X) k y hyk;have h3:=sum_take_le (λy=>1+wtEx d y) (withinX X) (k+1);have h4:=flat_lenG (codesX ms m d) (λy=>1+wtEx d y) ((withinX X).take k) (λz _=>codesX_len ms m d z);have h5:=codesX_len ms m d y;show _<=_;rw [List.length_append];omega
        have HWY:Hid (wtEx d y<=16777216):=by
         have h1:=HSUM.out;have h2:=sum_take_succ (λy=>1+wtEx d y) (withinX X) k y hyk;have h3:=sum_take_le (λy=>1+wtEx d y) (withinX X) (k+1);show _<=_;omega
        have CX:Hid (∀ w',Bz wr w'->Calls prog 107 #[.slice p n cap,.agg #[.string sv,.slice pe ne ce,.slice pf nf cf],.agg #[z0,z1,z2,z3,z4,z5]] w' λe w''=>∃ u,e=.returned u/\OwnS w'' w'.heap.size u (codesX ms m d y)/\Below w'.heap.size w' w''):=λw' hw'=>by
         have hb9:Bz w w':=HB0.out.trans (hw'.mono HB0.out.size);exact hE w' _ ms _ m _ y (HMS.out w' hb9) (HMM.out w' hb9) (HY.out w' hw') HWY.out
        generalize hJ0:callL ms m X ++ ((withinX X).take k).flatMap (codesX ms m d)=J at *;generalize hY0:codesX ms m d y=Y at *;have OY:Hid (∀ c ∈ Y,okS c):=λc hc=>okS_code (codesX_mem ms m d y c (by rw [hY0];exact hc));clear hcs hcsl hy hJ0 hY0;go_wp2_with fail
        go_region_law
         (first
          | (refine step_append_rows (R:=HStr) (S:=All) (by rfl) _ _ _ (by rfl) (w.heap.size+1+1) 9 i0 (.string ⟨#[]⟩) 1 16 underlying49 hi hz0 hz1 hz2 rfl (by decide) u7 J.length (strs J) (by rfl) (owns_next ho.out.1 K6.out) u6 Y (by rfl) R6.out str_oneCell (by have:=HLK.out;unfold maxLen;omega) (by have:=HLK.out;omega) (Nat.le_trans hsw K6.out.size) ?_;intro v9 w9 news9 hc9 ho9 hg9)
          | (go_simp;go_at_call 107;refine (CX.out _ (by exact (Below.refl _ _).drew)).mono ?_;rintro e w6 ⟨u6,rfl,o6,hb6⟩;have K6:Hid (Bz wr w6):=⟨hb6.os,hb6.tape,hb6.output,hb6.size,hb6.block⟩;have R6:=hid (o6.strR OY.out);clear hb6 o6;dsimp only))
        all_goals
         have HO9:Hid (OwnS w9 (w.heap.size+1+1) v9 (callL ms m X ++ ((withinX X).take (k+1)).flatMap (codesX ms m d))):=by
          show OwnS _ _ _ _;rw [HJ.out];exact OwnS.of ho9 (by simp) (by rw [cellsR_str hc9]) (Nat.le_trans (Nat.le_trans hsw K6.out.size) hg9.size)
         have HI9:=hid (owns_apart (owns_next ho.out.1 K6.out) (owns_next hin.out K6.out) (by decide) hg9);have HB9:Hid (Below (w.heap.size+1+1) w5 w9):=(hb.out.trans (K6.out.mono hsw)).trans (owns_below (owns_next ho.out.1 K6.out) hg9 (Nat.le_trans hsw K6.out.size));clear hc9 ho9 hg9;go_wp2_with fail;exact ⟨⟨k+1,by omega,by go_num,HO9,HI9,HB9⟩,by simp [intOf];omega⟩
      . have HR:Hid (OwnS wr w.heap.size u7 (codesX ms m (d+1) X)):=by
         have h1:=ho.out;rw [List.take_of_length_le (by rw [HNN.out];omega)] at h1;show OwnS _ _ _ _;rw [HCD.out];exact h1.base (by omega)
        go_wp2;go_ret;exact ⟨_,rfl,HR.out,HB0.out⟩
 . have hkb:(kx == 8)=false:=by simpa using hk8
   have HL0:=hid (HCL.out.trans (if_neg hk8));have HOq:Hid (OwnS (W2.alloc (.cells #[] 9)) (w.heap.size+1+1) (.slice (some ⟨w.heap.size+1+1,0,none⟩) 0 0) (callL ms m X)):=(by show OwnS _ _ _ _;rw [HL0.out];exact O3.out);have HBq:=B3;go_enter func107,ntmps107;go_wp2_with fail;rw [<-HW2.out];refine (HWI.out _ (B2.out.trans (HBq.out.mono (by omega)))).mono ?_;rintro e w5 ⟨u5,cells5,rfl,o5,c5,hb⟩;have HOr:=hid (HOq.out.next hb);have HBr:=hid (HBq.out.trans (hb.mono (by have:=HBq.out.size;rw [S2.out] at this;exact this)));have HI5:=hid (owns_base o5);have HC5:=hid (c5.mono (λcs y _ h=>h.mono (sqO hb) sqj));obtain ⟨p5,q5,rfl,hcm5⟩:=owns_slice o5;have hn5:(withinX X).length<=9223372036854775807:=(by unfold maxLen at hcm5;omega);generalize hnn:(withinX X).length=nn at *;have HNN:=hid hnn;have s5:w.heap.size+1+1<=w5.heap.size:=(by have:=HBr.out.size;rw [S2.out] at this;exact this);clear hb hnn HOq HBq o5 c5;go_wp2_with fail
   go_loopw [7,10] (λov iv wr=>∃ k:Nat,k<=nn/\iv=.int .i64 k/\Hid (OwnS wr (w.heap.size+1+1) ov (callL ms m X ++ ((withinX X).take k).flatMap (codesX ms m d)))/\Hid (wr.ownsRow 0 74 6 (.slice p5 nn q5) nn cells5)/\Hid (Below (w.heap.size+1+1) w5 wr)) (λ_ iv _=>nn - (intOf iv).toNat)
   case atStart=>exact ⟨0,Nat.zero_le _,rfl,by show OwnS _ _ _ _;simpa using HOr.out,HI5,Below.refl _ _⟩
   case round =>
    obtain ⟨k,hk,rfl,ho,hin,hb⟩:=hrel;have HB0:Hid (Bz w wr):=(B2.out.trans (HBr.out.mono (by omega))).trans (hb.out.mono (by omega));have bMr:Hid (Blk wr w.heap.size #[.string sv,.slice pe ne ce,.slice pf nf cf] 61):=(bM.out.below HBr.out (by omega)).below hb.out (by omega);by_cases hlt:k<nn
    . obtain ⟨y,hyk⟩:∃ y,(withinX X)[k]?=some y:=⟨(withinX X)[k]'(by rw [HNN.out];exact hlt),List.getElem?_eq_getElem _⟩
      obtain ⟨cs,hcsl,hcs,hy⟩:=HC5.out.2 k y hyk;have HY:Hid (∀ w',Bz wr w'->HEx w' All d cs y):=λw' hw=>(hy.mono (SameOn.of_low (hb.out.mono (by omega))) sqj).mono (sqO hw) (λ_ _=>trivial);obtain ⟨z0,z1,z2,z3,z4,z5,rfl⟩:=len6 hcsl;have ad:∃ g5,p5=some ⟨g5,0,none⟩:=owns_some hin.out (by omega);obtain ⟨g5,rfl⟩:=ad;have a0:=(hin.out.cellAt (k * 6+0) (by omega)).trans (hcs 0 (by omega));have a1:=(hin.out.cellAt (k * 6+1) (by omega)).trans (hcs 1 (by omega));have a2:=(hin.out.cellAt (k * 6+2) (by omega)).trans (hcs 2 (by omega));have a3:=(hin.out.cellAt (k * 6+3) (by omega)).trans (hcs 3 (by omega));have a4:=(hin.out.cellAt (k * 6+4) (by omega)).trans (hcs 4 (by omega));have a5:=(hin.out.cellAt (k * 6+5) (by omega)).trans (hcs 5 (by omega));simp at a0 a1 a2 a3 a4 a5;obtain ⟨m0,m1,m2⟩:=sqB3 bMr.out;have hki:(k:Int)<(nn:Int):=(by omega);have hk0:=sqI k;have hsw:w.heap.size+1+1<=wr.heap.size:=(by have:=hb.out.size;omega)
      have HJ:Hid (callL ms m X ++ ((withinX X).take (k+1)).flatMap (codesX ms m d)=(callL ms m X ++ ((withinX X).take k).flatMap (codesX ms m d)) ++ codesX ms m d y):=by
       show _=_;rw [List.take_add_one,hyk];simp
      have HLK:Hid ((callL ms m X ++ ((withinX X).take k).flatMap (codesX ms m d)).length+(codesX ms m d y).length<=16777217):=by
       have h1:=HSUM.out;have h2:=sum_take_succ (λy=>1+wtEx d y) (withinX X) k y hyk;have h3:=sum_take_le (λy=>1+wtEx d y) (withinX X) (k+1);have h4:=flat_lenG (codesX ms m d) (λy=>1+wtEx d y) ((withinX X).take k) (λz _=>codesX_len ms m d z);have h5:=codesX_len ms m d y;show _<=_;rw [List.length_append];omega
      have HWY:Hid (wtEx d y<=16777216):=by
       have h1:=HSUM.out;have h2:=sum_take_succ (λy=>1+wtEx d y) (withinX X) k y hyk;have h3:=sum_take_le (λy=>1+wtEx d y) (withinX X) (k+1);show _<=_;omega
      have CX:Hid (∀ w',Bz wr w'->Calls prog 107 #[.slice p n cap,.agg #[.string sv,.slice pe ne ce,.slice pf nf cf],.agg #[z0,z1,z2,z3,z4,z5]] w' λe w''=>∃ u,e=.returned u/\OwnS w'' w'.heap.size u (codesX ms m d y)/\Below w'.heap.size w' w''):=λw' hw'=>by
       have hb9:Bz w w':=HB0.out.trans (hw'.mono HB0.out.size);exact hE w' _ ms _ m _ y (HMS.out w' hb9) (HMM.out w' hb9) (HY.out w' hw') HWY.out
      generalize hJ0:callL ms m X ++ ((withinX X).take k).flatMap (codesX ms m d)=J at *;generalize hY0:codesX ms m d y=Y at *;have OY:Hid (∀ c ∈ Y,okS c):=λc hc=>okS_code (codesX_mem ms m d y c (by rw [hY0];exact hc));clear hcs hcsl hy hJ0 hY0;go_wp2_with fail
      go_region_law
       (first
        | (refine step_append_rows (R:=HStr) (S:=All) (by rfl) _ _ _ (by rfl) (w.heap.size+1+1) 9 i0 (.string ⟨#[]⟩) 1 16 underlying49 hi hz0 hz1 hz2 rfl (by decide) u7 J.length (strs J) (by rfl) (owns_next ho.out.1 K6.out) u6 Y (by rfl) R6.out str_oneCell (by have:=HLK.out;unfold maxLen;omega) (by have:=HLK.out;omega) (Nat.le_trans hsw K6.out.size) ?_;intro v9 w9 news9 hc9 ho9 hg9)
        | (go_simp;go_at_call 107;refine (CX.out _ (by exact (Below.refl _ _).drew)).mono ?_;rintro e w6 ⟨u6,rfl,o6,hb6⟩;have K6:Hid (Bz wr w6):=⟨hb6.os,hb6.tape,hb6.output,hb6.size,hb6.block⟩;have R6:=hid (o6.strR OY.out);clear hb6 o6;dsimp only))
      all_goals
       have HO9:Hid (OwnS w9 (w.heap.size+1+1) v9 (callL ms m X ++ ((withinX X).take (k+1)).flatMap (codesX ms m d))):=by
        show OwnS _ _ _ _;rw [HJ.out];exact OwnS.of ho9 (by simp) (by rw [cellsR_str hc9]) (Nat.le_trans (Nat.le_trans hsw K6.out.size) hg9.size)
       have HI9:=hid (owns_apart (owns_next ho.out.1 K6.out) (owns_next hin.out K6.out) (by decide) hg9);have HB9:Hid (Below (w.heap.size+1+1) w5 w9):=(hb.out.trans (K6.out.mono hsw)).trans (owns_below (owns_next ho.out.1 K6.out) hg9 (Nat.le_trans hsw K6.out.size));clear hc9 ho9 hg9;go_wp2_with fail;exact ⟨⟨k+1,by omega,by go_num,HO9,HI9,HB9⟩,by simp [intOf];omega⟩
    . have HR:Hid (OwnS wr w.heap.size u7 (codesX ms m (d+1) X)):=by
       have h1:=ho.out;rw [List.take_of_length_le (by rw [HNN.out];omega)] at h1;show OwnS _ _ _ _;rw [HCD.out];exact h1.base (by omega)
      go_wp2;go_ret;exact ⟨_,rfl,HR.out,HB0.out⟩
theorem l05Exp_all (dm:Nat):∀ d,LxC dm d
 | 0=>λw v ms mc m cs x _ _ h _=>h.elim
 | d+1=>l05Exp_of (l05Exp_all dm d)
end
end Go.Proofs.YtbdhpganbbandaaGreatDoor
