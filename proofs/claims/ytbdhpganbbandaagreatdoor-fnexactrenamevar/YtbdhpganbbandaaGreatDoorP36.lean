/-
  AtMath AtImplA AtSpecA AtSpecB AtImplB
-/
import Derived.Test.YtbdhpganbbandaaGreatDoorP30
import Derived.Test.YtbdhpganbbandaaGreatDoorP27
set_option maxHeartbeats 16000000
set_option linter.unusedVariables false
set_option maxRecDepth 100000
namespace Go.Proofs.YtbdhpganbbandaaGreatDoor
open Go.ChangeShapes Go.WideShapes Go.ChangeAt Go.RowKit
def fnOf (ms:List Md) (q:Pl):Option Fn':=(ms.find? (named q.mod)).bind λm=>m.funs.find? (sameR ⟨q.name,q.arity⟩)
def clauseOf (ms:List Md) (q:Pl):Option Cl:=(fnOf ms q).bind λf=>if inB q.clause 0 (f.clauses.length - 1) then f.clauses[q.clause.toNat]? else none
def clauseVars (d:Nat) (c:Cl):List ByteArray:=foldV (allV d) (foldV (allV d) [] c.1) c.2
def varsAt (d:Nat) (ms:List Md) (q:Pl):List ByteArray:=if pgOk d ms then (match clauseOf ms q with
 | none=>[]
 | some c=>sortS (clauseVars d c)) else []
theorem wtS_part {α:Type} (f:α->Nat) (es:List α) (k:Nat) (x:α) (h:es[k]?=some x):1+f x<=wtS f es:=by
 have hm:=List.mem_of_getElem? h;obtain ⟨a,b,rfl⟩:=List.append_of_mem hm;simp [wtS];omega
theorem wtS_find {α:Type} (f:α->Nat) (es:List α) (p:α->Bool) (x:α) (h:es.find? p=some x):1+f x<=wtS f es:=by
 obtain ⟨k,hk⟩:=List.mem_iff_getElem?.1 (List.mem_of_find?_eq_some h);exact wtS_part f es k x hk
theorem fnOf_wt {d:Nat} {ms:List Md} {q:Pl} {f:Fn'} (h:fnOf ms q=some f):wtFn d f<=wtS (wtMd d) ms:=by
 unfold fnOf at h;obtain ⟨m,hm,hf⟩:=Option.bind_eq_some_iff.1 h;have h1:=wtS_find (wtMd d) ms _ m hm;have h2:=wtS_find (wtFn d) m.funs _ f hf;have h3:wtMd d m=m.name.size+wtS wtRf m.exports+wtS (wtFn d) m.funs:=rfl;omega
theorem clauseOf_wt1 {d:Nat} {ms:List Md} {q:Pl} {c:Cl} (h:clauseOf ms q=some c):1+wtCl (wtEx d) c<=wtS (wtMd d) ms:=by
 unfold clauseOf at h;obtain ⟨f,hf,hc⟩:=Option.bind_eq_some_iff.1 h
 split at hc
 . have h1:=fnOf_wt (d:=d) hf
   have h2:=wtS_part (wtCl (wtEx d)) f.clauses _ c hc;have h3:wtFn d f=f.name.size+wtS (wtCl (wtEx d)) f.clauses:=rfl;omega
 . cases hc
section
open Go.Proofs.Tryz
theorem refAt_any (q:Pl) (w:World):Calls prog 92 #[.agg #[.string q.mod,.string q.name,.int .i64 q.arity,.int .i64 q.clause]] w λe w'=>e=.returned (.agg #[.string q.name,.int .i64 q.arity])/\Bz w w':=by
 obtain ⟨m,s,n,c⟩:=q;have BL:Hid (∀ (cs cs':Array Value) (t t':TypeId),Bz w ((w.alloc (.cells cs t)).alloc (.cells cs' t'))):=λcs cs' t t'=>((sqN _ _)).alloc (by simp) _
 have RB:Hid (∀ (cs:Array Value) (t:TypeId),Blk ((w.alloc (.cells cs t)).alloc (.cells #[.string s,.int .i64 n] 110)) (w.heap.size+1) #[.string s,.int .i64 n] 110):=λcs t=>by
  have:=Blk.new (w:=w.alloc (.cells cs t)) (cs:=#[.string s,.int .i64 n]) (t:=110)
  rwa [alloc_hs] at this
 go_enter func92,ntmps92;go_wp2_with fail;have q0:=(RB.out #[.string m,.string s,.int .i64 n,.int .i64 c] 31).cell 0 _ rfl;have q1:=(RB.out #[.string m,.string s,.int .i64 n,.int .i64 c] 31).cell 1 _ rfl;exact bodyPost_ret (v:=.agg #[.string s,.int .i64 n]) (by simp [results,results92,go_sem,q0,q1]) rfl ⟨rfl,BL.out _ _ _ _⟩
def hasAt (q:Pl) (m:Md):Bool:=named q.mod m && m.funs.any (sameR ⟨q.name,q.arity⟩)
structure FunP (d:Nat) (ms:List Md) (q:Pl) (v:Value) (w:World) (gf o:Nat) (k j:Nat) (m:Md) (f:Fn'):Prop where
 at_k:ms[k]?=some m
 nm:named q.mod m=true
 at_j:m.funs[j]?=some f
 first:m.funs.find? (sameR ⟨q.name,q.arity⟩)=some f
 before:(m.funs.take j).any (sameR ⟨q.name,q.arity⟩)=false
 lt:gf<w.heap.size
 lies:∃ g off cap of cf,v=.slice (some ⟨g,off,none⟩) ms.length cap/\w.cell? ⟨g,off+k * 3+2,none⟩=some (.slice (some ⟨gf,of,none⟩) m.funs.length cf)/\o=of+j * 3
 is:∃ cs,cs.length=3/\(∀ i,i<3->w.cell? ⟨gf,o+i,none⟩=cs[i]?)/\HFn w All d cs f
def FunE (d:Nat) (ms:List Md) (q:Pl) (v:Value) (w:World) (e:Ending):Prop :=
 (e=.returned (.pointer none)/\ms.any (hasAt q)=false)\/∃ gf o k j m f,e=.returned (.pointer (some ⟨gf,o,none⟩))/\FunP d ms q v w gf o k j m f
theorem FunP.next {d:Nat} {ms:List Md} {q:Pl} {v:Value} {w w':World} {gf o k j:Nat} {m:Md} {f:Fn'} (h:FunP d ms q v w gf o k j m f) (hb:Bz w w'):FunP d ms q v w' gf o k j m f:=by
 obtain ⟨g,off,cap,of,cf,h1,h2,h3⟩:=h.lies;obtain ⟨cs,c1,c2,c3⟩:=h.is;refine ⟨h.at_k,h.nm,h.at_j,h.first,h.before,Nat.lt_of_lt_of_le h.lt hb.size,⟨g,off,cap,of,cf,h1,cell_next hb h2,h3⟩,⟨cs,c1,λi hi=>(hb.cell (p:=⟨gf,o+i,none⟩) h.lt).trans (c2 i hi),c3.mono (sqO hb) sqj⟩⟩
theorem find_first {α:Type} {f:α->Bool} {xs:List α} {k:Nat} {x:α} (h:(xs.take k).any f=false) (hx:xs[k]?=some x) (hf:f x=true):xs.find? f=some x:=by
 obtain ⟨hk,he⟩:=List.getElem?_eq_some_iff.1 hx;rw [List.find?_eq_some_iff_getElem];refine ⟨hf,k,hk,he,λj hj=>?_⟩;have:=List.any_eq_false.1 h (xs[j]) (List.mem_of_getElem? (i:=j) (by rw [List.getElem?_take,if_pos hj];exact List.getElem?_eq_getElem _))
 simpa using this
theorem funAt_any (d:Nat) (w:World) (v:Value) (ms:List Md) (q:Pl) (h:Rows w All 3 (HMd w All d) v ms) :
 Calls prog 60 #[v,.agg #[.string q.mod,.string q.name,.int .i64 q.arity,.int .i64 q.clause]] w λe w'=>FunE d ms q v w' e/\Bz w w':=by
 obtain ⟨qm,qn,qa,qc⟩:=q;simp only;obtain ⟨p,cap,rfl,hcl,hcm,hx⟩:=h;have hnb:=sqM hcl hcm;generalize hn:ms.length=n at *;have HN:=hid hn;have HX:=hid hx;obtain ⟨W1,hW1⟩:∃ W1,W1=w.alloc (.cells #[.string qm,.string qn,.int .i64 qa,.int .i64 qc] 31):=⟨_,rfl⟩;have bA:Hid (Blk W1 w.heap.size #[.string qm,.string qn,.int .i64 qa,.int .i64 qc] 31):=(by show Blk _ _ _ _;rw [hW1];exact Blk.new);have B1:Hid (Bz w W1):=(by show Below _ _ _;rw [hW1];exact (sqN _ _));have HW1:=hid hW1;clear hx hn hW1;go_enter func60,ntmps60;go_wp2_with fail;rw [<-HW1.out]
 go_loopw [11] (λiv wr=>∃ k:Nat,k<=n/\iv=.int .i64 k/\Hid ((ms.take k).any (hasAt ⟨qm,qn,qa,qc⟩)=false)/\Hid (SameOn All W1 wr)/\Bz w wr) (λiv _=>n - (intOf iv).toNat)
 case atStart=>exact ⟨0,Nat.zero_le _,rfl,by show _=_;simp,sqS,B1.out⟩
 case round =>
  obtain ⟨k,hk,rfl,hall,hso,hb⟩:=hrel;have HB:=hid hb;by_cases hlt:k<n
  . obtain ⟨x,hxk⟩:=sqA (l:=ms) (k:=k) HN.out hlt
    obtain ⟨g,off,rfl,-,hgl,hat⟩:=HX.out (sqE hxk);obtain ⟨cs,hcsl,hcs,ev,fv,rfl,-,f0,f1⟩:=hat k x hxk;obtain ⟨pe,ce,rfl,-⟩:=f0;obtain ⟨pf,cf,rfl,hclf,hcmf,hxf⟩:=f1;obtain ⟨a0,a1,a2⟩:=sqC3 hcs (by omega);rw [<-hb.cell (p:=⟨g,_,none⟩) hgl] at a0 a1 a2;simp at a0 a1 a2;have HXF:=hid hxf;have HA2:Hid (w.cell? ⟨g,off+k * 3+2,none⟩=some (.slice pf x.funs.length cf)):=(by have:=hcs 2 (by omega);simp at this;exact this);have hki:(k:Int)<(n:Int):=(by omega);have hk0:=sqI k;have hnf:x.funs.length<=9223372036854775807:=(by unfold maxLen at hcmf;omega);obtain ⟨W5,hW5⟩:∃ W5,W5=wr.alloc (.cells #[.string x.name,.slice pe x.exports.length ce,.slice pf x.funs.length cf] 61):=⟨_,rfl⟩;have bM:Hid (Blk W5 wr.heap.size #[.string x.name,.slice pe x.exports.length ce,.slice pf x.funs.length cf] 61):=(by show Blk _ _ _ _;rw [hW5];exact Blk.new);have K5:Bz wr W5:=(by rw [hW5];exact (sqN _ _));have B5:=hid (hb.trans (K5.mono hb.size));have S5:=hid (hso.out.trans (sqO K5));have HW5:=hid hW5;have z2:=bM.out.cell 2 _ rfl;generalize hnfl:x.funs.length=nf at *;have HNF:=hid hnfl;generalize x.exports.length=ne at *;have HXK:=hid hxk;clear hb hcs hat hcsl hW5 K5 hnfl hxf hxk;go_wp2_with fail;rw [<-HW5.out];generalize hmb:wr.heap.size=mb at bM z2 ⊢;clear hmb
    go_loopw [18] (λiv wr'=>∃ j:Nat,j<=nf/\iv=.int .i64 j/\Hid (named qm x=true->(x.funs.take j).any (sameR ⟨qn,qa⟩)=false)/\Hid (SameOn All W5 wr')/\Bz w wr') (λiv _=>nf - (intOf iv).toNat)
    case atStart=>exact ⟨0,Nat.zero_le _,rfl,(λ_=>by simp),sqS,B5.out⟩
    case round =>
     obtain ⟨j,hj,rfl,halj,hsj,hbj⟩:=hrel;by_cases hjt:j<nf
     . obtain ⟨y,hyj⟩:∃ y,x.funs[j]?=some y:=⟨x.funs[j]'(by rw [HNF.out];exact hjt),List.getElem?_eq_getElem _⟩
       obtain ⟨gf,of,rfl,-,hgf,hatf⟩:=HXF.out (sqE hyj);obtain ⟨fcs,hfl,hfcs,r1⟩:=hatf j y hyj;have HFC:Hid (fcs.length=3/\(∀ i,i<3->w.cell? ⟨gf,of+j * 3+i,none⟩=fcs[i]?)/\HFn w All d fcs y):=⟨hfl,hfcs,r1⟩;obtain ⟨p1,n1,q1,rfl⟩:=fnShape r1;have c0:=hfcs 0 (by omega);have c1:=hfcs 1 (by omega);have c2:=hfcs 2 (by omega);rw [<-hbj.cell (p:=⟨gf,_,none⟩) hgf] at c0 c1 c2;simp at c0 c1 c2;have hji:(j:Int)<(nf:Int):=(by omega);have hj0:=sqI j;obtain ⟨W7,hW7⟩:∃ W7,W7=wr.alloc (.cells #[.string y.name,.int .i64 y.arity,.slice p1 n1 q1] 57):=⟨_,rfl⟩;have bF:Hid (Blk W7 wr.heap.size #[.string y.name,.int .i64 y.arity,.slice p1 n1 q1] 57):=(by show Blk _ _ _ _;rw [hW7];exact Blk.new);have K7:Bz wr W7:=(by rw [hW7];exact (sqN _ _));have B7:=hid (hbj.trans (K7.mono hbj.size));have S7:=hid (hsj.out.trans (sqO K7));have HW7:=hid hW7;have bA7:=bA.out.same_on (S5.out.trans S7.out);have bM7:=bM.out.same_on S7.out;obtain ⟨y0,y1,y2,y3⟩:=sqB4 bA7;have m0:=bM7.cell 0 _ rfl;obtain ⟨z0,z1,z2⟩:=sqB3 bF.out;have l1:=bA7.lt;have l2:=bM7.lt;have l3:=bF.out.lt;have qy0:∀ m:Wd (λw'=>SameOn All W7 w'/\Bz w w'),m.val.cell? ⟨w.heap.size,0,none⟩=some (.string qm):=λm=>(sqK (m.ok.1.2 _ trivial l1)).trans y0;have qy1:∀ m:Wd (λw'=>SameOn All W7 w'/\Bz w w'),m.val.cell? ⟨w.heap.size,1,none⟩=some (.string qn):=λm=>(sqK (m.ok.1.2 _ trivial l1)).trans y1;have qy2:∀ m:Wd (λw'=>SameOn All W7 w'/\Bz w w'),m.val.cell? ⟨w.heap.size,2,none⟩=some (.int .i64 qa):=λm=>(sqK (m.ok.1.2 _ trivial l1)).trans y2;have qy3:∀ m:Wd (λw'=>SameOn All W7 w'/\Bz w w'),m.val.cell? ⟨w.heap.size,3,none⟩=some (.int .i64 qc):=λm=>(sqK (m.ok.1.2 _ trivial l1)).trans y3;have qm0:∀ m:Wd (λw'=>SameOn All W7 w'/\Bz w w'),m.val.cell? ⟨mb,0,none⟩=some (.string x.name):=λm=>(sqK (m.ok.1.2 _ trivial l2)).trans m0;have qz0:∀ m:Wd (λw'=>SameOn All W7 w'/\Bz w w'),m.val.cell? ⟨wr.heap.size,0,none⟩=some (.string y.name):=λm=>(sqK (m.ok.1.2 _ trivial l3)).trans z0;have qz1:∀ m:Wd (λw'=>SameOn All W7 w'/\Bz w w'),m.val.cell? ⟨wr.heap.size,1,none⟩=some (.int .i64 y.arity):=λm=>(sqK (m.ok.1.2 _ trivial l3)).trans z1;have qz2:∀ m:Wd (λw'=>SameOn All W7 w'/\Bz w w'),m.val.cell? ⟨wr.heap.size,2,none⟩=some (.slice p1 n1 q1):=λm=>(sqK (m.ok.1.2 _ trivial l3)).trans z2;clear hfcs hfl r1 hatf hW7 K7 y0 y1 y2 y3 m0 z0 z1 z2 l1 l2 l3 bA7 bM7
       cases hnm:(x.name.toList == qm.toList) with
       | false =>
        have HJ:Hid (named qm x=true->(x.funs.take (j+1)).any (sameR ⟨qn,qa⟩)=false):=λh=>by rw [named,hnm] at h;cases h
        clear hbj;go_wp2_with fail;rw [<-HW7.out];have hCne:Nonempty (Wd (λw'=>SameOn All W7 w'/\Bz w w')):=⟨⟨W7.drew,⟨sqS,B7.out.drew⟩⟩⟩;refine wp_region_class (λw'=>SameOn All W7 w'/\Bz w w') (by kernel_rfl) (by kernel_rfl) ⟨sqS,B7.out.drew⟩ ?_
        repeat (go_big_quiet_step (fail))
        refine wpQuiet_nil ?_;rintro _ ⟨mq,rfl⟩;have HB8:=hid mq.ok.2;have HS8:=hid (S7.out.trans mq.ok.1);generalize mq.val=w8 at HB8 HS8 ⊢;clear qy0 qy1 qy2 qy3 qm0 qz0 qz1 qz2;go_wp2_with fail;exact ⟨⟨j+1,by omega,by go_num,HJ.out,HS8.out,HB8.out⟩,by simp [intOf];omega⟩
       | true =>
        have HNM:=hid hnm;have e1:=refG;have e2:=refE;clear hbj;go_wp2_with fail;rw [<-HW7.out];have hCne:Nonempty (Wd (λw'=>SameOn All W7 w'/\Bz w w')):=⟨⟨W7.drew,⟨sqS,B7.out.drew⟩⟩⟩;refine wp_region_class (λw'=>SameOn All W7 w'/\Bz w w') (by kernel_rfl) (by kernel_rfl) ⟨sqS,B7.out.drew⟩ ?_
        repeat (go_big_quiet_step (first | (rename_i mm;go_at_call 91;refine (refOf_any _ _ _ _ _ _).mono ?_;rintro e w1 ⟨rfl,hb1⟩;exact ⟨rfl,⟨⟨w1,⟨(SameOn.trans mm.ok.1 (sqO hb1)),mm.ok.2.trans (hb1.mono mm.ok.2.size)⟩⟩,rfl⟩⟩) | (rename_i mm;go_at_call 92;refine (refAt_any ⟨qm,qn,qa,qc⟩ _).mono ?_;rintro e w1 ⟨rfl,hb1⟩;exact ⟨rfl,⟨⟨w1,⟨(SameOn.trans mm.ok.1 (sqO hb1)),mm.ok.2.trans (hb1.mono mm.ok.2.size)⟩⟩,rfl⟩⟩)))
        refine wpQuiet_nil ?_;rintro _ ⟨mq,rfl⟩;have HB8:=hid mq.ok.2;have HS8:=hid (S7.out.trans mq.ok.1);generalize mq.val=w8 at HB8 HS8 ⊢;clear qy0 qy1 qy2 qy3 qm0 qz0 qz1 qz2 e1 e2;generalize hcv:(y.name.toList == qn.toList && y.arity == qa)=cv;have HC2:Hid (cv=false->(x.funs.take (j+1)).any (sameR ⟨qn,qa⟩)=false):=λh=>anyT_succ _ x.funs j _ hyj (halj.out HNM.out) (show (y.name.toList == qn.toList && y.arity == qa)=false from hcv.trans h);have HC3:Hid (cv=true->x.funs.find? (sameR ⟨qn,qa⟩)=some y):=λh=>find_first (halj.out HNM.out) hyj (show (y.name.toList == qn.toList && y.arity == qa)=true from hcv.trans h);clear hcv
        cases cv with
        | false =>
         have HT':=hid (HC2.out rfl);clear HC2 HC3;go_wp2_with fail;exact ⟨⟨j+1,by omega,by go_num,λ_=>HT'.out,HS8.out,HB8.out⟩,by simp [intOf];omega⟩
        | true =>
         have HF:=hid (HC3.out rfl);have m2:=(bM.out.same_on HS8.out).cell 2 _ rfl;have HYJ:=hid hyj;clear HC2 HC3 hyj;go_wp2_with fail;go_ret;refine ⟨.inr ⟨gf,of+j * 3,k,j,x,y,rfl,HXK.out,HNM.out,HYJ.out,HF.out,halj.out HNM.out,Nat.lt_of_lt_of_le hgf HB8.out.size,⟨g,off,cap,of,cf,by rw [HN.out],by rw [HNF.out];exact (HB8.out.cell (p:=⟨g,_,none⟩) hgl).trans HA2.out,rfl⟩,⟨_,HFC.out.1,λi hi=>(HB8.out.cell (p:=⟨gf,_,none⟩) hgf).trans (HFC.out.2.1 i hi),HFC.out.2.2.mono (sqO HB8.out) sqj⟩⟩,HB8.out⟩
     . have HT':Hid ((ms.take (k+1)).any (hasAt ⟨qm,qn,qa,qc⟩)=false):=anyT_succ _ ms k _ HXK.out hall.out (by
        have:=halj.out;rw [List.take_of_length_le (by rw [HNF.out];omega)] at this;show (named qm x && x.funs.any (sameR ⟨qn,qa⟩))=false
        cases hn:named qm x with
        | false=>rfl
        | true=>rw [this hn];rfl)
       have HS9:=hid (S5.out.trans hsj.out);have HB9:=hid hbj;clear hbj;go_wp2_with fail;exact ⟨⟨k+1,by omega,by go_num,HT'.out,HS9.out,HB9.out⟩,by simp [intOf];omega⟩
  . have HD:Hid (ms.any (hasAt ⟨qm,qn,qa,qc⟩)=false):=by
     have:=hall.out
     rwa [List.take_of_length_le (by rw [HN.out];omega)] at this
    clear hb;go_wp2;go_ret;exact ⟨.inl ⟨rfl,HD.out⟩,HB.out⟩
theorem clauseVars_ex (d:Nat) (c:Cl):clauseVars d c=allV (d+1) (.mk 10 0 ByteArray.empty ByteArray.empty [] [c]):=rfl
theorem clauseWt_ex (d:Nat) (c:Cl):wtEx (d+1) (.mk 10 0 ByteArray.empty ByteArray.empty [] [c])=1+wtCl (wtEx d) c:=by
 show 0+0+wtS (wtEx d) []+wtS (wtCl (wtEx d)) [c]=_;simp [wtS]
theorem clause_txts {w:World} {d:Nat} {cs:List Value} {c:Cl} (h:HCl w All (HEx w All d) cs c):exS (d+1) (.mk 10 0 ByteArray.empty ByteArray.empty [] [c]):=by
 obtain ⟨p,b,rfl,hp,hb⟩:=h
 have hh:∀ (v:Value) (l:List Ex),Rows w All 6 (HEx w All d) v l→∀ y ∈ l,exS d y:=by
  intro v l hr y hy;obtain ⟨_,_,_,_,_,hx⟩:=hr;obtain ⟨i,hi⟩:=List.mem_iff_getElem?.1 hy;obtain ⟨g,off,_,_,_,hat⟩:=hx (by intro e;rw [e] at hy;simp at hy);obtain ⟨cs,_,_,hr⟩:=hat i y hi;exact hr.txts
 refine ⟨by show (0:Nat)≤maxLen;exact Nat.zero_le _,by simp,fun c' hc'=>?_⟩;simp only [List.mem_singleton] at hc';subst hc';exact ⟨hh p c'.1 hp,hh b c'.2 hb⟩
theorem l07Vars_any (d:Nat) (w:World) (cs:List Value) (c:Cl) (h:HCl w All (HEx w All d) cs c) (hwt:1+wtCl (wtEx d) c≤16777216) :
 Calls prog 18 #[.agg cs.toArray] w fun e w'=>∃ u,e=.returned u∧OwnS w' w.heap.size u (sortS (clauseVars d c))∧Bz w w':=by
 have hok:=clause_txts h;have hE:=all_all d;rw [← clauseWt_ex] at hwt;have HW:=hid hwt
 have BC:Hid (∀ y,(y ∈ c.1∨y ∈ c.2)→wtEx d y≤16777216∧(∀ s ∈ allV d y,keyS s ∈ varL (d+1) (.mk 10 0 ByteArray.empty ByteArray.empty [] [c])∧okS s)∧exS d y):=fun y hy=>by
  have hy':wtEx d y≤wtCl (wtEx d) c:=by
   have hc:wtCl (wtEx d) c=wtS (wtEx d) c.1+wtS (wtEx d) c.2:=rfl
   rcases hy with hy | hy
   · obtain ⟨q,hq⟩:=List.mem_iff_getElem?.1 hy
     have:=wtS_part (wtEx d) c.1 q y hq;omega
   · obtain ⟨q,hq⟩:=List.mem_iff_getElem?.1 hy
     have:=wtS_part (wtEx d) c.2 q y hq;omega
  have hm:c ∈ [c]:=by simp
  have he:exS d y:=by
   rcases hy with hy | hy
   · exact (hok.2.2 c hm).1 y hy
   · exact (hok.2.2 c hm).2 y hy
  rw [clauseWt_ex] at hwt;exact ⟨by omega,fun s hs=>⟨varL_cl hm hy (allV_sub d y s hs),allV_ok d y he s hs⟩,he⟩
 have G0:Hid (Got (d+1) (.mk 10 0 ByteArray.empty ByteArray.empty [] [c]) []):=⟨by simp [NdK],fun s hs=>by simp at hs,fun s hs=>by simp at hs⟩;have HC:Hid (clauseVars d c=foldV (allV d) (foldV (allV d) [] c.1) c.2):=rfl;rw [HC.out];clear hok HC;obtain ⟨pv,bv,rfl,hp,hb⟩:=h;obtain ⟨P,B⟩:=c;simp only at *;obtain ⟨p,cap,rfl,hcl,hcm,hx⟩:=hp;obtain ⟨pb,capb,rfl,hclb,hcmb,hxb⟩:=hb;have hnp:=sqM hcl hcm;have hnb:B.length≤9223372036854775807:=(by unfold maxLen at hcmb;omega);have HXP:=hid hx;have HXB:=hid hxb;generalize hn:P.length=np at *;have HNP:=hid hn;generalize hn':B.length=nb at *;have HNB:=hid hn';clear hn hn' hx hxb hwt;obtain ⟨W1,hW1⟩:∃ W1,W1=(w.alloc (.cells #[.slice p np cap,.slice pb nb capb] 44)).alloc (.cells #[] 9):=⟨_,rfl⟩;have bA:Hid (Blk W1 w.heap.size #[.slice p np cap,.slice pb nb capb] 44):=(by show Blk _ _ _ _;rw [hW1];exact Blk.new.alloc);have B1:Hid (Bz w W1):=(by show Below _ _ _;rw [hW1];exact ((sqN _ _)).alloc (by simp) _)
 have O0:Hid (OwnS W1 w.heap.size (.slice (some ⟨w.heap.size+1,0,none⟩) 0 0) []):=by
  have:=OwnS.fresh (w:=w.alloc (.cells #[.slice p np cap,.slice pb nb capb] 44));rw [alloc_hs] at this;show OwnS _ _ _ _;rw [hW1];exact this.base (by omega)
 have HW1:=hid hW1;clear hW1;go_enter func18,ntmps18;go_wp2_with fail;rw [← HW1.out]
 go_loopw [3,4] (fun ov iv wr=>∃ k:Nat,k≤np∧iv=.int .i64 k∧Hid (OwnS wr w.heap.size ov (foldV (allV d) [] (P.take k)))∧Hid (Got (d+1) (.mk 10 0 ByteArray.empty ByteArray.empty [] [(P,B)]) (foldV (allV d) [] (P.take k)))∧Hid (Blk wr w.heap.size #[.slice p np cap,.slice pb nb capb] 44)∧Hid (Bz w wr)) (fun _ iv _=>np - (intOf iv).toNat)
 case atStart=>exact ⟨0,Nat.zero_le _,rfl,O0.out,G0.out,bA.out,B1.out⟩
 case round =>
  obtain ⟨k,hk,rfl,ho,hg,hbk,HB⟩:=hrel;obtain ⟨xa0,xa1⟩:=sqB2 hbk.out;by_cases hlt:k<np
  · obtain ⟨x,hxk⟩:∃ x,P[k]?=some x:=⟨P[k]'(by rw [HNP.out];exact hlt),List.getElem?_eq_getElem _⟩
    obtain ⟨g,off,rfl,-,hgl,hat⟩:=HXP.out (sqE hxk);obtain ⟨cs,hcsl,hcs,r1⟩:=hat k x hxk;have E1:∀ w',Bz w w'→HEx w' All d cs x:=fun w' hw=>r1.mono (sqO hw) (fun _ h=>h);obtain ⟨c0,c1,c2,c3,c4,c5,rfl⟩:=len6 hcsl;obtain ⟨a0,a1,a2,a3,a4,a5⟩:=sqC6 hcs (by omega);rw [← HB.out.cell (p:=⟨g,_,none⟩) hgl] at a0 a1 a2 a3 a4 a5;simp at a0 a1 a2 a3 a4 a5;have hki:(k:Int)<(np:Int):=(by omega);have hk0:=sqI k;obtain ⟨wx,sx,ex⟩:=BC.out x (.inl (List.mem_of_getElem? hxk));have GX:=hid (hg.out.once sx);have HJ:Hid (foldV (allV d) [] (P.take (k+1))=onceS (foldV (allV d) [] (P.take k)) (allV d x)):=foldV_snoc _ _ P k x hxk;have lq:=hg.out.len HW.out;have lx:=(allV_got ex).len wx;have OX:Hid (∀ s ∈ allV d x,okS s):=fun s hs=>(sx s hs).2;have OJ:=hid hg.out.ok;generalize hJ0:foldV (allV d) [] (P.take k)=J at *;clear hcs hat hcsl r1 hJ0 hg sx;go_wp2_with fail;refine (hE _ _ x (E1 _ HB.out) wx).mono ?_;rintro e w4 ⟨u4,rfl,ho4,hb4⟩;have HB4:=hid (HB.out.trans (hb4.mono HB.out.size));have SV:Hid (StrV w4 u3 J):=(ho.out.next hb4).strV OJ.out;have SR:=hid (ho4.strR OX.out);have bk4:=hid (hbk.out.next hb4);clear hb4 ho4 xa0 xa1 a0 a1 a2 a3 a4 a5;go_wp2_with fail;refine (once_any _ _ _ J (allV d x) SV.out SR.out (by omega)).mono ?_;rintro e w5 ⟨u5,rfl,ho5,hb5⟩;have HB5:=hid (HB4.out.trans (hb5.mono HB4.out.size));have HO5:=hid (ho5.base HB4.out.size);have bk5:=hid (bk4.out.next hb5);clear hb5 ho5;go_wp2_with fail;exact ⟨⟨k+1,by omega,by go_num,by show OwnS _ _ _ _;rw [HJ.out];exact HO5.out,by show Got _ _ _;rw [HJ.out];exact GX.out,bk5.out,HB5.out⟩,by simp [intOf];omega⟩
  · have HS:Hid (OwnS wr w.heap.size u3 (foldV (allV d) [] P)):=by
     have:=ho.out
     rwa [List.take_of_length_le (by rw [HNP.out];omega)] at this
    have GS:Hid (Got (d+1) (.mk 10 0 ByteArray.empty ByteArray.empty [] [(P,B)]) (foldV (allV d) [] P)):=by
     have:=hg.out
     rwa [List.take_of_length_le (by rw [HNP.out];omega)] at this
    clear ho hg;generalize hP1:foldV (allV d) [] P=P1 at HS GS;have HP1:=hid hP1;clear hP1;go_wp2_with fail
    go_loopw [3,5] (fun ov iv wr=>∃ k:Nat,k≤nb∧iv=.int .i64 k∧Hid (OwnS wr w.heap.size ov (foldV (allV d) P1 (B.take k)))∧Hid (Got (d+1) (.mk 10 0 ByteArray.empty ByteArray.empty [] [(P,B)]) (foldV (allV d) P1 (B.take k)))∧Hid (Blk wr w.heap.size #[.slice p np cap,.slice pb nb capb] 44)∧Hid (Bz w wr)) (fun _ iv _=>nb - (intOf iv).toNat)
    case atStart=>exact ⟨0,Nat.zero_le _,rfl,HS.out,GS.out,hbk.out,HB.out⟩
    case round =>
     obtain ⟨k,hk,rfl,ho,hg,hbk,HB⟩:=hrel;obtain ⟨xa0,xa1⟩:=sqB2 hbk.out;by_cases hlt:k<nb
     · obtain ⟨x,hxk⟩:∃ x,B[k]?=some x:=⟨B[k]'(by rw [HNB.out];exact hlt),List.getElem?_eq_getElem _⟩
       obtain ⟨g,off,rfl,-,hgl,hat⟩:=HXB.out (sqE hxk);obtain ⟨cs,hcsl,hcs,r1⟩:=hat k x hxk;have E1:∀ w',Bz w w'→HEx w' All d cs x:=fun w' hw=>r1.mono (sqO hw) (fun _ h=>h);obtain ⟨c0,c1,c2,c3,c4,c5,rfl⟩:=len6 hcsl;obtain ⟨a0,a1,a2,a3,a4,a5⟩:=sqC6 hcs (by omega);rw [← HB.out.cell (p:=⟨g,_,none⟩) hgl] at a0 a1 a2 a3 a4 a5;simp at a0 a1 a2 a3 a4 a5;have hki:(k:Int)<(nb:Int):=(by omega);have hk0:=sqI k;obtain ⟨wx,sx,ex⟩:=BC.out x (.inr (List.mem_of_getElem? hxk));have GX:=hid (hg.out.once sx);have HJ:Hid (foldV (allV d) P1 (B.take (k+1))=onceS (foldV (allV d) P1 (B.take k)) (allV d x)):=foldV_snoc _ _ B k x hxk;have lq:=hg.out.len HW.out;have lx:=(allV_got ex).len wx;have OX:Hid (∀ s ∈ allV d x,okS s):=fun s hs=>(sx s hs).2;have OJ:=hid hg.out.ok;generalize hJ0:foldV (allV d) P1 (B.take k)=J at *;clear hcs hat hcsl r1 hJ0 hg sx;go_wp2_with fail;refine (hE _ _ x (E1 _ HB.out) wx).mono ?_;rintro e w4 ⟨u4,rfl,ho4,hb4⟩;have HB4:=hid (HB.out.trans (hb4.mono HB.out.size));have SV:Hid (StrV w4 u3 J):=(ho.out.next hb4).strV OJ.out;have SR:=hid (ho4.strR OX.out);have bk4:=hid (hbk.out.next hb4);clear hb4 ho4 xa0 xa1 a0 a1 a2 a3 a4 a5;go_wp2_with fail;refine (once_any _ _ _ J (allV d x) SV.out SR.out (by omega)).mono ?_;rintro e w5 ⟨u5,rfl,ho5,hb5⟩;have HB5:=hid (HB4.out.trans (hb5.mono HB4.out.size));have HO5:=hid (ho5.base HB4.out.size);have bk5:=hid (bk4.out.next hb5);clear hb5 ho5;go_wp2_with fail;exact ⟨⟨k+1,by omega,by go_num,by show OwnS _ _ _ _;rw [HJ.out];exact HO5.out,by show Got _ _ _;rw [HJ.out];exact GX.out,bk5.out,HB5.out⟩,by simp [intOf];omega⟩
     · have HS:Hid (OwnS wr w.heap.size u3 (foldV (allV d) P1 B)):=by
        have:=ho.out
        rwa [List.take_of_length_le (by rw [HNB.out];omega)] at this
       have GS:Hid (Got (d+1) (.mk 10 0 ByteArray.empty ByteArray.empty [] [(P,B)]) (foldV (allV d) P1 B)):=by
        have:=hg.out
        rwa [List.take_of_length_le (by rw [HNB.out];omega)] at this
       clear ho hg;have lz:=GS.out.len HW.out;generalize hP2:foldV (allV d) P1 B=P2 at HS GS lz;have HP2:=hid hP2;clear hP2;go_wp2_with fail;refine (sorted_any wr u3 _ (HS.out.strR GS.out.ok) (by omega)).mono ?_;rintro e w6 ⟨u6,rfl,ho6,hb6⟩;go_wp2_with fail;go_ret;exact ⟨u6,rfl,by rw [HP1.out,HP2.out];exact ho6.base HB.out.size,HB.out.trans (hb6.mono HB.out.size)⟩
def FindR (ms:List Md) (q:Pl) (a b:Int) (ok:Bool):Prop :=
 (ok=false/\fnOf ms q=none)\/(ok=true/\∃ (k j:Nat) (m:Md) (f:Fn'),a=k/\b=j/\ms[k]?=some m/\ms.find? (named q.mod)=some m/\m.funs[j]?=some f/\m.funs.find? (sameR ⟨q.name,q.arity⟩)=some f/\(ms.take k).any (named q.mod)=false/\(m.funs.take j).any (sameR ⟨q.name,q.arity⟩)=false)
def FindE (ms:List Md) (q:Pl) (e:Ending):Prop:=∃ a b ok,e=.returned (.tuple #[.int .i64 a,.int .i64 b,.bool ok])/\FindR ms q a b ok
theorem findI_first {α:Type} {f:α->Bool} {xs:List α} {k:Nat} (h:findI f xs=(k:Nat)):(xs.take k).any f=false:=by
 unfold findI at h
 cases hi:xs.findIdx? f with
 | none=>rw [hi] at h;have h0:(-1:Int)=(k:Nat):=h;omega
 | some k' =>
  rw [hi] at h;simp only [Int.natCast_inj] at h;subst h;rw [List.findIdx?_eq_some_iff_getElem] at hi;obtain ⟨hk,_,hj⟩:=hi;rw [List.any_eq_false];intro y hy;obtain ⟨j,hj'⟩:=List.mem_iff_getElem?.1 hy;rw [List.getElem?_take] at hj'
  split at hj'
  . rename_i hjk
    obtain ⟨h1,rfl⟩:=List.getElem?_eq_some_iff.1 hj'
    simpa using hj j hjk
  . cases hj'
theorem fnOf_at {ms:List Md} {q:Pl} {m:Md} {f:Fn'} (h:ms.find? (named q.mod)=some m) (hf:m.funs.find? (sameR ⟨q.name,q.arity⟩)=some f):fnOf ms q=some f:=by
 simp [fnOf,h,hf]
theorem fnOf_nom {ms:List Md} {q:Pl} (h:ms.any (named q.mod)=false):fnOf ms q=none:=by
 have:ms.find? (named q.mod)=none:=by
  rw [List.find?_eq_none];intro x hx;have:=List.any_eq_false.1 h x hx
  simpa using this
 simp [fnOf,this]
theorem fnOf_nof {ms:List Md} {q:Pl} {m:Md} (h:ms.find? (named q.mod)=some m) (hf:m.funs.any (sameR ⟨q.name,q.arity⟩)=false):fnOf ms q=none:=by
 have:m.funs.find? (sameR ⟨q.name,q.arity⟩)=none:=by
  rw [List.find?_eq_none];intro x hx;have:=List.any_eq_false.1 hf x hx
  simpa using this
 simp [fnOf,h,this]
theorem l07Find_any (d:Nat) (w:World) (v:Value) (ms:List Md) (q:Pl) (h:Rows w All 3 (HMd w All d) v ms) :
 Calls prog 20 #[v,.agg #[.string q.mod,.string q.name,.int .i64 q.arity,.int .i64 q.clause]] w λe w'=>FindE ms q e/\Bz w w':=by
 have HR:Hid (∀ w',Bz w w'->Rows w' All 3 (HMd w' All d) v ms):=λw' hw=>h.mono (sqO hw) sqj (λ_ _ _ h=>h.mono (sqO hw) sqj);obtain ⟨W1,hW1⟩:∃ W1,W1=w.alloc (.cells #[.string q.mod,.string q.name,.int .i64 q.arity,.int .i64 q.clause] 31):=⟨_,rfl⟩;have bA:Hid (Blk W1 w.heap.size #[.string q.mod,.string q.name,.int .i64 q.arity,.int .i64 q.clause] 31):=(by show Blk _ _ _ _;rw [hW1];exact Blk.new);have B1:Hid (Bz w W1):=(by show Below _ _ _;rw [hW1];exact (sqN _ _));have HW1:=hid hW1;have hlw:=bA.out.lt;have y0:=bA.out.cell 0 _ rfl;clear hW1
 rcases findI_cases (named q.mod) ms with ⟨hno,hfi⟩ | ⟨k,x,hyes,hxk,hnx,hfi,hfd⟩
 . have HF:Hid (FindR ms q 0 0 false):=.inl ⟨rfl,fnOf_nom hno⟩
   have CM:Hid (Calls prog 48 #[v,.string q.mod] W1 λe w'=>e=.returned (.int .i64 (-1))/\w'=W1):=by
    have:=l05Mod_any d W1 v ms q.mod (HR.out _ B1.out)
    rwa [hfi] at this
   clear hno hfi h;go_enter func20,ntmps20;go_wp2_with fail;rw [<-HW1.out];refine CM.out.mono ?_;rintro e w2 ⟨rfl,rfl⟩;go_wp2_with fail;exact bodyPost_ret (v:=.tuple #[.int .i64 0,.int .i64 (0),.bool false]) (by simp [results,results20,go_sem]) rfl ⟨⟨0,0,false,rfl,HF.out⟩,B1.out⟩
 . have CM:Hid (Calls prog 48 #[v,.string q.mod] W1 λe w'=>e=.returned (.int .i64 (k:Nat))/\w'=W1):=by
    have:=l05Mod_any d W1 v ms q.mod (HR.out _ B1.out)
    rwa [hfi] at this
   have HK:Hid (ms[k]?=some x/\ms.find? (named q.mod)=some x):=⟨hxk,hfd⟩;obtain ⟨p,cap,rfl,hcl,hcm,hx⟩:=h;obtain ⟨g,off,rfl,-,hgl,hat⟩:=hx (sqE hxk);obtain ⟨cs,hcsl,hcs,hmd⟩:=hat k x hxk;have hlt:k<ms.length:=(List.getElem?_eq_some_iff.1 hxk).1;have hnb:=sqM hcl hcm;have HMD:Hid (∀ w',Bz w w'->HMd w' All d cs x):=λw' hw=>hmd.mono (sqO hw) sqj;obtain ⟨ev,fv,rfl,hxs,f0,f1⟩:=hmd;obtain ⟨pe,ce,rfl,-⟩:=f0;obtain ⟨pf,cf,rfl,-⟩:=f1;obtain ⟨a0,a1,a2⟩:=sqC3 hcs (by omega);rw [<-B1.out.cell (p:=⟨g,_,none⟩) hgl] at a0 a1 a2;simp at a0 a1 a2;have hgw:g<W1.heap.size:=Nat.lt_of_lt_of_le hgl B1.out.size;have qa0:∀ m:Wd (λw'=>SameOn All W1 w'/\Bz w w'),m.val.cell? ⟨g,off+k * 3,none⟩=some (.string x.name):=λm=>(sqK (m.ok.1.2 g trivial hgw)).trans a0;have qa1:∀ m:Wd (λw'=>SameOn All W1 w'/\Bz w w'),m.val.cell? ⟨g,off+k * 3+1,none⟩=some (.slice pe x.exports.length ce):=λm=>(sqK (m.ok.1.2 g trivial hgw)).trans a1;have qa2:∀ m:Wd (λw'=>SameOn All W1 w'/\Bz w w'),m.val.cell? ⟨g,off+k * 3+2,none⟩=some (.slice pf x.funs.length cf):=λm=>(sqK (m.ok.1.2 g trivial hgw)).trans a2;have qx1:∀ mw:Wd (λw'=>SameOn All W1 w'/\Bz w w'),mw.val.cell? ⟨w.heap.size,1,none⟩=some (.string q.name):=λmw=>(sqK (mw.ok.1.2 w.heap.size trivial hlw)).trans (bA.out.cell 1 _ rfl);have qx2:∀ mw:Wd (λw'=>SameOn All W1 w'/\Bz w w'),mw.val.cell? ⟨w.heap.size,2,none⟩=some (.int .i64 q.arity):=λmw=>(sqK (mw.ok.1.2 w.heap.size trivial hlw)).trans (bA.out.cell 2 _ rfl);generalize hn:ms.length=n at *;have hki:(k:Int)<(n:Int):=(by omega);have hk0:=sqI k
   have HFF:Hid (∃ fi:Int,findI (sameR ⟨q.name,q.arity⟩) x.funs=fi/\((fi = -1/\FindR ms q k fi false)\/(∃ j:Nat,fi=j/\FindR ms q k fi true))):=by
    rcases findI_cases (sameR ⟨q.name,q.arity⟩) x.funs with ⟨h1,h2⟩ | ⟨j,f,h1,h2,h3,h4,h5⟩
    . exact ⟨_,rfl,.inl ⟨h2,.inl ⟨rfl,fnOf_nof hfd h1⟩⟩⟩
    . exact ⟨_,rfl,.inr ⟨j,h4,.inr ⟨rfl,k,j,x,f,rfl,h4,hxk,hfd,h2,h5,findI_first hfi,findI_first h4⟩⟩⟩
   obtain ⟨fi,hfe,hfr⟩:=HFF.out;have HFE:=hid hfe;have HFR:=hid hfr;clear hn hfe hfr HFF hyes hxk hnx hfi hfd hcs hat hx hcsl a0 a1 a2;go_enter func20,ntmps20;go_wp2_with fail;rw [<-HW1.out];refine CM.out.mono ?_;rintro e w2 ⟨rfl,rfl⟩;go_wp2_with fail;have hCne:Nonempty (Wd (λw'=>SameOn All w2 w'/\Bz w w')):=⟨⟨w2.drew,⟨sqS,B1.out.drew⟩⟩⟩;refine wp_region_class (λw'=>SameOn All w2 w'/\Bz w w') (by kernel_rfl) (by kernel_rfl) ⟨sqS,B1.out.drew⟩ ?_
   repeat (go_big_quiet_step (first | (rename_i mm;go_at_call 49;refine (l02FindI_any d _ _ x q.name q.arity (HMD.out _ mm.ok.2)).mono ?_;rintro e w1 ⟨rfl,hb1⟩;exact ⟨by rw [HFE.out],⟨⟨w1,⟨(SameOn.trans mm.ok.1 (sqO hb1)),mm.ok.2.trans (hb1.mono mm.ok.2.size)⟩⟩,rfl⟩⟩)))
   refine wpQuiet_nil ?_;rintro _ ⟨mq,rfl⟩;have HB4:=hid mq.ok.2;generalize mq.val=w4 at HB4 ⊢
   rcases HFR.out with ⟨rfl,hr⟩ | ⟨j,rfl,hr⟩
   . have HRR:=hid hr
     clear hr HFR;go_wp2_with fail;exact bodyPost_ret (v:=.tuple #[.int .i64 (k:Nat),.int .i64 (-1),.bool false]) (by simp [results,results20,go_sem]) rfl ⟨⟨k,-1,false,rfl,HRR.out⟩,HB4.out⟩
   . have HRR:=hid hr
     have hj0:¬ (j:Int)<0:=(by omega);have hj1:=sqI j;clear hr HFR;go_wp2_with fail;exact bodyPost_ret (v:=.tuple #[.int .i64 (k:Nat),.int .i64 (j:Nat),.bool true]) (by simp [results,results20,go_sem]) rfl ⟨⟨k,j,true,rfl,HRR.out⟩,HB4.out⟩
def ClR (ms:List Md) (q:Pl) (w:World) (d:Nat) (cs:List Value) (ok:Bool):Prop :=
 (ok=false/\clauseOf ms q=none/\cs = [.slice none 0 0,.slice none 0 0])\/(ok=true/\∃ c,clauseOf ms q=some c/\HCl w All (HEx w All d) cs c)
def ClE (ms:List Md) (q:Pl) (w:World) (d:Nat) (e:Ending):Prop:=∃ pv bv ok,e=.returned (.tuple #[.agg #[pv,bv],.bool ok])/\ClR ms q w d [pv,bv] ok
theorem clauseOf_none {ms:List Md} {q:Pl} (h:fnOf ms q=none):clauseOf ms q=none:=by simp [clauseOf,h]
theorem clauseOf_out {ms:List Md} {q:Pl} {f:Fn'} (h:fnOf ms q=some f) (hi:inB q.clause 0 (f.clauses.length - 1)=false):clauseOf ms q=none:=by simp [clauseOf,h,hi]
theorem clauseOf_in {ms:List Md} {q:Pl} {f:Fn'} {j:Nat} (h:fnOf ms q=some f) (hj:q.clause=j) (hi:inB q.clause 0 (f.clauses.length - 1)=true):clauseOf ms q=f.clauses[j]?:=by
 simp [clauseOf,h,hi];rw [hj];simp
theorem l07Clause_any (d:Nat) (w:World) (v:Value) (ms:List Md) (q:Pl) (h:Rows w All 3 (HMd w All d) v ms) :
 Calls prog 15 #[v,.agg #[.string q.mod,.string q.name,.int .i64 q.arity,.int .i64 q.clause]] w λe w'=>ClE ms q w' d e/\Bz w w':=by
 have HR:Hid (∀ w',Bz w w'->Rows w' All 3 (HMd w' All d) v ms):=λw' hw=>h.mono (sqO hw) sqj (λ_ _ _ h=>h.mono (sqO hw) sqj);obtain ⟨W1,hW1⟩:∃ W1,W1=(w.alloc (.cells #[.string q.mod,.string q.name,.int .i64 q.arity,.int .i64 q.clause] 31)).alloc (.cells #[.slice none 0 0,.slice none 0 0] 44):=⟨_,rfl⟩;have bA:Hid (Blk W1 w.heap.size #[.string q.mod,.string q.name,.int .i64 q.arity,.int .i64 q.clause] 31):=(by show Blk _ _ _ _;rw [hW1];exact Blk.new.alloc)
 have bR:Hid (Blk W1 (w.heap.size+1) #[.slice none 0 0,.slice none 0 0] 44):=by
  show Blk _ _ _ _;rw [hW1];have:=Blk.new (w:=w.alloc (.cells #[.string q.mod,.string q.name,.int .i64 q.arity,.int .i64 q.clause] 31)) (cs:=#[.slice none 0 0,.slice none 0 0]) (t:=44)
  rwa [alloc_hs] at this
 have B1:Hid (Bz w W1):=(by show Below _ _ _;rw [hW1];exact ((sqN _ _)).alloc (by simp) _);have HW1:=hid hW1;have CF:=hid (l07Find_any d W1 v ms q (HR.out _ B1.out));obtain ⟨y0,y1,y2,y3⟩:=sqB4 bA.out;clear hW1;obtain ⟨p,cap,rfl,hcl,hcm,hx⟩:=h;have HX:=hid hx;have HLM:Hid (ms.length<=9223372036854775807):=(by show _<=_;unfold maxLen at hcm;omega);clear hx;go_enter func15,ntmps15;go_wp2_with fail;rw [<-HW1.out];refine CF.out.mono ?_;rintro e w2 ⟨⟨a,b,ok,rfl,hr⟩,hb⟩;have HFR:=hid hr;have B2:=hid (B1.out.trans (hb.mono B1.out.size));have bA2:=hid (bA.out.next hb);have bR2:=hid (bR.out.next hb);have hlw:=bA2.out.lt;clear hr hb y0 y1 y2 y3 bA bR CF HW1 B1
 rcases HFR.out with ⟨rfl,hno⟩ | ⟨rfl,k,j,m,f,rfl,rfl,hxk,hfm,hfk,hff,-,-⟩
 . have HC:Hid (clauseOf ms q=none):=clauseOf_none hno
   clear hno HFR;go_wp2_with fail;have hCne:Nonempty (Wd (λw'=>SameOn All w2 w'/\Bz w w')):=⟨⟨w2.drew,⟨sqS,B2.out.drew⟩⟩⟩;refine wp_region_class (λw'=>SameOn All w2 w'/\Bz w w') (by kernel_rfl) (by kernel_rfl) ⟨sqS,B2.out.drew⟩ ?_
   repeat (go_big_quiet_step (fail))
   refine wpQuiet_nil ?_;rintro _ ⟨mq,rfl⟩;have HB4:=hid mq.ok.2;have HS4:=hid mq.ok.1;generalize mq.val=w4 at HB4 HS4 ⊢;have bR4:=hid (bR2.out.same_on HS4.out);obtain ⟨z0,z1⟩:=sqB2 bR4.out;obtain ⟨f0,f1⟩:=sqF2 bR4.out;go_wp2_with fail;have hz:Bz w ((w4.setCell ⟨w.heap.size+1,0,none⟩ (.slice none 0 0)).setCell ⟨w.heap.size+1,1,none⟩ (.slice none 0 0)):=(HB4.out.setCell (by show _<=_+1;omega) _).setCell (by show _<=_+1;omega) _;have bz:Blk ((w4.setCell ⟨w.heap.size+1,0,none⟩ (.slice none 0 0)).setCell ⟨w.heap.size+1,1,none⟩ (.slice none 0 0)) (w.heap.size+1) #[.slice none 0 0,.slice none 0 0] 44:=(bR4.out.same rfl).same rfl;clear z0 z1;obtain ⟨z0,z1⟩:=sqB2 bz;exact bodyPost_ret (v:=.tuple #[.agg #[.slice none 0 0,.slice none 0 0],.bool false]) (by simp [results,results15,go_sem,z0,z1]) rfl ⟨⟨_,_,false,rfl,.inl ⟨rfl,HC.out,rfl⟩⟩,hz⟩
 . have HFN:Hid (fnOf ms q=some f):=fnOf_at hfm hff
   obtain ⟨g,off,rfl,-,hgl,hat⟩:=HX.out (sqE hxk);obtain ⟨cs,hcsl,hcs,ev,fv,rfl,hxs,f0,f1⟩:=hat k m hxk;obtain ⟨pe,ce,rfl,-⟩:=f0;obtain ⟨pf,cf,rfl,hclf,hcmf,hxf⟩:=f1;obtain ⟨gf,of,rfl,-,hgf,hatf⟩:=hxf (sqE hfk);obtain ⟨fcs,hfl,hfcs,cv,rfl,-,-,hcv⟩:=hatf j f hfk;obtain ⟨pc,cc,rfl,hclc,hcmc,hxc⟩:=hcv;have a2:=hcs 2 (by omega);have e2:=hfcs 2 (by omega);rw [<-B2.out.cell (p:=⟨g,_,none⟩) hgl] at a2;rw [<-B2.out.cell (p:=⟨gf,_,none⟩) hgf] at e2;simp at a2 e2;have hgw:g<w2.heap.size:=Nat.lt_of_lt_of_le hgl B2.out.size;have hgfw:gf<w2.heap.size:=Nat.lt_of_lt_of_le hgf B2.out.size;have qa2:∀ m':Wd (λw'=>SameOn All w2 w'/\Bz w w'),m'.val.cell? ⟨g,off+k * 3+2,none⟩=some (.slice (some ⟨gf,of,none⟩) m.funs.length cf):=λm'=>(sqK (m'.ok.1.2 g trivial hgw)).trans a2;have qe2:∀ m':Wd (λw'=>SameOn All w2 w'/\Bz w w'),m'.val.cell? ⟨gf,of+j * 3+2,none⟩=some (.slice pc f.clauses.length cc):=λm'=>(sqK (m'.ok.1.2 gf trivial hgfw)).trans e2;have qx3:∀ m':Wd (λw'=>SameOn All w2 w'/\Bz w w'),m'.val.cell? ⟨w.heap.size,3,none⟩=some (.int .i64 q.clause):=λm'=>(sqK (m'.ok.1.2 w.heap.size trivial hlw)).trans (bA2.out.cell 3 _ rfl);have hki:(k:Int)<(ms.length:Int):=(by have:=(List.getElem?_eq_some_iff.1 hxk).1;omega);have hk0:=sqI k;have hji:(j:Int)<(m.funs.length:Int):=(by have:=(List.getElem?_eq_some_iff.1 hfk).1;omega);have hj0:=sqI j;have hlm:=HLM.out;have hlf:m.funs.length<=9223372036854775807:=(by unfold maxLen at hcmf;omega);have hlc:f.clauses.length<=9223372036854775807:=(by unfold maxLen at hcmc;omega);generalize hn:ms.length=n at *;generalize hnf:m.funs.length=nf at *;generalize hnc:f.clauses.length=nc at *;have HNC:=hid hnc;clear hn hnf hnc hcs hat hcsl hatf hfcs hfl HFR hxf
   cases hin:inB q.clause 0 ((nc:Int) - 1) with
   | false =>
    have CI:Hid (∀ w',Calls prog 40 #[.int .i64 q.clause,.int .i64 0,.int .i64 ((nc:Int) - 1)] w' λe w''=>e=.returned (.bool false)/\w''=w'):=λw'=>by
     have:=l01In_any q.clause 0 ((nc:Int) - 1) w'
     rwa [hin] at this
    have HC:=hid (clauseOf_out HFN.out (by rw [HNC.out];exact hin));clear hin;go_wp2_with fail;have hCne:Nonempty (Wd (λw'=>SameOn All w2 w'/\Bz w w')):=⟨⟨w2.drew,⟨sqS,B2.out.drew⟩⟩⟩;refine wp_region_class (λw'=>SameOn All w2 w'/\Bz w w') (by kernel_rfl) (by kernel_rfl) ⟨sqS,B2.out.drew⟩ ?_
    repeat (go_big_quiet_step (first | (rename_i mm;go_at_call 40;refine (CI.out _).mono ?_;rintro e w1 ⟨rfl,rfl⟩;exact ⟨rfl,⟨mm,rfl⟩⟩)))
    refine wpQuiet_nil ?_;rintro _ ⟨mq,rfl⟩;have HB4:=hid mq.ok.2;have HS4:=hid mq.ok.1;generalize mq.val=w4 at HB4 HS4 ⊢;have bR4:=hid (bR2.out.same_on HS4.out);obtain ⟨z0,z1⟩:=sqB2 bR4.out;obtain ⟨f0,f1⟩:=sqF2 bR4.out;go_wp2_with fail;have hz:Bz w ((w4.setCell ⟨w.heap.size+1,0,none⟩ (.slice none 0 0)).setCell ⟨w.heap.size+1,1,none⟩ (.slice none 0 0)):=(HB4.out.setCell (by show _<=_+1;omega) _).setCell (by show _<=_+1;omega) _;have bz:Blk ((w4.setCell ⟨w.heap.size+1,0,none⟩ (.slice none 0 0)).setCell ⟨w.heap.size+1,1,none⟩ (.slice none 0 0)) (w.heap.size+1) #[.slice none 0 0,.slice none 0 0] 44:=(bR4.out.same rfl).same rfl;clear z0 z1;obtain ⟨z0,z1⟩:=sqB2 bz;exact bodyPost_ret (v:=.tuple #[.agg #[.slice none 0 0,.slice none 0 0],.bool false]) (by simp [results,results15,go_sem,z0,z1]) rfl ⟨⟨_,_,false,rfl,.inl ⟨rfl,HC.out,rfl⟩⟩,hz⟩
   | true =>
    have hin2:=hin;simp only [inB,decide_eq_true_eq] at hin2;obtain ⟨i,hi⟩:∃ i:Nat,q.clause=i:=⟨q.clause.toNat,by omega⟩;obtain ⟨c,hck⟩:∃ c,f.clauses[i]?=some c:=⟨f.clauses[i]'(by rw [HNC.out];omega),List.getElem?_eq_getElem _⟩
    have HC:Hid (clauseOf ms q=some c):=by
     show _=_;rw [clauseOf_in HFN.out hi (by rw [HNC.out];exact hin)];exact hck
    obtain ⟨gc,oc,rfl,-,hgc,hatc⟩:=hxc (sqE hck);obtain ⟨ccs,hccl,hccs,hcl0⟩:=hatc i c hck;have HCL:Hid (∀ w',Bz w w'->HCl w' All (HEx w' All d) ccs c):=λw' hw=>hcl0.mono (sqO hw) sqj (λ_ _ h=>h.mono (sqO hw) sqj);obtain ⟨pv,bv,rfl,hpv,hbv⟩:=hcl0;obtain ⟨ppv,cpv,rfl,-⟩:=hpv;obtain ⟨pbv,cbv,rfl,-⟩:=hbv;obtain ⟨c0,c1⟩:=sqC2 hccs (by omega);have hgcw:gc<w2.heap.size:=Nat.lt_of_lt_of_le hgc B2.out.size;rw [<-B2.out.cell (p:=⟨gc,_,none⟩) hgc] at c0 c1;simp at c0 c1;have hii:(i:Int)<(nc:Int):=(by omega);have hi0:=sqI i
    have CI:Hid (∀ w',Calls prog 40 #[.int .i64 i,.int .i64 0,.int .i64 ((nc:Int) - 1)] w' λe w''=>e=.returned (.bool true)/\w''=w'):=λw'=>by
     have:=l01In_any (i:Int) 0 ((nc:Int) - 1) w';rw [hi] at hin
     rwa [hin] at this
    rw [hi] at qx3;clear hin hin2 hatc hccs hccl hxc hck;go_wp2_with fail;have hCne:Nonempty (Wd (λw'=>SameOn All w2 w'/\Bz w w')):=⟨⟨w2.drew,⟨sqS,B2.out.drew⟩⟩⟩;refine wp_region_class (λw'=>SameOn All w2 w'/\Bz w w') (by kernel_rfl) (by kernel_rfl) ⟨sqS,B2.out.drew⟩ ?_
    repeat (go_big_quiet_step (first | (rename_i mm;go_at_call 40;refine (CI.out _).mono ?_;rintro e w1 ⟨rfl,rfl⟩;exact ⟨rfl,⟨mm,rfl⟩⟩)))
    refine wpQuiet_nil ?_;rintro _ ⟨mq,rfl⟩;have HB4:=hid mq.ok.2;have HS4:=hid mq.ok.1;generalize mq.val=w4 at HB4 HS4 ⊢;have bR4:=hid (bR2.out.same_on HS4.out);obtain ⟨z0,z1⟩:=sqB2 bR4.out;obtain ⟨f0,f1⟩:=sqF2 bR4.out;have k2:=(sqK (HS4.out.2 g trivial hgw)).trans a2;have k3:=(sqK (HS4.out.2 gf trivial hgfw)).trans e2;have k4:=(sqK (HS4.out.2 gc trivial hgcw)).trans c0;have k5:=(sqK (HS4.out.2 gc trivial hgcw)).trans c1;have k6:=(sqK (HS4.out.2 w.heap.size trivial hlw)).trans (bA2.out.cell 3 _ rfl);clear qa2 qe2 qx3 a2 e2 c0 c1;have ne1:w.heap.size+1≠g:=(by omega);have ne2:w.heap.size+1≠gf:=(by omega);have ne3:w.heap.size+1≠gc:=(by omega);have ne4:w.heap.size+1≠w.heap.size:=(by omega);rw [hi] at k6;go_wp2_with fail
    go_region_held3 (λw'=>w'.cell? ⟨g,off+k * 3+2,none⟩=some (.slice (some ⟨gf,of,none⟩) nf cf)/\w'.cell? ⟨gf,of+j * 3+2,none⟩=some (.slice (some ⟨gc,oc,none⟩) nc cc)/\w'.cell? ⟨gc,oc+i * 2,none⟩=some (.slice ppv c.1.length cpv)/\w'.cell? ⟨gc,oc+i * 2+1,none⟩=some (.slice pbv c.2.length cbv)/\w'.cell? ⟨w.heap.size,3,none⟩=some (.int .i64 i))
     (go_keep) (fail)
    go_split_ands;go_wp2_with fail;have hz:Bz w ((w4.setCell ⟨w.heap.size+1,0,none⟩ (.slice ppv c.1.length cpv)).setCell ⟨w.heap.size+1,1,none⟩ (.slice pbv c.2.length cbv)).drew:=((HB4.out.setCell (by show _<=_+1;omega) _).setCell (by show _<=_+1;omega) _).drew;have bz:Blk ((w4.setCell ⟨w.heap.size+1,0,none⟩ (.slice ppv c.1.length cpv)).setCell ⟨w.heap.size+1,1,none⟩ (.slice pbv c.2.length cbv)).drew (w.heap.size+1) #[.slice ppv c.1.length cpv,.slice pbv c.2.length cbv] 44:=(bR4.out.same rfl).same rfl;obtain ⟨y0,y1⟩:=sqB2 bz;exact bodyPost_ret (v:=.tuple #[.agg #[.slice ppv c.1.length cpv,.slice pbv c.2.length cbv],.bool true]) (by simp [results,results15,go_sem,y0,y1]) rfl ⟨⟨_,_,true,rfl,.inr ⟨rfl,c,HC.out,HCL.out _ hz⟩⟩,hz⟩
theorem fnOf_no {ms:List Md} {q:Pl} (h:ms.any (hasAt q)=false):fnOf ms q=none:=by
 unfold fnOf
 cases hf:ms.find? (named q.mod) with
 | none=>rfl
 | some m =>
  have hm:=List.mem_of_find?_eq_some hf;have hn:=List.find?_some hf;have h1:=List.any_eq_false.1 h m hm;simp only [hasAt,hn,Bool.true_and,Bool.not_eq_true] at h1;show m.funs.find? _=none;rw [List.find?_eq_none];intro x hx;have:=List.any_eq_false.1 h1 x hx
  simpa using this
def OneName (ms:List Md):Prop:=∀ (s:ByteArray) (k:Nat) (m:Md),ms[k]?=some m->named s m=true->ms.find? (named s)=some m
theorem FunP.fn {d:Nat} {ms:List Md} {q:Pl} {v:Value} {w:World} {gf o k j:Nat} {m:Md} {f:Fn'} (h:FunP d ms q v w gf o k j m f) (hu:OneName ms):fnOf ms q=some f :=
 fnOf_at (hu _ k m h.at_k h.nm) h.first
theorem less_chain:∀ {a b c:List UInt8},Op.bytesLess a b=true->Op.bytesLess b c=true->Op.bytesLess a c=true
 | [],[],_,h,_=>by simp [Op.bytesLess] at h
 | _ :: _,[],_,h,_=>by simp [Op.bytesLess] at h
 | _,_ :: _,[],_,h=>by simp [Op.bytesLess] at h
 | [],_ :: _,_ :: _,_,_=>rfl
 | x :: a,y :: b,z :: c,h,k=>by
  simp only [Op.bytesLess,Bool.or_eq_true,decide_eq_true_eq,Bool.and_eq_true,beq_iff_eq] at h k ⊢;rw [UInt8.lt_iff_toNat_lt] at h k ⊢
  rcases h with h | ⟨rfl,h⟩ <;> rcases k with k | ⟨rfl,k⟩
  . left;omega
  . left;exact h
  . left;exact k
  . exact Or.inr ⟨rfl,less_chain h k⟩
theorem less_self:∀ (a:List UInt8),Op.bytesLess a a=false
 | []=>by simp [Op.bytesLess]
 | x :: a=>by simp [Op.bytesLess,less_self a]
theorem pgOk_less {d:Nat} {ms:List Md} (h:pgOk d ms=true) {j:Nat} {b:Md}:∀ {i:Nat} {a:Md},i<j->ms[i]?=some a->ms[j]?=some b->Op.bytesLess a.name.toList b.name.toList=true:=by
 intro i a hij hi hj
 have hall:∀ k,k<ms.length->mdsAt d ms k=true:=by
  simp only [pgOk,Bool.and_eq_true,List.all_eq_true] at h;exact λk hk=>h.2 k (List.mem_range.2 hk)
 induction j generalizing b with
 | zero=>omega
 | succ j ih =>
  have hl:=(List.getElem?_eq_some_iff.1 hj).1;obtain ⟨c,hc⟩:∃ c,ms[j]?=some c:=⟨ms[j]'(by omega),List.getElem?_eq_getElem _⟩;have h1:=hall (j+1) hl;rw [mdsAt_succ hc hj,Bool.and_eq_true] at h1;by_cases hij':i=j
  . subst hij'
    obtain rfl:=Option.some.inj (hc.symm.trans hi);exact h1.2
  . exact less_chain (ih (by omega) hc) h1.2
theorem pgOk_one {d:Nat} {ms:List Md} (h:pgOk d ms=true):OneName ms:=by
 intro s k m hk hn;obtain ⟨hl,he⟩:=List.getElem?_eq_some_iff.1 hk;rw [List.find?_eq_some_iff_getElem];refine ⟨hn,k,hl,he,λj hj=>?_⟩;have hj':ms[j]?=some ms[j]:=List.getElem?_eq_getElem _;have h1:=pgOk_less h hj hj' hk
 cases hq:named s ms[j] with
 | false=>rfl
 | true =>
  have e1:ms[j].name.toList=s.toList:=(by simpa [named] using hq);have e2:m.name.toList=s.toList:=(by simpa [named] using hn);rw [e1,e2,less_self] at h1
  cases h1
def ClP (d:Nat) (ms:List Md) (q:Pl) (v:Value) (w:World) (gc o:Nat) (c:Cl):Prop :=
 ∃ gf og k j m f,FunP d ms q v w gf og k j m f/\∃ (i oc cc:Nat),q.clause=i/\f.clauses[i]?=some c/\gc<w.heap.size/\w.cell? ⟨gf,og+2,none⟩=some (.slice (some ⟨gc,oc,none⟩) f.clauses.length cc)/\o=oc+i * 2 /\
  ∃ cs,cs.length=2/\(∀ i,i<2->w.cell? ⟨gc,o+i,none⟩=cs[i]?)/\HCl w All (HEx w All d) cs c
def ClQ (d:Nat) (ms:List Md) (q:Pl) (v:Value) (w:World) (e:Ending):Prop :=
 (e=.returned (.pointer none)/\clauseOf ms q=none)\/∃ gc o c,e=.returned (.pointer (some ⟨gc,o,none⟩))/\clauseOf ms q=some c/\ClP d ms q v w gc o c
theorem FunP.same {d:Nat} {ms:List Md} {q:Pl} {v:Value} {w w':World} {gf o k j:Nat} {m:Md} {f:Fn'} (h:FunP d ms q v w gf o k j m f) (hb:SameOn All w w'):FunP d ms q v w' gf o k j m f:=by
 obtain ⟨g,off,cap,of,cf,h1,h2,h3⟩:=h.lies;obtain ⟨cs,c1,c2,c3⟩:=h.is
 have hgl:g<w.heap.size:=by
  unfold World.cell? at h2
  split at h2
  . rename_i heq;exact (Array.getElem?_eq_some_iff.1 heq).1
  . cases h2
 refine ⟨h.at_k,h.nm,h.at_j,h.first,h.before,Nat.lt_of_lt_of_le h.lt hb.1,⟨g,off,cap,of,cf,h1,(sqK (hb.2 g trivial hgl)).trans h2,h3⟩,⟨cs,c1,λi hi=>(sqK (hb.2 gf trivial h.lt)).trans (c2 i hi),c3.mono hb sqj⟩⟩
theorem clauseAt_any (d:Nat) (w:World) (v:Value) (ms:List Md) (q:Pl) (h:Rows w All 3 (HMd w All d) v ms) (hu:OneName ms) :
 Calls prog 26 #[v,.agg #[.string q.mod,.string q.name,.int .i64 q.arity,.int .i64 q.clause]] w λe w'=>ClQ d ms q v w' e/\Bz w w':=by
 have HU:=hid hu;have HR:Hid (∀ w',Bz w w'->Rows w' All 3 (HMd w' All d) v ms):=λw' hw=>h.mono (sqO hw) sqj (λ_ _ _ h=>h.mono (sqO hw) sqj);obtain ⟨W1,hW1⟩:∃ W1,W1=w.alloc (.cells #[.string q.mod,.string q.name,.int .i64 q.arity,.int .i64 q.clause] 31):=⟨_,rfl⟩;have bA:Hid (Blk W1 w.heap.size #[.string q.mod,.string q.name,.int .i64 q.arity,.int .i64 q.clause] 31):=(by show Blk _ _ _ _;rw [hW1];exact Blk.new);have B1:Hid (Bz w W1):=(by show Below _ _ _;rw [hW1];exact (sqN _ _));have HW1:=hid hW1;have CF:=hid (funAt_any d W1 v ms q (HR.out _ B1.out));obtain ⟨y0,y1,y2,y3⟩:=sqB4 bA.out;obtain ⟨p,cap,rfl,-⟩:=h;clear hW1 hu;go_enter func26,ntmps26;go_wp2_with fail;rw [<-HW1.out];refine CF.out.mono ?_;rintro e w2 ⟨hr,hb⟩;have B2:=hid (B1.out.trans (hb.mono B1.out.size));have bA2:=hid (bA.out.next hb);have hlw:=bA2.out.lt;clear hb y0 y1 y2 y3 bA CF HW1 B1
 rcases hr with ⟨rfl,hno⟩ | ⟨gf,og,k,j,m,f,rfl,hP⟩
 . have HC:Hid (clauseOf ms q=none):=clauseOf_none (fnOf_no hno)
   clear hno;go_wp2_with fail;have hCne:Nonempty (Wd (λw'=>SameOn All w2 w'/\Bz w w')):=⟨⟨w2.drew,⟨sqS,B2.out.drew⟩⟩⟩;refine wp_region_class (λw'=>SameOn All w2 w'/\Bz w w') (by kernel_rfl) (by kernel_rfl) ⟨sqS,B2.out.drew⟩ ?_
   repeat (go_big_quiet_step (fail))
   refine wpQuiet_nil ?_;rintro _ ⟨mq,rfl⟩;have HB4:=hid mq.ok.2;have HS4:=hid mq.ok.1;generalize mq.val=w4 at HB4 HS4 ⊢;go_wp2;go_ret;exact ⟨.inl ⟨rfl,HC.out⟩,HB4.out⟩
 . have HFN:Hid (fnOf ms q=some f):=hP.fn HU.out
   have HP:=hid hP;obtain ⟨fcs,hfl,hfcs,cv,rfl,-,-,hcv⟩:=hP.is;obtain ⟨pc,cc,rfl,hclc,hcmc,hxc⟩:=hcv;have hgfw:=hP.lt;have e2:=hfcs 2 (by omega);simp at e2;have qe2:∀ m':Wd (λw'=>SameOn All w2 w'/\Bz w w'),m'.val.cell? ⟨gf,og+2,none⟩=some (.slice pc f.clauses.length cc):=λm'=>(sqK (m'.ok.1.2 gf trivial hgfw)).trans e2;have qx3:∀ m':Wd (λw'=>SameOn All w2 w'/\Bz w w'),m'.val.cell? ⟨w.heap.size,3,none⟩=some (.int .i64 q.clause):=λm'=>(sqK (m'.ok.1.2 w.heap.size trivial hlw)).trans (bA2.out.cell 3 _ rfl);have hlc:f.clauses.length<=9223372036854775807:=(by unfold maxLen at hcmc;omega);generalize hnc:f.clauses.length=nc at *;have HNC:=hid hnc;clear hnc hfcs hfl hP
   cases hin:inB q.clause 0 ((nc:Int) - 1) with
   | false =>
    have CI:Hid (∀ w',Calls prog 61 #[.int .i64 q.clause,.int .i64 0,.int .i64 ((nc:Int) - 1)] w' λe w''=>e=.returned (.bool false)/\w''=w'):=λw'=>by
     have:=withinM_any q.clause 0 ((nc:Int) - 1) w'
     rwa [hin] at this
    have HC:=hid (clauseOf_out HFN.out (by rw [HNC.out];exact hin));clear hin;go_wp2_with fail;have hCne:Nonempty (Wd (λw'=>SameOn All w2 w'/\Bz w w')):=⟨⟨w2.drew,⟨sqS,B2.out.drew⟩⟩⟩;refine wp_region_class (λw'=>SameOn All w2 w'/\Bz w w') (by kernel_rfl) (by kernel_rfl) ⟨sqS,B2.out.drew⟩ ?_
    repeat (go_big_quiet_step ((rename_i mm;go_at_call 61;refine (CI.out _).mono ?_;rintro e w1 ⟨rfl,rfl⟩;exact ⟨rfl,⟨mm,rfl⟩⟩)))
    refine wpQuiet_nil ?_;rintro _ ⟨mq,rfl⟩;have HB4:=hid mq.ok.2;have HS4:=hid mq.ok.1;generalize mq.val=w4 at HB4 HS4 ⊢;go_wp2;go_ret;exact ⟨.inl ⟨rfl,HC.out⟩,HB4.out⟩
   | true =>
    have hin2:=hin;simp only [inB,decide_eq_true_eq] at hin2;obtain ⟨i,hi⟩:∃ i:Nat,q.clause=i:=⟨q.clause.toNat,by omega⟩
    have CI:Hid (∀ w',Calls prog 61 #[.int .i64 i,.int .i64 0,.int .i64 ((nc:Int) - 1)] w' λe w''=>e=.returned (.bool true)/\w''=w'):=λw'=>by
     have:=withinM_any (i:Int) 0 ((nc:Int) - 1) w';rw [hi] at hin
     rwa [hin] at this
    obtain ⟨c,hck⟩:∃ c,f.clauses[i]?=some c:=⟨f.clauses[i]'(by rw [HNC.out];omega),List.getElem?_eq_getElem _⟩
    have HC:Hid (clauseOf ms q=some c):=by
     show _=_;rw [clauseOf_in HFN.out hi (by rw [HNC.out];exact hin)];exact hck
    obtain ⟨gc,oc,rfl,-,hgc,hatc⟩:=hxc (sqE hck);obtain ⟨ccs,hccl,hccs,hcl0⟩:=hatc i c hck;have HCL:Hid (∃ cs,cs.length=2/\(∀ i',i'<2->w2.cell? ⟨gc,oc+i * 2+i',none⟩=cs[i']?)/\HCl w2 All (HEx w2 All d) cs c):=⟨ccs,hccl,hccs,hcl0⟩;have HE2:Hid (w2.cell? ⟨gf,og+2,none⟩=some (.slice (some ⟨gc,oc,none⟩) f.clauses.length cc)):=(by show _=_;rw [HNC.out];exact e2);have HCK:=hid hck;have HGC:=hid hgc;have HQI:=hid hi;have hii:(i:Int)<(nc:Int):=(by omega);have hi0:=sqI i;rw [hi] at qx3;clear hin hin2 hatc hccs hccl hxc hck hcl0 e2;go_wp2_with fail;have hCne:Nonempty (Wd (λw'=>SameOn All w2 w'/\Bz w w')):=⟨⟨w2.drew,⟨sqS,B2.out.drew⟩⟩⟩;refine wp_region_class (λw'=>SameOn All w2 w'/\Bz w w') (by kernel_rfl) (by kernel_rfl) ⟨sqS,B2.out.drew⟩ ?_
    repeat (go_big_quiet_step ((rename_i mm;go_at_call 61;refine (CI.out _).mono ?_;rintro e w1 ⟨rfl,rfl⟩;exact ⟨rfl,⟨mm,rfl⟩⟩)))
    refine wpQuiet_nil ?_;rintro _ ⟨mq,rfl⟩;have HB4:=hid mq.ok.2;have HS4:=hid mq.ok.1;generalize mq.val=w4 at HB4 HS4 ⊢;have S4:=HS4.out;go_wp2_with fail;have hCne2:Nonempty (Wd (λw'=>SameOn All w2 w'/\Bz w w')):=⟨⟨w4.drew,⟨HS4.out,HB4.out.drew⟩⟩⟩;refine wp_region_class (λw'=>SameOn All w2 w'/\Bz w w') (by kernel_rfl) (by kernel_rfl) ⟨HS4.out,HB4.out.drew⟩ ?_
    repeat (go_big_quiet_step (fail))
    refine wpQuiet_nil ?_;rintro _ ⟨mq,rfl⟩;have HB5:=hid mq.ok.2;have HS5:=hid mq.ok.1;generalize mq.val=w5 at HB5 HS5 ⊢;go_wp2_with fail;go_ret;have hb5:=HS5.out;obtain ⟨cs,k1,k2,k3⟩:=HCL.out;refine ⟨.inr ⟨gc,oc+i * 2,c,rfl,HC.out,gf,og,k,j,m,f,HP.out.same HS5.out,i,oc,cc,HQI.out,HCK.out,Nat.lt_of_lt_of_le HGC.out HS5.out.1,(sqK (HS5.out.2 gf trivial hgfw)).trans HE2.out,rfl,cs,k1,λi' hi'=>(sqK (HS5.out.2 gc trivial HGC.out)).trans (k2 i' hi'),k3.mono HS5.out sqj (λ_ _ h=>h.mono HS5.out sqj)⟩,HB5.out⟩
end
end Go.Proofs.YtbdhpganbbandaaGreatDoor
