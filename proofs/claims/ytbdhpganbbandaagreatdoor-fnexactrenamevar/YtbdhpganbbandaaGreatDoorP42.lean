/-
  LooseImpl
-/
import Derived.Test.YtbdhpganbbandaaGreatDoorP41
import Derived.Test.YtbdhpganbbandaaGreatDoorP30
set_option maxHeartbeats 16000000
set_option linter.unusedVariables false
set_option maxRecDepth 100000
namespace Go.Proofs.YtbdhpganbbandaaGreatDoor
open Go.ChangeShapes Go.WideShapes Go.ChangeAt Go.RowKit
section
open Go.Maps Go.WideMaps Go.Proofs.Tryz
theorem SetAt.len {w:World} {mb n:Nat} {S:List UInt8->Prop} (h:SetAt w mb n S):∃ k:Nat,k<=n/\(∀ ty,(Builtin.len_ #[162] ty #[.map (some mb)]).run prog w=.ok (goInt k) w)/\(0<k ↔ ∃ z,S z):=by
 obtain ⟨D,hm,hD,hh⟩:=h;obtain ⟨es,clock,hes,-,hsz,rfl⟩:=hm
 have h2:∀ (q:List (Lit × DataW Unit)),(q.foldr DataW.insert []).length=q.length:=λq=>by
  induction q with
  | nil=>rfl
  | cons x xs ih=>rw [List.foldr_cons,DataW.length_insert,ih];rfl
 refine ⟨es.size,hsz,λty=>run_len_map (w:=w) 162 ty mb es clock underlying162 hes,?_⟩;generalize hq:(es.toList.map _)=q at hD hh;have hql:(q.foldr DataW.insert []).length=es.size:=(by rw [h2,<-hq,List.length_map,Array.length_toList]);have hk:=hD.keys _ rfl;generalize q.foldr DataW.insert []=l at hql hk hh
 constructor
 . intro h0
   cases l with
   | nil=>simp at hql;omega
   | cons p ps =>
    obtain ⟨⟨x,hx⟩,-⟩:=hk p (by simp);refine ⟨x,(hh x).1 ?_⟩;rw [has_eq,List.any_eq_true];exact ⟨p,by simp,by rw [hx];exact WideAt.sameKey_self trivial⟩
 . rintro ⟨z,hz⟩
   have:=(hh z).2 hz;rw [has_eq,List.any_eq_true] at this;obtain ⟨p,hp,-⟩:=this;have:=List.length_pos_of_mem hp;omega
theorem isLoose_any (d:Nat) (w:World) (cs:List Value) (c:Cl) (h:HCl w All (HEx w All d) cs c) (hok:clOkD d c) (hcnt:(clVarL d c).length<=33554432) :
 Calls prog 142 #[.agg cs.toArray] w λe w'=>e=.returned (.bool (looseB d c))/\Bz w w':=by
 have HH:Hid (∀ w',Bz w w'->HCl w' All (HEx w' All d) cs c):=λw' hb=>HCl.mono h (sqO hb) sqj (λ_ _ h=>h.mono (sqO hb) sqj);obtain ⟨pv,bv,rfl,rp,rb⟩:=h;obtain ⟨pp,capp,rfl,-⟩:=rp;obtain ⟨pb,capb,rfl,-⟩:=rb;have HBC:Hid (Bz w (w.alloc (.cells #[.slice pp c.1.length capp,.slice pb c.2.length capb] 44))):=(sqN _ _);go_enter func142,ntmps142;go_wp2_with fail;refine (wantedBy_all d _ _ c (HH.out _ HBC.out) hok hcnt).mono ?_;rintro e w1 ⟨mb,rfl,-,hs,hb⟩;obtain ⟨k,hk,hlen,hz⟩:=hs.len;have B1:Hid (Bz w w1):=HBC.out.trans (hb.mono HBC.out.size)
 have HL:Hid (looseB d c=decide (0<k)):=by
  show _=_;by_cases h0:0<k
  . rw [decide_eq_true h0];exact (looseB_in d c).2 (hz.1 h0)
  . rw [decide_eq_false h0]
    cases hl:looseB d c with
    | false=>rfl
    | true=>exact absurd (hz.2 ((looseB_in d c).1 hl)) h0
 have hk2:k<=33554432:=(by omega);clear hs hb hz hk HH;go_wp2_with fail;go_ret;refine ⟨?_,B1.out⟩;rw [HL.out];by_cases h0:0<k
 . simp [h0]
 . simp [h0]
theorem idx_any (d:Nat) (w:World) (v:Value) (cl:List Cl) (h:Rows w All 2 (HCl w All (HEx w All d)) v cl) (hok:∀ c ∈ cl,clOkD d c) (hcnt:∀ c ∈ cl,(clVarL d c).length<=33554432) :
 Calls prog 169 #[v,.func (.func 142) #[] #[]] w λe w'=>(∃ z:Int,e=.returned (.int .i64 z)/\-1<=z/\decide (0<=z)=cl.any (looseB d))/\Bz w w':=by
 have HR:=hid h;obtain ⟨p,cap,rfl,hcl,hcm,-⟩:=id h;have hnb:=sqM hcl hcm;have HOK:=hid hok;have HC:=hid hcnt;generalize hn:cl.length=nc at *;have HN:=hid hn;clear h hok hcnt hn;go_enter func169,ntmps169;go_wp2_with fail
 go_loopw [8] (λiv wr=>∃ k:Nat,k<=nc/\iv=.int .i64 k/\Hid ((cl.take k).any (looseB d)=false)/\Hid (Bz w wr)) (λiv _=>nc - (intOf iv).toNat)
 case atStart=>exact ⟨0,Nat.zero_le _,rfl,by show _=_;simp,Below.refl _ _⟩
 case round =>
  obtain ⟨k,hk,rfl,HA,HB⟩:=hrel;by_cases hlt:k<nc
  . obtain ⟨c,hck⟩:=sqA (l:=cl) (k:=k) HN.out hlt
    obtain ⟨p',cap',hv,-,-,hx⟩:=HR.out;simp only [Value.slice.injEq] at hv;obtain ⟨rfl,-,rfl⟩:=hv;obtain ⟨g,off,rfl,-,hgl,hat⟩:=hx (sqE hck);obtain ⟨cs,hcsl,hcs,r1⟩:=hat k c hck;have E1:Hid (HCl wr All (HEx wr All d) cs c):=HCl.mono r1 (sqO HB.out) sqj (λ_ _ h=>h.mono (sqO HB.out) sqj);obtain ⟨pv,bv,rfl,rp,rb⟩:=r1;obtain ⟨pp,capp,rfl,-⟩:=rp;obtain ⟨pb,capb,rfl,-⟩:=rb;obtain ⟨a0,a1⟩:=sqC2 hcs (by omega);rw [<-HB.out.cell (p:=⟨g,_,none⟩) hgl] at a0 a1;simp at a0 a1;have HOKc:Hid (clOkD d c):=HOK.out c (List.mem_of_getElem? hck);have HCc:Hid ((clVarL d c).length<=33554432):=HC.out c (List.mem_of_getElem? hck)
    have HT:Hid (looseB d c=true->cl.any (looseB d)=true):=λh=>by rw [List.any_eq_true];exact ⟨c,List.mem_of_getElem? hck,h⟩
    have HF:Hid (looseB d c=false->(cl.take (k+1)).any (looseB d)=false):=λh=>by
     rw [List.take_add_one,hck,List.any_append,HA.out];simp [h]
    have hki:(k:Int)<(nc:Int):=(by omega);have hk0:=sqI k;clear hat hcs hcsl hx;go_wp2_with fail;refine (isLoose_any d _ _ c E1.out HOKc.out HCc.out).mono ?_;rintro e w2 ⟨rfl,hb2⟩;have B2:Hid (Bz w w2):=HB.out.trans (hb2.mono HB.out.size);clear hb2 a0 a1
    cases hl:looseB d c with
    | true =>
     have HT':Hid (cl.any (looseB d)=true):=HT.out hl;clear HT HF;go_wp2;go_ret;exact ⟨⟨_,rfl,by omega,by rw [HT'.out];exact decide_eq_true (by omega)⟩,B2.out⟩
    | false =>
     have HF':Hid ((cl.take (k+1)).any (looseB d)=false):=HF.out hl;clear HT HF;go_wp2_with fail;exact ⟨⟨k+1,by omega,by go_num,HF'.out,B2.out⟩,by simp [intOf];omega⟩
  . have HS:Hid (cl.any (looseB d)=false):=by
     have h1:=HA.out
     rwa [List.take_of_length_le (by rw [HN.out];omega)] at h1
    go_wp2;go_ret;exact ⟨⟨_,rfl,by omega,by rw [HS.out];rfl⟩,HB.out⟩
theorem contains_any (d:Nat) (w:World) (v:Value) (cl:List Cl) (h:Rows w All 2 (HCl w All (HEx w All d)) v cl) (hok:∀ c ∈ cl,clOkD d c) (hcnt:∀ c ∈ cl,(clVarL d c).length<=33554432) :
 Calls prog 141 #[v,.func (.func 142) #[] #[]] w λe w'=>e=.returned (.bool (cl.any (looseB d)))/\Bz w w':=by
 have HR:=hid h;obtain ⟨p,cap,rfl,-⟩:=id h;clear h;go_enter func141,ntmps141;go_wp2_with fail;refine (idx_any d _ _ cl HR.out hok hcnt).mono ?_;rintro e w1 ⟨⟨z,rfl,hz1,hz⟩,hb⟩;have HZ:=hid hz;clear hz;go_wp2;go_ret;exact ⟨by rw [<-HZ.out];rfl,hb⟩
theorem implLoose_any (d:Nat) (w:World) (cs:List Value) (m:Md) (hT:Tabs w) (h:HMd w All d cs m) (hw:wtMd d m<=16777216) :
 Calls prog 113 #[.agg cs.toArray] w λe w'=>∃ u,e=.returned u/\OwnR w' w.heap.size u (looseM d m)/\Bz w w':=by
 have HT:=hid hT;have HM:Hid (∀ w',Bz w w'->HMd w' All d cs m):=λw' hb=>h.mono (sqO hb) sqj;obtain ⟨ev,fv,rfl,hs,f0,f1⟩:=h;have HF1:=hid f1;obtain ⟨pe,ce,rfl,-⟩:=f0;obtain ⟨pf,cf,rfl,hcf,hcmf,-⟩:=id f1;have hnf:m.funs.length<=9223372036854775807:=(by unfold maxLen at hcmf;omega)
 have HCN:Hid (∀ f ∈ m.funs,∀ c ∈ f.clauses,(clVarL d c).length<=33554432):=λf hf c hc=>by
  have h0:wtMd d m=m.name.size+wtS wtRf m.exports+wtS (wtFn d) m.funs:=rfl;obtain ⟨i,hi⟩:=List.mem_iff_getElem?.1 hf;have h1:=sum_take_succ (wtFn d) m.funs i f hi;have h2:=sum_take_le (wtFn d) m.funs (i+1);have h3:wtFn d f=f.name.size+wtS (wtCl (wtEx d)) f.clauses:=rfl;obtain ⟨j,hj⟩:=List.mem_iff_getElem?.1 hc;have h4:=sum_take_succ (wtCl (wtEx d)) f.clauses j c hj;have h5:=sum_take_le (wtCl (wtEx d)) f.clauses (j+1);have h6:wtCl (wtEx d) c=wtS (wtEx d) c.1+wtS (wtEx d) c.2:=rfl;have h7:=flat_len (varL d) (wtEx d) c.1 (λy _=>varL_len d y);have h8:=flat_len (varL d) (wtEx d) c.2 (λy _=>varL_len d y);have h9:(clVarL d c).length=(c.1.flatMap (varL d)).length+(c.2.flatMap (varL d)).length:=(by unfold clVarL;rw [List.length_append]);have w1:wtS (wtFn d) m.funs=m.funs.length+(m.funs.map (wtFn d)).sum:=rfl;have w2:wtS (wtCl (wtEx d)) f.clauses=f.clauses.length+(f.clauses.map (wtCl (wtEx d))).sum:=rfl;omega
 have HFL:Hid (m.funs.length<=16777216):=by
  have h0:wtMd d m=m.name.size+wtS wtRf m.exports+wtS (wtFn d) m.funs:=rfl;have w1:wtS (wtFn d) m.funs=m.funs.length+(m.funs.map (wtFn d)).sum:=rfl;show _<=_;omega
 have BA:Bz w (w.alloc (.cells #[.string m.name,.slice pe m.exports.length ce,.slice pf m.funs.length cf] 61)):=(sqN _ _);have BB:Hid (Bz w ((w.alloc (.cells #[.string m.name,.slice pe m.exports.length ce,.slice pf m.funs.length cf] 61)).alloc (.cells #[] 110))):=BA.alloc BA.size _;have bA:Hid (Blk ((w.alloc (.cells #[.string m.name,.slice pe m.exports.length ce,.slice pf m.funs.length cf] 61)).alloc (.cells #[] 110)) w.heap.size #[.string m.name,.slice pe m.exports.length ce,.slice pf m.funs.length cf] 61):=Blk.new.alloc
 have O0:Hid (OwnR ((w.alloc (.cells #[.string m.name,.slice pe m.exports.length ce,.slice pf m.funs.length cf] 61)).alloc (.cells #[] 110)) w.heap.size (.slice (some ⟨w.heap.size+1,0,none⟩) 0 0) []):=by
  have:=(OwnR.fresh (w:=w.alloc (.cells #[.string m.name,.slice pe m.exports.length ce,.slice pf m.funs.length cf] 61))).base BA.size
  rwa [alloc_hs] at this
 have HLM:Hid (looseM d m=if mdOk d m then looseL d m.funs else []):=rfl;clear f1 hT hs BA hw
 cases hok:mdOk d m with
 | false =>
  rw [hok] at HLM;go_enter func113,ntmps113;go_wp2_with fail;refine (implModuleOk_any d _ _ m (HT.out.below BB.out) (HM.out _ BB.out)).mono ?_;rintro e w1 ⟨rfl,hb⟩;rw [hok];have B1:Hid (Bz w w1):=BB.out.trans (hb.mono BB.out.size);have O1:Hid (OwnR w1 w.heap.size (.slice (some ⟨w.heap.size+1,0,none⟩) 0 0) []):=O0.out.next hb;clear hb;go_wp2;go_ret;exact ⟨_,rfl,by rw [HLM.out];exact O1.out,B1.out⟩
 | true =>
  have HOKC:Hid (∀ f ∈ m.funs,∀ c ∈ f.clauses,clOkD d c):=λf hf c hc=>by
   obtain ⟨h1,h2⟩:=mdOk_clauses hok f hf c hc;exact ⟨⟨40,h1⟩,λy hy=>⟨_,_,h2 y hy⟩⟩
  rw [hok] at HLM;obtain ⟨i,hi,hz0,hz1,hz2⟩:∃ i,prog.info? 110=some i/\i.zero=some (.agg #[.string ⟨#[]⟩,.int .i64 0])/\i.size=2/\i.bytes=24:=info_parts info_ref;generalize hn:m.funs.length=nf at *;have HN:=hid hn;clear hn;go_enter func113,ntmps113;go_wp2_with fail;refine (implModuleOk_any d _ _ m (HT.out.below BB.out) (HM.out _ BB.out)).mono ?_;rintro e w1 ⟨rfl,hb⟩;rw [hok];have B1:Hid (Bz w w1):=BB.out.trans (hb.mono BB.out.size);have O1:Hid (OwnR w1 w.heap.size (.slice (some ⟨w.heap.size+1,0,none⟩) 0 0) []):=O0.out.next hb;have b1:=bA.out.next hb;have x2:=b1.cell 2 _ rfl;clear hb b1;go_wp2_with fail
  go_loopw [3,14] (λu iv wr=>∃ k:Nat,k<=nf/\iv=.int .i64 k/\Hid (OwnR wr w.heap.size u (looseL d (m.funs.take k)))/\Hid (Bz w wr)) (λ_ iv _=>nf - (intOf iv).toNat)
  case atStart=>exact ⟨0,Nat.zero_le _,rfl,by show OwnR _ _ _ _;simpa [looseL] using O1.out,B1.out⟩
  case round =>
   clear O1 B1 x2 O0 BB bA;obtain ⟨k,hk,rfl,HO,HB⟩:=hrel;by_cases hlt:k<nf
   . obtain ⟨f,hfk⟩:∃ f,m.funs[k]?=some f:=⟨m.funs[k]'(by rw [HN.out];exact hlt),List.getElem?_eq_getElem _⟩
     obtain ⟨p',cap',hv,-,-,hx⟩:=HF1.out;simp only [Value.slice.injEq] at hv;obtain ⟨rfl,-,rfl⟩:=hv;obtain ⟨g,off,rfl,-,hgl,hat⟩:=hx (sqE hfk);obtain ⟨cs,hcsl,hcs,r1⟩:=hat k f hfk;obtain ⟨cv,rfl,hfs,hfi,rc⟩:=r1;have RC:Hid (∀ w',Bz w w'->Rows w' All 2 (HCl w' All (HEx w' All d)) cv f.clauses):=λw' hb=>Rows.mono rc (sqO hb) sqj (λ_ _ _ h=>HCl.mono h (sqO hb) sqj (λ_ _ h=>h.mono (sqO hb) sqj));obtain ⟨pc,cc,rfl,-⟩:=rc;obtain ⟨a0,a1,a2⟩:=sqC3 hcs (by omega);rw [<-HB.out.cell (p:=⟨g,_,none⟩) hgl] at a0 a1 a2;simp at a0 a1 a2;have HOKf:Hid (∀ c ∈ f.clauses,clOkD d c):=HOKC.out f (List.mem_of_getElem? hfk);have HCf:Hid (∀ c ∈ f.clauses,(clVarL d c).length<=33554432):=HCN.out f (List.mem_of_getElem? hfk);have HSN:Hid (looseL d (m.funs.take (k+1))=if f.clauses.any (looseB d) then looseL d (m.funs.take k) ++ [⟨f.name,f.arity⟩] else looseL d (m.funs.take k)):=looseL_snoc d m.funs k f hfk
     have HLL:Hid ((looseL d (m.funs.take k)).length<=16777216):=by
      have h1:=looseL_len d (m.funs.take k);rw [List.length_take,HN.out] at h1;have h2:=HFL.out;show _<=_;omega
     have hki:(k:Int)<(nf:Int):=(by omega);have hk0:=sqI k;have HBF:Hid (Bz wr (wr.alloc (.cells #[.string f.name,.int .i64 f.arity,.slice pc f.clauses.length cc] 57))):=(sqN _ _);have bF:Hid (Blk (wr.alloc (.cells #[.string f.name,.int .i64 f.arity,.slice pc f.clauses.length cc] 57)) wr.heap.size #[.string f.name,.int .i64 f.arity,.slice pc f.clauses.length cc] 57):=Blk.new;have BF:Hid (Bz w (wr.alloc (.cells #[.string f.name,.int .i64 f.arity,.slice pc f.clauses.length cc] 57))):=HB.out.trans (HBF.out.mono HB.out.size);clear hat hcs hcsl hx;generalize looseL d (m.funs.take k)=LK at *;go_wp2_with fail;refine (contains_any d _ _ f.clauses (RC.out _ BF.out) HOKf.out HCf.out).mono ?_;rintro e w2 ⟨rfl,hb2⟩;have K2:Hid (Bz wr w2):=HBF.out.trans (hb2.mono HBF.out.size);have B2:Hid (Bz w w2):=HB.out.trans (K2.out.mono HB.out.size);have O2:Hid (OwnR w2 w.heap.size u3 LK):=HO.out.next K2.out;have b2:=bF.out.next hb2;obtain ⟨y0,y1,y2⟩:=sqB3 b2;clear hb2 b2 a0 a1 a2
     cases hl:f.clauses.any (looseB d) with
     | false =>
      rw [hl] at HSN;go_wp2_with fail;exact ⟨⟨k+1,by omega,by go_num,by show OwnR _ _ _ _;rw [HSN.out];exact O2.out,B2.out⟩,by simp [intOf];omega⟩
     | true =>
      rw [hl] at HSN;go_wp2_with fail;refine (refOf_any _ _ _ _ _ _).mono ?_;rintro e w3 ⟨rfl,hb3⟩;have B3:Hid (Bz w w3):=B2.out.trans (hb3.mono B2.out.size);have O3:Hid (OwnR w3 w.heap.size u3 LK):=O2.out.next hb3;have O4:Hid (OwnR (w3.alloc (.cells #[.string f.name,.int .i64 f.arity] 110)) w.heap.size u3 LK):=O3.out.next ((sqN _ _));have B4:Hid (Bz w (w3.alloc (.cells #[.string f.name,.int .i64 f.arity] 110))):=B3.out.alloc B3.out.size _;have hLL:=HLL.out;clear hb3 y0 y1 y2;have N1:Hid (∀ j u,(refs [⟨f.name,f.arity⟩])[j]?=some u->(w3.alloc (.cells #[.string f.name,.int .i64 f.arity] 110)).cell? ((⟨w3.heap.size,0,none⟩:Addr).add j)=some u):=one_ref;go_wp2_with (at_builtin;refine wpList_append_own _ rfl _ _ 58 rfl w.heap.size 110 i (.agg #[.string ⟨#[]⟩,.int .i64 0]) 2 24 underlying58 hi hz0 hz1 hz2 rfl (by decide) _ _ _ rfl O4.out.1 _ 1 1 (refs [⟨f.name,f.arity⟩]) rfl rfl N1.out (refs_oneCell _) (by unfold maxLen;omega) (by omega) O4.out.2 ?_);intro v5 w5 hown hgr _;have O5:Hid (OwnR w5 w.heap.size v5 (LK ++ [⟨f.name,f.arity⟩])):=OwnR.of hown (by simp) rfl (Nat.le_trans O4.out.2 hgr.size);have B5:Hid (Bz w w5):=B4.out.trans (O4.out.below hgr);clear hown hgr;go_wp2_with fail;exact ⟨⟨k+1,by omega,by go_num,by show OwnR _ _ _ _;rw [HSN.out];exact O5.out,B5.out⟩,by simp [intOf];omega⟩
   . have HS:Hid (OwnR wr w.heap.size u3 (looseM d m)):=by
      have h1:=HO.out;rw [List.take_of_length_le (by rw [HN.out];omega)] at h1;show OwnR _ _ _ _;rw [HLM.out];exact h1
     go_wp2;go_ret;exact ⟨_,rfl,HS.out,HB.out⟩
end
end Go.Proofs.YtbdhpganbbandaaGreatDoor
