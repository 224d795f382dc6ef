/-
  ModTo ModsTo ModsOpen PlOpen
-/
import Derived.Test.YtbdhpganbbandaaGreatDoorP05
set_option maxHeartbeats 16000000
set_option linter.unusedVariables false
set_option maxRecDepth 100000
namespace Go.Proofs.YtbdhpganbbandaaGreatDoor
open Go.ChangeShapes Go.WideShapes Go.ChangeAt Go.RowKit
section
open Go.Proofs.Tryz
theorem toRefS_ofO {d:Nat} (hE:ToO 77 (λw v e=>∃ cs,v=.agg cs.toArray/\HRf cs e) (λw v e fp=>∃ cs,v=.agg cs.toArray/\ORf w d cs e fp) (wtRf)) :
 ToO 51 (λw v es=>Rows w All 2 (HRf) v es) (λw v es fp=>ORows w 110 2 (ORf w d) v es fp) (wtS (wtRf)):=by
 intro w v es h hwt;obtain ⟨p,cap,rfl,hcl,hcm,hx⟩:=h;generalize hn:es.length=n at *;have HN:=hid hn;have HX:Hid _:=hx;have hnb:n<=16777216:=(by unfold wtS at hwt;omega);have HWT:=hid hwt;clear hx hn hwt;obtain ⟨M,hM,hmk⟩:=make_row (t:=58) (e:=110) (c:=2) underlying58 (by kernel_rfl) w n hnb;have HO:Hid (Made w (w.alloc (.cells M 110)) w.heap.size n 110 2 (λw=>ORf w d) es 0 M.toList []):=Made.start hM (by unfold maxLen;omega)
 try unfold Bz
 generalize hG:w.heap.size=G at *;have HG:=hid hG;go_enter func51,ntmps51;go_wp2
 go_loopw [4] (λiv wr=>∃ (k:Nat) (xs:List Value) (fps:List (List Nat)),k<=n/\iv=.int .i64 k/\Hid (Made w wr G n 110 2 (λw=>ORf w d) es k xs fps)) (λiv _=>n - (intOf iv).toNat)
 case atStart=>exact ⟨0,M.toList,[],Nat.zero_le _,rfl,HO⟩
 case round =>
  obtain ⟨k,xs,fps,hk,rfl,HM⟩:=hrel;by_cases hlt:k<n
  . obtain ⟨x,hxk⟩:=sqA (l:=es) (k:=k) HN.out hlt
    obtain ⟨g,off,rfl,hg,hgl,hat⟩:=HX.out (sqE hxk);obtain ⟨cs,hcl6,hcs,hex⟩:=hat k x hxk;have hbw:Below w.heap.size w wr:=(by rw [HG.out];exact HM.out.below);have hex':∀ w',SameOn All wr w'->HRf cs x:=λw' hw=>hex;obtain ⟨z0,z1,rfl⟩:=len2 hcl6;obtain ⟨a0,a1⟩:=sqC2 hcs (by omega);rw [<-hbw.cell (p:=⟨g,_,none⟩) (by show g<w.heap.size;rw [HG.out];exact hgl)] at a0 a1;simp at a0 a1
    have hwx:wtRf x<=16777216:=by
     have h1:=HWT.out;have h2:=sum_take_succ (wtRf) es k x hxk;have h3:=sum_take_le (wtRf) es (k+1);unfold wtS at h1;omega
    clear hbw hcs hat hex hcl6;go_wp2_with (go_at_call 77;go_must (refine (hE _ _ x ⟨_,rfl,hex' _ (by exact sqS)⟩ hwx).mono ?_;rintro e w1 ⟨u,fp,rfl,⟨cs',rfl,hx1⟩,hnd,hrg,hb1⟩;obtain ⟨st,sk,hsh⟩:=hx1.shape;subst hsh;have HB1:=hid hb1;have HX1:=hid hx1;have HND:Hid fp.Nodup:=hnd;have HRG:=hid hrg;have o1:=HM.out.own.kept (grownBy_belowR (r:=none) hb1) (Or.inr (by simp [Value.ownBlock]));have HO1:=hid o1;have f0:=o1.frozenAt (k * 2);obtain ⟨y0,g0⟩:=own_someR o1 (k * 2) (by omega);have f1:=o1.frozenAt (k * 2+1);obtain ⟨y1,g1⟩:=own_someR o1 (k * 2+1) (by omega);clear o1 hb1 hx1 hnd hrg));have sd:=stored2 HO1.out (k * 2) (.string st) (.int .i64 sk);have hlen:xs.length=n * 2:=HO1.out.1;exact ⟨⟨k+1,_,_,by omega,by go_num,Made.step (O:=λw=>ORf w d) (c:=2) (λw w' cs x f h hk=>h) HM.out hxk HB1.out HX1.out HND.out HRG.out rfl sd.1 sd.2 (λm hm=>set2_other hm) (λj hj=>set2_self (by omega) j hj)⟩,by simp [intOf];omega⟩
  . obtain rfl:k=n:=by omega
    obtain ⟨fp,r1,r2,r3⟩:=HM.out.done HN.out (by unfold maxLen;omega);have R1:=hid r1;have R2:Hid (fp.Nodup/\∀ a ∈ fp,G<=a/\a<wr.heap.size):=⟨r2,r3⟩;clear r1 r2 r3;go_wp2;go_ret;exact ⟨_,fp,rfl,R1.out,R2.out.1,R2.out.2,HM.out.below⟩
theorem toFunS_ofO {d:Nat} (hE:ToO 78 (λw v e=>∃ cs,v=.agg cs.toArray/\HFn w All d cs e) (λw v e fp=>∃ cs,v=.agg cs.toArray/\OFn w d cs e fp) (wtFn d)) :
 ToO 52 (λw v es=>Rows w All 3 (HFn w All d) v es) (λw v es fp=>ORows w 57 3 (OFn w d) v es fp) (wtS (wtFn d)):=by
 intro w v es h hwt;obtain ⟨p,cap,rfl,hcl,hcm,hx⟩:=h;generalize hn:es.length=n at *;have HN:=hid hn;have HX:Hid _:=hx;have hnb:n<=16777216:=(by unfold wtS at hwt;omega);have HWT:=hid hwt;clear hx hn hwt;obtain ⟨M,hM,hmk⟩:=make_row (t:=59) (e:=57) (c:=3) underlying59 (by kernel_rfl) w n hnb;have HO:Hid (Made w (w.alloc (.cells M 57)) w.heap.size n 57 3 (λw=>OFn w d) es 0 M.toList []):=Made.start hM (by unfold maxLen;omega)
 try unfold Bz
 generalize hG:w.heap.size=G at *;have HG:=hid hG;go_enter func52,ntmps52;go_wp2
 go_loopw [4] (λiv wr=>∃ (k:Nat) (xs:List Value) (fps:List (List Nat)),k<=n/\iv=.int .i64 k/\Hid (Made w wr G n 57 3 (λw=>OFn w d) es k xs fps)) (λiv _=>n - (intOf iv).toNat)
 case atStart=>exact ⟨0,M.toList,[],Nat.zero_le _,rfl,HO⟩
 case round =>
  obtain ⟨k,xs,fps,hk,rfl,HM⟩:=hrel;by_cases hlt:k<n
  . obtain ⟨x,hxk⟩:=sqA (l:=es) (k:=k) HN.out hlt
    obtain ⟨g,off,rfl,hg,hgl,hat⟩:=HX.out (sqE hxk);obtain ⟨cs,hcl6,hcs,hex⟩:=hat k x hxk;have hbw:Below w.heap.size w wr:=(by rw [HG.out];exact HM.out.below);have hex':∀ w',SameOn All wr w'->HFn w' All d cs x:=λw' hw=>hex.mono (SameOn.trans (sqO hbw) hw) sqj;obtain ⟨z0,z1,z2,rfl⟩:=len3 hcl6;obtain ⟨a0,a1,a2⟩:=sqC3 hcs (by omega);rw [<-hbw.cell (p:=⟨g,_,none⟩) (by show g<w.heap.size;rw [HG.out];exact hgl)] at a0 a1 a2;simp at a0 a1 a2
    have hwx:wtFn d x<=16777216:=by
     have h1:=HWT.out;have h2:=sum_take_succ (wtFn d) es k x hxk;have h3:=sum_take_le (wtFn d) es (k+1);unfold wtS at h1;omega
    clear hbw hcs hat hex hcl6;go_wp2_with (go_at_call 78;go_must (refine (hE _ _ x ⟨_,rfl,hex' _ (by exact sqS)⟩ hwx).mono ?_;rintro e w1 ⟨u,fp,rfl,⟨cs',rfl,hx1⟩,hnd,hrg,hb1⟩;obtain ⟨st,sk,p1,n1,q1,hsh⟩:=hx1.shape;subst hsh;have HB1:=hid hb1;have HX1:=hid hx1;have HND:Hid fp.Nodup:=hnd;have HRG:=hid hrg;have o1:=HM.out.own.kept (grownBy_belowR (r:=none) hb1) (Or.inr (by simp [Value.ownBlock]));have HO1:=hid o1;have f0:=o1.frozenAt (k * 3);obtain ⟨y0,g0⟩:=own_someR o1 (k * 3) (by omega);have f1:=o1.frozenAt (k * 3+1);obtain ⟨y1,g1⟩:=own_someR o1 (k * 3+1) (by omega);have f2:=o1.frozenAt (k * 3+2);obtain ⟨y2,g2⟩:=own_someR o1 (k * 3+2) (by omega);clear o1 hb1 hx1 hnd hrg));have sd:=stored3 HO1.out (k * 3) (.string st) (.int .i64 sk) (.slice p1 n1 q1);have hlen:xs.length=n * 3:=HO1.out.1;exact ⟨⟨k+1,_,_,by omega,by go_num,Made.step (O:=λw=>OFn w d) (c:=3) (λw w' cs x f h hk=>OFn.keep h hk) HM.out hxk HB1.out HX1.out HND.out HRG.out rfl sd.1 sd.2 (λm hm=>set3_other hm) (λj hj=>set3_self (by omega) j hj)⟩,by simp [intOf];omega⟩
  . obtain rfl:k=n:=by omega
    obtain ⟨fp,r1,r2,r3⟩:=HM.out.done HN.out (by unfold maxLen;omega);have R1:=hid r1;have R2:Hid (fp.Nodup/\∀ a ∈ fp,G<=a/\a<wr.heap.size):=⟨r2,r3⟩;clear r1 r2 r3;go_wp2;go_ret;exact ⟨_,fp,rfl,R1.out,R2.out.1,R2.out.2,HM.out.below⟩
theorem toRef_ofO {d:Nat} :
 ToO 77 (λw v e=>∃ cs,v=.agg cs.toArray/\HRf cs e) (λw v e fp=>∃ cs,v=.agg cs.toArray/\ORf w d cs e fp) (wtRf):=by
 intro w v e i1 hwt;obtain ⟨cs,rfl,rfl,s0,s1⟩:=i1;go_enter func77,ntmps77;go_wp2;exact bodyPost_ret (v:=.agg #[.string e.name,.int .i64 e.arity]) (by simp [results,results77,go_sem]) rfl ⟨_,[],rfl,⟨_,rfl,⟨rfl,s0,s1⟩,rfl⟩,by simp,λa ha=>by simp at ha,(((sqN _ _)).alloc (by simp only [alloc_hs];omega) _).alloc (by simp only [alloc_hs];omega) _⟩
theorem toFun_ofO {d:Nat} (h0:ToO 110 (λw v es=>Rows w All 2 (HCl w All (HEx w All d)) v es) (λw v es fp=>ORows w 44 2 (OCls w d) v es fp) (wtS (wtCl (wtEx d)))) :
 ToO 78 (λw v e=>∃ cs,v=.agg cs.toArray/\HFn w All d cs e) (λw v e fp=>∃ cs,v=.agg cs.toArray/\OFn w d cs e fp) (wtFn d):=by
 intro w v e i1 hwt;obtain ⟨cs,rfl,v0,rfl,s0,s1,f0⟩:=i1;have hw0:wtS (wtCl (wtEx d)) e.clauses<=16777216:=(by unfold wtFn at hwt;omega);have E0:∀ w',SameOn All w w'->Rows w' All 2 (HCl w' All (HEx w' All d)) v0 e.clauses:=λw' hw=>f0.mono hw sqj (λ_ _ _ h=>h.mono hw sqj (λ_ _=>HEx.mono hw sqj));obtain ⟨p0,c0,rfl,_⟩:=id f0;clear f0;go_enter func78,ntmps78;go_wp2_with fail;have hal:Below w.heap.size w (((w.alloc (.cells #[.string e.name,.int .i64 e.arity,.slice p0 e.clauses.length c0] 117)).alloc (.cells #[.string ⟨#[]⟩,.int .i64 0,.slice none 0 0] 57)).alloc (.cells #[.string e.name,.int .i64 e.arity,.slice none 0 0] 57)):=(((sqN _ _)).alloc (by simp only [alloc_hs];omega) _).alloc (by simp only [alloc_hs];omega) _;refine (h0 _ _ e.clauses (E0 _ (sqO hal)) hw0).mono ?_;rintro ex w1 ⟨u,fp,rfl,r0,hnd,hrg,hb⟩;have bR:=(Blk.new (w:=(w.alloc (.cells #[.string e.name,.int .i64 e.arity,.slice p0 e.clauses.length c0] 117))) (cs:=#[.string ⟨#[]⟩,.int .i64 0,.slice none 0 0]) (t:=57)).alloc (o:=.cells #[.string e.name,.int .i64 e.arity,.slice none 0 0] 57);have bO:=(Blk.new (w:=((w.alloc (.cells #[.string e.name,.int .i64 e.arity,.slice p0 e.clauses.length c0] 117)).alloc (.cells #[.string ⟨#[]⟩,.int .i64 0,.slice none 0 0] 57))) (cs:=#[.string e.name,.int .i64 e.arity,.slice none 0 0]) (t:=57));simp only [alloc_hs] at bR bO hrg
 replace bR:=bR.below hb (by simp only [alloc_hs];omega)
 replace bO:=bO.below hb (by simp only [alloc_hs];omega)
 have HB1:=hid (hal.trans (hb.mono hal.size));have HND:=hid hnd;have HRG:=hid hrg;have T0:=hid r0;clear hal hb hnd hrg;obtain ⟨p1,c1,hu,_⟩:=r0.shape;subst hu;clear r0;have o0:=bO.cell 0 _ rfl;have q0:=bR.cell 0 _ rfl;have k0:=bR.frozen 0;have o1:=bO.cell 1 _ rfl;have q1:=bR.cell 1 _ rfl;have k1:=bR.frozen 1;have o2:=bO.cell 2 _ rfl;have q2:=bR.cell 2 _ rfl;have k2:=bR.frozen 2;have g2:=bO.frozen 2;clear bR bO;go_wp2_with fail;have sf:SameOn (λg=>w.heap.size+1+1+1<=g) w1 ((((w1.setCell ⟨w.heap.size+1+1,2,none⟩ (.slice p1 e.clauses.length c1)).setCell ⟨w.heap.size+1,0,none⟩ (.string e.name)).setCell ⟨w.heap.size+1,1,none⟩ (.int .i64 e.arity)).setCell ⟨w.heap.size+1,2,none⟩ (.slice p1 e.clauses.length c1)):=SameOn.setCell (SameOn.setCell (SameOn.setCell (SameOn.setCell (sqO (Below.refl _ _)) (by show ¬ (_<=w.heap.size+1+1);omega) _) (by show ¬ (_<=w.heap.size+1);omega) _) (by show ¬ (_<=w.heap.size+1);omega) _) (by show ¬ (_<=w.heap.size+1);omega) _;have bf:Below w.heap.size w ((((w1.setCell ⟨w.heap.size+1+1,2,none⟩ (.slice p1 e.clauses.length c1)).setCell ⟨w.heap.size+1,0,none⟩ (.string e.name)).setCell ⟨w.heap.size+1,1,none⟩ (.int .i64 e.arity)).setCell ⟨w.heap.size+1,2,none⟩ (.slice p1 e.clauses.length c1)):=Below.setCell (Below.setCell (Below.setCell (Below.setCell (HB1.out) (by show _<=w.heap.size+1+1;omega) _) (by show _<=w.heap.size+1;omega) _) (by show _<=w.heap.size+1;omega) _) (by show _<=w.heap.size+1;omega) _;have kf:KeepOn fp w1 ((((w1.setCell ⟨w.heap.size+1+1,2,none⟩ (.slice p1 e.clauses.length c1)).setCell ⟨w.heap.size+1,0,none⟩ (.string e.name)).setCell ⟨w.heap.size+1,1,none⟩ (.int .i64 e.arity)).setCell ⟨w.heap.size+1,2,none⟩ (.slice p1 e.clauses.length c1)):=λa ha=>sf.2 a (HRG.out a ha).1 (HRG.out a ha).2
 exact bodyPost_ret (v:=.agg #[.string e.name,.int .i64 e.arity,.slice p1 e.clauses.length c1]) (by simp [results,results78,go_sem,q0,q1,q2]) rfl
  ⟨_,fp,rfl,⟨_,rfl,_,rfl,s0,s1,T0.out.keep kf (λcs x f _ hs h=>OCls.keep h (kf.sub hs))⟩,HND.out,λa ha=>⟨by have:=(HRG.out a ha).1;omega,Nat.lt_of_lt_of_le (HRG.out a ha).2 sf.1⟩,bf⟩
theorem toModule_ofO {d:Nat} (h0:ToO 51 (λw v es=>Rows w All 2 (HRf) v es) (λw v es fp=>ORows w 110 2 (ORf w d) v es fp) (wtS (wtRf))) (h1:ToO 52 (λw v es=>Rows w All 3 (HFn w All d) v es) (λw v es fp=>ORows w 57 3 (OFn w d) v es fp) (wtS (wtFn d))) :
 ToO 23 (λw v e=>∃ cs,v=.agg cs.toArray/\HMd w All d cs e) (λw v e fp=>∃ cs,v=.agg cs.toArray/\OMd w d cs e fp) (wtMd d):=by
 intro w v e i1 hwt;obtain ⟨cs,rfl,v0,v1,rfl,s0,f0,f1⟩:=i1;have hw0:wtS (wtRf) e.exports<=16777216:=(by unfold wtMd at hwt;omega);have E0:∀ w',SameOn All w w'->Rows w' All 2 (HRf) v0 e.exports:=λw' hw=>f0.mono hw sqj (λ_ _ _ h=>h);have hw1:wtS (wtFn d) e.funs<=16777216:=(by unfold wtMd at hwt;omega);have E1:∀ w',SameOn All w w'->Rows w' All 3 (HFn w' All d) v1 e.funs:=λw' hw=>f1.mono hw sqj (λ_ _ _ h=>h.mono hw sqj);obtain ⟨p0,c0,rfl,_⟩:=id f0;obtain ⟨p1,c1,rfl,_⟩:=id f1;clear f0 f1;go_enter func23,ntmps23;go_wp2_with fail;have hal:Below w.heap.size w (((w.alloc (.cells #[.string e.name,.slice p0 e.exports.length c0,.slice p1 e.funs.length c1] 40)).alloc (.cells #[.string ⟨#[]⟩,.slice none 0 0,.slice none 0 0] 61)).alloc (.cells #[.string e.name,.slice none 0 0,.slice none 0 0] 61)):=(((sqN _ _)).alloc (by simp only [alloc_hs];omega) _).alloc (by simp only [alloc_hs];omega) _;refine (h0 _ _ e.exports (E0 _ (sqO hal)) hw0).mono ?_;rintro ex w1 ⟨u,fA,rfl,r0,ndA,rgA,hb⟩;have bA:=((Blk.new (w:=w) (cs:=#[.string e.name,.slice p0 e.exports.length c0,.slice p1 e.funs.length c1]) (t:=40)).alloc (o:=.cells #[.string ⟨#[]⟩,.slice none 0 0,.slice none 0 0] 61)).alloc (o:=.cells #[.string e.name,.slice none 0 0,.slice none 0 0] 61);have bR:=(Blk.new (w:=(w.alloc (.cells #[.string e.name,.slice p0 e.exports.length c0,.slice p1 e.funs.length c1] 40))) (cs:=#[.string ⟨#[]⟩,.slice none 0 0,.slice none 0 0]) (t:=61)).alloc (o:=.cells #[.string e.name,.slice none 0 0,.slice none 0 0] 61);have bO:=(Blk.new (w:=((w.alloc (.cells #[.string e.name,.slice p0 e.exports.length c0,.slice p1 e.funs.length c1] 40)).alloc (.cells #[.string ⟨#[]⟩,.slice none 0 0,.slice none 0 0] 61))) (cs:=#[.string e.name,.slice none 0 0,.slice none 0 0]) (t:=61));simp only [alloc_hs] at bA bR bO rgA
 replace bA:=bA.below hb (by simp only [alloc_hs];omega)
 replace bR:=bR.below hb (by simp only [alloc_hs];omega)
 replace bO:=bO.below hb (by simp only [alloc_hs];omega)
 have B1:Below w.heap.size w w1:=hal.trans (hb.mono hal.size);have z1:w.heap.size+3<=w1.heap.size:=(by have:=hb.size;simp only [alloc_hs] at this;omega);have Z1:=hid z1;have T0:=hid r0;have NA:=hid ndA;have GA:=hid rgA;clear hal hb z1 ndA rgA;obtain ⟨p0',c0',hu,_⟩:=r0.shape;subst hu;clear r0;have a2:=bA.cell 2 _ rfl;have o1:=bO.cell 1 _ rfl;have g1:=bO.frozen 1;have HA:=hid bA;have HR:=hid bR;have HO:Hid (Blk w1 (w.heap.size+1+1) #[.string e.name,.slice none 0 0,.slice none 0 0] 61):=bO;have HB1:=hid B1;clear bA bR bO B1;go_wp2_with fail;have hp:Below w.heap.size w (w1.setCell ⟨w.heap.size+1+1,1,none⟩ (.slice p0' e.exports.length c0')):=HB1.out.setCell (by show _<=w.heap.size+1+1;omega) _;refine (h1 _ _ e.funs (E1 _ (sqO hp)) hw1).mono ?_;rintro ex w2 ⟨u,fB,rfl,r1,ndB,rgB,hb⟩;have bA:=((HA.out.other (p:=⟨w.heap.size+1+1,1,none⟩) (v:=(.slice p0' e.exports.length c0')) (by show w.heap.size≠w.heap.size+1+1;omega)).below hb (by have:=Z1.out;simp only [setCell_hs];omega));have bR:=((HR.out.other (p:=⟨w.heap.size+1+1,1,none⟩) (v:=(.slice p0' e.exports.length c0')) (by show w.heap.size+1≠w.heap.size+1+1;omega)).below hb (by have:=Z1.out;simp only [setCell_hs];omega));have bO:=((HO.out.same (j:=1) (v:=(.slice p0' e.exports.length c0')) (cs':=#[.string e.name,.slice p0' e.exports.length c0',.slice none 0 0]) rfl).below hb (by have:=Z1.out;simp only [setCell_hs];omega));have B2:Below w.heap.size w w2:=hp.trans (hb.mono hp.size);simp only [setCell_hs] at rgB
 have k01:KeepOn fA w1 w2:=λa ha=>by
  have h:=GA.out a ha;exact (hb.block a (by simp only [setCell_hs];exact h.2)).trans (Below.heap_setCell _ _ _ _ (by show a≠w.heap.size+1+1;omega))
 have T0:Hid (ORows w2 110 2 (ORf w2 d) (.slice p0' e.exports.length c0') e.exports fA):=(by have h:=T0.out;exact h.keep k01 (λcs x f _ hs h=>h));have T1:=hid r1;have sz2:w1.heap.size<=w2.heap.size:=(by have:=hb.size;simp only [setCell_hs] at this;exact this)
 have HND:Hid ((fA ++ fB).Nodup):=by
  show List.Nodup _;rw [List.nodup_append];exact ⟨NA.out,ndB,λa ha b hb=>by have:=GA.out a ha;have:=rgB b hb;omega⟩
 have HRG:Hid (∀ a ∈ fA ++ fB,w.heap.size+1+1+1<=a/\a<w2.heap.size):=λa ha=>by
  rcases List.mem_append.1 ha with ha | ha
  . have:=GA.out a ha;omega
  . have:=rgB a ha;have:=Z1.out;omega
 have HB2:=hid B2;obtain ⟨p1',c1',hu,_⟩:=r1.shape;subst hu;clear hp hb r1 HA HR HO HB1 k01 ndB rgB NA GA sz2 B2;have o0:=bO.cell 0 _ rfl;have q0:=bR.cell 0 _ rfl;have k0:=bR.frozen 0;have o1:=bO.cell 1 _ rfl;have q1:=bR.cell 1 _ rfl;have k1:=bR.frozen 1;have o2:=bO.cell 2 _ rfl;have q2:=bR.cell 2 _ rfl;have k2:=bR.frozen 2;have g2:=bO.frozen 2;clear bA bR bO;go_wp2_with fail;have sf:SameOn (λg=>w.heap.size+1+1+1<=g) w2 ((((w2.setCell ⟨w.heap.size+1+1,2,none⟩ (.slice p1' e.funs.length c1')).setCell ⟨w.heap.size+1,0,none⟩ (.string e.name)).setCell ⟨w.heap.size+1,1,none⟩ (.slice p0' e.exports.length c0')).setCell ⟨w.heap.size+1,2,none⟩ (.slice p1' e.funs.length c1')):=SameOn.setCell (SameOn.setCell (SameOn.setCell (SameOn.setCell (sqO (Below.refl _ _)) (by show ¬ (_<=w.heap.size+1+1);omega) _) (by show ¬ (_<=w.heap.size+1);omega) _) (by show ¬ (_<=w.heap.size+1);omega) _) (by show ¬ (_<=w.heap.size+1);omega) _;have bf:Below w.heap.size w ((((w2.setCell ⟨w.heap.size+1+1,2,none⟩ (.slice p1' e.funs.length c1')).setCell ⟨w.heap.size+1,0,none⟩ (.string e.name)).setCell ⟨w.heap.size+1,1,none⟩ (.slice p0' e.exports.length c0')).setCell ⟨w.heap.size+1,2,none⟩ (.slice p1' e.funs.length c1')):=Below.setCell (Below.setCell (Below.setCell (Below.setCell (HB2.out) (by show _<=w.heap.size+1+1;omega) _) (by show _<=w.heap.size+1;omega) _) (by show _<=w.heap.size+1;omega) _) (by show _<=w.heap.size+1;omega) _;have kf:KeepOn (fA ++ fB) w2 ((((w2.setCell ⟨w.heap.size+1+1,2,none⟩ (.slice p1' e.funs.length c1')).setCell ⟨w.heap.size+1,0,none⟩ (.string e.name)).setCell ⟨w.heap.size+1,1,none⟩ (.slice p0' e.exports.length c0')).setCell ⟨w.heap.size+1,2,none⟩ (.slice p1' e.funs.length c1')):=λa ha=>sf.2 a (HRG.out a ha).1 (HRG.out a ha).2;have kA:=kf.sub (fp':=fA) (λa ha=>by simp [ha]);have kB:=kf.sub (fp':=fB) (λa ha=>by simp [ha]);have U0:=T0.out.keep kA (λcs x f _ hs h=>h);have U1:=T1.out.keep kB (λcs x f _ hs h=>h.keep (kB.sub hs))
 exact bodyPost_ret (v:=.agg #[.string e.name,.slice p0' e.exports.length c0',.slice p1' e.funs.length c1']) (by simp [results,results23,go_sem,q0,q1,q2]) rfl
  ⟨_,fA ++ fB,rfl,⟨_,rfl,_,_,fA,fB,rfl,rfl,s0,U0,U1⟩,HND.out,λa ha=>⟨by have:=(HRG.out a ha).1;omega,Nat.lt_of_lt_of_le (HRG.out a ha).2 sf.1⟩,bf⟩
theorem toModule_own (d:Nat):ToO 23 (λw v e=>∃ cs,v=.agg cs.toArray/\HMd w All d cs e) (λw v e fp=>∃ cs,v=.agg cs.toArray/\OMd w d cs e fp) (wtMd d) :=
 toModule_ofO (toRefS_ofO (toRef_ofO (d:=d))) (toFunS_ofO (toFun_ofO (toClauseS_own d)))
theorem toModuleS_ofO {d:Nat} (hE:ToO 23 (λw v e=>∃ cs,v=.agg cs.toArray/\HMd w All d cs e) (λw v e fp=>∃ cs,v=.agg cs.toArray/\OMd w d cs e fp) (wtMd d)) :
 ToO 7 (λw v es=>Rows w All 3 (HMd w All d) v es) (λw v es fp=>ORows w 61 3 (OMd w d) v es fp) (wtS (wtMd d)):=by
 intro w v es h hwt;obtain ⟨p,cap,rfl,hcl,hcm,hx⟩:=h;generalize hn:es.length=n at *;have HN:=hid hn;have HX:Hid _:=hx;have hnb:n<=16777216:=(by unfold wtS at hwt;omega);have HWT:=hid hwt;clear hx hn hwt;obtain ⟨M,hM,hmk⟩:=make_row (t:=27) (e:=61) (c:=3) underlying27 (by kernel_rfl) w n hnb;have HO:Hid (Made w (w.alloc (.cells M 61)) w.heap.size n 61 3 (λw=>OMd w d) es 0 M.toList []):=Made.start hM (by unfold maxLen;omega)
 try unfold Bz
 generalize hG:w.heap.size=G at *;have HG:=hid hG;go_enter func7,ntmps7;go_wp2
 go_loopw [4] (λiv wr=>∃ (k:Nat) (xs:List Value) (fps:List (List Nat)),k<=n/\iv=.int .i64 k/\Hid (Made w wr G n 61 3 (λw=>OMd w d) es k xs fps)) (λiv _=>n - (intOf iv).toNat)
 case atStart=>exact ⟨0,M.toList,[],Nat.zero_le _,rfl,HO⟩
 case round =>
  obtain ⟨k,xs,fps,hk,rfl,HM⟩:=hrel;by_cases hlt:k<n
  . obtain ⟨x,hxk⟩:=sqA (l:=es) (k:=k) HN.out hlt
    obtain ⟨g,off,rfl,hg,hgl,hat⟩:=HX.out (sqE hxk);obtain ⟨cs,hcl6,hcs,hex⟩:=hat k x hxk;have hbw:Below w.heap.size w wr:=(by rw [HG.out];exact HM.out.below);have hex':∀ w',SameOn All wr w'->HMd w' All d cs x:=λw' hw=>hex.mono (SameOn.trans (sqO hbw) hw) sqj;obtain ⟨z0,z1,z2,rfl⟩:=len3 hcl6;obtain ⟨a0,a1,a2⟩:=sqC3 hcs (by omega);rw [<-hbw.cell (p:=⟨g,_,none⟩) (by show g<w.heap.size;rw [HG.out];exact hgl)] at a0 a1 a2;simp at a0 a1 a2
    have hwx:wtMd d x<=16777216:=by
     have h1:=HWT.out;have h2:=sum_take_succ (wtMd d) es k x hxk;have h3:=sum_take_le (wtMd d) es (k+1);unfold wtS at h1;omega
    clear hbw hcs hat hex hcl6;go_wp2_with (go_at_call 23;go_must (refine (hE _ _ x ⟨_,rfl,hex' _ (by exact sqS)⟩ hwx).mono ?_;rintro e w1 ⟨u,fp,rfl,⟨cs',rfl,hx1⟩,hnd,hrg,hb1⟩;obtain ⟨st,p1,n1,q1,p2,n2,q2,hsh⟩:=hx1.shape;subst hsh;have HB1:=hid hb1;have HX1:=hid hx1;have HND:Hid fp.Nodup:=hnd;have HRG:=hid hrg;have o1:=HM.out.own.kept (grownBy_belowR (r:=none) hb1) (Or.inr (by simp [Value.ownBlock]));have HO1:=hid o1;have f0:=o1.frozenAt (k * 3);obtain ⟨y0,g0⟩:=own_someR o1 (k * 3) (by omega);have f1:=o1.frozenAt (k * 3+1);obtain ⟨y1,g1⟩:=own_someR o1 (k * 3+1) (by omega);have f2:=o1.frozenAt (k * 3+2);obtain ⟨y2,g2⟩:=own_someR o1 (k * 3+2) (by omega);clear o1 hb1 hx1 hnd hrg));have sd:=stored3 HO1.out (k * 3) (.string st) (.slice p1 n1 q1) (.slice p2 n2 q2);have hlen:xs.length=n * 3:=HO1.out.1;exact ⟨⟨k+1,_,_,by omega,by go_num,Made.step (O:=λw=>OMd w d) (c:=3) (λw w' cs x f h hk=>h.keep hk) HM.out hxk HB1.out HX1.out HND.out HRG.out rfl sd.1 sd.2 (λm hm=>set3_other hm) (λj hj=>set3_self (by omega) j hj)⟩,by simp [intOf];omega⟩
  . obtain rfl:k=n:=by omega
    obtain ⟨fp,r1,r2,r3⟩:=HM.out.done HN.out (by unfold maxLen;omega);have R1:=hid r1;have R2:Hid (fp.Nodup/\∀ a ∈ fp,G<=a/\a<wr.heap.size):=⟨r2,r3⟩;clear r1 r2 r3;go_wp2;go_ret;exact ⟨_,fp,rfl,R1.out,R2.out.1,R2.out.2,HM.out.below⟩
theorem toModuleS_own (d:Nat):ToO 7 (λw v es=>Rows w All 3 (HMd w All d) v es) (λw v es fp=>ORows w 61 3 (OMd w d) v es fp) (wtS (wtMd d)):=toModuleS_ofO (toModule_own d)
theorem oms_tree {w:World} {d:Nat} {v:Value} {es:List Md} {fp:List Nat} (h:ORows w 61 3 (OMd w d) v es fp):Rows w All 3 (HMd w All d) v es :=
 h.rows (λ_ _=>trivial) (λcs x f _ hs h=>h.tree (λ_ _=>trivial))
theorem oms_keep {w w':World} {d:Nat} {v:Value} {es:List Md} {fp:List Nat} (h:ORows w 61 3 (OMd w d) v es fp) (hk:KeepOn fp w w'):ORows w' 61 3 (OMd w' d) v es fp :=
 h.keep hk (λcs x f _ hs h=>h.keep (hk.sub hs))
theorem oms_lt {w:World} {d:Nat} {v:Value} {es:List Md} {fp:List Nat} (h:ORows w 61 3 (OMd w d) v es fp):∀ a ∈ fp,a<w.heap.size :=
 h.lt (λcs x f h=>h.lt)
end
section
section
variable {H:Type} {enc:TypeId × Value->H} {P:Program} {w:World} {base:Nat} {sp:Nat->Bool} {held:Bool}
variable {tE tEs tC tCs tI tS tR tRs tF tFs tM:TypeId}
theorem open_md1 (T:MdTypes P tE tEs tC tCs tI tS tR tRs tF tFs tM) {fuel:Nat} {cs:List Value} {x:DataW H × List MemPlace} (h:DataW.trod enc P w base sp held fuel tM cs=some x) :
 ∃ m,HMd w (λg=>g<w.heap.size) fuel cs m:=by
 cases fuel with
 | zero=>simp [DataW.trod] at h
 | succ fuel =>
  obtain ⟨fs,hu,hfs⟩:=T.m;obtain ⟨hl,hat⟩:=open_fields hu hfs h;rw [T.cm] at hl;obtain ⟨a,b,c,rfl⟩:=len3 hl;obtain ⟨y0,h0⟩:=hat 0 _ _ rfl;obtain ⟨y1,h1⟩:=hat 1 _ _ rfl;obtain ⟨y2,h2⟩:=hat 2 _ _ rfl;rw [T.cS] at h0;rw [T.crs] at h1;rw [T.cfs] at h2;obtain ⟨s,rfl,hs⟩:=open_str1 T.s h0
  cases fuel with
  | zero=>simp [DataW.trod] at h0
  | succ fuel =>
   obtain ⟨_,rs,hv,hr⟩:=open_rows (R:=HRf) T.rs T.cr (by decide) (λcs x hx=>by
    cases fuel with
    | zero=>simp [DataW.trod] at hx
    | succ fuel =>
     obtain ⟨fs,hu,hfs⟩:=T.r;obtain ⟨hl,hat⟩:=open_fields hu hfs hx;rw [T.cr] at hl;obtain ⟨a,b,rfl⟩:=len2 hl;obtain ⟨y0,h0⟩:=hat 0 _ _ rfl;obtain ⟨y1,h1⟩:=hat 1 _ _ rfl;rw [T.cS] at h0;rw [T.ci] at h1;obtain ⟨s,rfl,hs⟩:=open_str1 T.s h0;obtain ⟨i,rfl,hi⟩:=open_int1 T.i h1
     exact ⟨⟨s,i⟩,rfl,hs,hi⟩) h1
   cases hv
   obtain ⟨_,fs,hv,hf⟩:=open_rows (R:=HFn w (λg=>g<w.heap.size) (fuel+1)) T.fs T.cf (by decide) (λcs x hx=>by
    cases fuel with
    | zero=>simp [DataW.trod] at hx
    | succ fuel =>
     obtain ⟨fs,hu,hfs⟩:=T.f;obtain ⟨hl,hat⟩:=open_fields hu hfs hx;rw [T.cf] at hl;obtain ⟨a,b,c,rfl⟩:=len3 hl;obtain ⟨y0,h0⟩:=hat 0 _ _ rfl;obtain ⟨y1,h1⟩:=hat 1 _ _ rfl;obtain ⟨y2,h2⟩:=hat 2 _ _ rfl;rw [T.cS] at h0;rw [T.ci] at h1;rw [T.ccs] at h2;obtain ⟨s,rfl,hs⟩:=open_str1 T.s h0;obtain ⟨i,rfl,hi⟩:=open_int1 T.i h1;obtain ⟨cls,hcls⟩:=open_cls T.toExTypes (n:=fuel+1+1) (open_ex T.toExTypes (fuel+1+1)) (by omega) h2
     exact ⟨⟨s,i,cls⟩,c,rfl,hs,hi,hcls⟩) h2
   cases hv
   exact ⟨⟨s,rs,fs⟩,HMd.deeper (d:=fuel+1) (by omega) ⟨b,c,rfl,hs,hr,hf⟩⟩
theorem open_mds (T:MdTypes P tE tEs tC tCs tI tS tR tRs tF tFs tM) {tMs:TypeId} (hMs:P.underlying tMs=some (.slice tM)) {v:Value} {dd:DataW H} {ps:List MemPlace} (hc:v.cells.toList = [v]) (h:DataW.Trod enc P w base sp held tMs v dd ps) :
 ∃ d ms,Rows w (λg=>g<w.heap.size) 3 (HMd w (λg=>g<w.heap.size) d) v ms:=by
 obtain ⟨fuel,h⟩:=h
 cases fuel with
 | zero=>simp [DataW.trod] at h
 | succ fuel =>
  obtain ⟨v',xs,hv,hr⟩:=open_rows (R:=HMd w (λg=>g<w.heap.size) fuel) hMs T.cm (by decide) (λcs x hx=>open_md1 T hx) h;rw [hc] at hv
  cases hv
  exact ⟨_,_,hr⟩
end
end
theorem len4 {cs:List Value} (h:cs.length=4):∃ a b c d,cs = [a,b,c,d]:=by
 match cs,h with
 | [a,b,c,d],_=>exact ⟨a,b,c,d,rfl⟩
theorem open_pl {H:Type} {enc:TypeId × Value->H} {P:Program} {w:World} {base:Nat} {sp:Nat->Bool} {held:Bool} {t tS tI:TypeId} {v:Value} {dd:DataW H} {ps:List MemPlace}
 (ht:∃ fs,P.underlying t=some (.struct fs)/\(fs.toList.map λf=>(f.type,f.offset)) = [(tS,0),(tS,1),(tI,2),(tI,3)]) (hS:P.underlying tS=some .string) (hI:P.underlying tI=some (.int .i64)) (c0:P.cellsOf t=4) (c1:P.cellsOf tS=1) (c2:P.cellsOf tI=1)
 (h:DataW.Trod enc P w base sp held t v dd ps):∃ q:Pl,v=.agg #[.string q.mod,.string q.name,.int .i64 q.arity,.int .i64 q.clause]/\okS q.mod/\okS q.name/\okI q.arity/\okI q.clause:=by
 obtain ⟨fuel,h⟩:=h
 cases fuel with
 | zero=>simp [DataW.trod] at h
 | succ fuel =>
  obtain ⟨fs,hu,hfs⟩:=ht;obtain ⟨hl,hat⟩:=open_fields hu hfs h;rw [c0] at hl;obtain ⟨a,b,c,d,hcs⟩:=len4 hl;rw [hcs] at hat;obtain ⟨y0,h0⟩:=hat 0 _ _ rfl;obtain ⟨y1,h1⟩:=hat 1 _ _ rfl;obtain ⟨y2,h2⟩:=hat 2 _ _ rfl;obtain ⟨y3,h3⟩:=hat 3 _ _ rfl;rw [c1] at h0 h1;rw [c2] at h2 h3;obtain ⟨s0,rfl,k0⟩:=open_str1 hS h0;obtain ⟨s1,rfl,k1⟩:=open_str1 hS h1;obtain ⟨n,rfl,k2⟩:=open_int1 hI h2;obtain ⟨s3,rfl,k3⟩:=open_int1 hI h3;exact ⟨⟨s0,s1,n,s3⟩,agg_of_cells (cs:=[.string s0,.string s1,.int .i64 n,.int .i64 s3]) hcs (by simp),k0,k1,k2,k3⟩
end Go.Proofs.YtbdhpganbbandaaGreatDoor
