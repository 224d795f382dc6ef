/-
  Eq ModsEq ExTo
-/
import Derived.Test.YtbdhpganbbandaaGreatDoorP03
set_option maxHeartbeats 16000000
set_option linter.unusedVariables false
set_option maxRecDepth 100000
namespace Go.Proofs.YtbdhpganbbandaaGreatDoor
open Go.ChangeShapes Go.WideShapes Go.ChangeAt Go.RowKit
section
open Go.Proofs.Tryz
theorem eqExpS_of {d:Nat} (hE:EqC 194 (λw v e=>∃ cs,v=.agg cs.toArray/\HEx w All d cs e)) :
 EqC 181 (λw v es=>Rows w All 6 (HEx w All d) v es):=by
 intro w v1 v2 es h1 h2;obtain ⟨p,cap,rfl,hcl,hcm,hx⟩:=h1;obtain ⟨q,cap',rfl,hcl',hcm',hy⟩:=h2;generalize hn:es.length=n at *;have HN:=hid hn;have HX:Hid _:=hx;have HY:Hid _:=hy;have hnb:=sqM hcl hcm;clear hx hy hn;go_enter func181,ntmps181;go_wp2
 go_loopw [5] (λiv wr=>∃ k:Nat,k<=n/\iv=.int .i64 k/\Bz w wr) (λiv _=>n - (intOf iv).toNat)
 case atStart=>exact ⟨0,Nat.zero_le _,rfl,Below.refl _ _⟩
 case round =>
  obtain ⟨k,hk,rfl,hb⟩:=hrel;have HB:=hid hb;by_cases hlt:k<n
  . obtain ⟨x,hxk⟩:=sqA (l:=es) (k:=k) HN.out hlt
    have hne:es≠[]:=(sqE hxk);obtain ⟨g,off,rfl,_,hgl,hat⟩:=HX.out hne;obtain ⟨g',off',rfl,_,hgl',hat'⟩:=HY.out hne;obtain ⟨cs,hcl6,hcs,hex⟩:=hat k x hxk;obtain ⟨cs',hcl6',hcs',hex'⟩:=hat' k x hxk;have E1:∀ w',SameOn All wr w'->HEx w' All d cs x:=λw' hw=>hex.mono (SameOn.trans (sqO hb) hw) sqj;have E2:∀ w',SameOn All wr w'->HEx w' All d cs' x:=λw' hw=>hex'.mono (SameOn.trans (sqO hb) hw) sqj;obtain ⟨c0,c1,c2,c3,c4,c5,rfl⟩:=len6 hcl6;obtain ⟨d0,d1,d2,d3,d4,d5,rfl⟩:=len6 hcl6';have a0:=hcs 0 (by omega);have b0:=hcs' 0 (by omega);have a1:=hcs 1 (by omega);have b1:=hcs' 1 (by omega);have a2:=hcs 2 (by omega);have b2:=hcs' 2 (by omega);have a3:=hcs 3 (by omega);have b3:=hcs' 3 (by omega);have a4:=hcs 4 (by omega);have b4:=hcs' 4 (by omega);have a5:=hcs 5 (by omega);have b5:=hcs' 5 (by omega);rw [<-hb.cell (p:=⟨g,_,none⟩) hgl] at a0 a1 a2 a3 a4 a5;rw [<-hb.cell (p:=⟨g',_,none⟩) hgl'] at b0 b1 b2 b3 b4 b5;simp at a0 a1 a2 a3 a4 a5 b0 b1 b2 b3 b4 b5;clear hb hcs hat hex hcl6 hcs' hat' hex' hcl6' hne;go_wp2
    go_region_with ((go_at_call 194;refine (hE _ _ _ x ⟨_,rfl,E1 _ (by exact sqS)⟩ ⟨_,rfl,E2 _ (by exact sqS)⟩).mono ?_;rintro e w1 ⟨rfl,hb1⟩;have HB1:Hid _:=hb1;clear hb1))
    all_goals go_wp2
    all_goals
     have hbe:Bz w w1:=by
      refine Below.trans ?_ (HB1.out.mono (by exact HB.out.size))
      repeat (first | exact HB.out | apply Below.drew)
     exact ⟨⟨k+1,by omega,by go_num,hbe⟩,by simp [intOf];omega⟩
  . go_wp2
    go_ret;exact ⟨rfl,HB.out⟩
theorem eqClauseS_of {d:Nat} (hE:EqC 158 (λw v e=>∃ cs,v=.agg cs.toArray/\HCl w All (HEx w All d) cs e)) :
 EqC 128 (λw v es=>Rows w All 2 (HCl w All (HEx w All d)) v es):=by
 intro w v1 v2 es h1 h2;obtain ⟨p,cap,rfl,hcl,hcm,hx⟩:=h1;obtain ⟨q,cap',rfl,hcl',hcm',hy⟩:=h2;generalize hn:es.length=n at *;have HN:=hid hn;have HX:Hid _:=hx;have HY:Hid _:=hy;have hnb:=sqM hcl hcm;clear hx hy hn;go_enter func128,ntmps128;go_wp2
 go_loopw [5] (λiv wr=>∃ k:Nat,k<=n/\iv=.int .i64 k/\Bz w wr) (λiv _=>n - (intOf iv).toNat)
 case atStart=>exact ⟨0,Nat.zero_le _,rfl,Below.refl _ _⟩
 case round =>
  obtain ⟨k,hk,rfl,hb⟩:=hrel;have HB:=hid hb;by_cases hlt:k<n
  . obtain ⟨x,hxk⟩:=sqA (l:=es) (k:=k) HN.out hlt
    have hne:es≠[]:=(sqE hxk);obtain ⟨g,off,rfl,_,hgl,hat⟩:=HX.out hne;obtain ⟨g',off',rfl,_,hgl',hat'⟩:=HY.out hne;obtain ⟨cs,hcl6,hcs,hex⟩:=hat k x hxk;obtain ⟨cs',hcl6',hcs',hex'⟩:=hat' k x hxk;have E1:∀ w',SameOn All wr w'->HCl w' All (HEx w' All d) cs x:=λw' hw=>hex.mono (SameOn.trans (sqO hb) hw) sqj (λ_ _=>HEx.mono (SameOn.trans (sqO hb) hw) sqj);have E2:∀ w',SameOn All wr w'->HCl w' All (HEx w' All d) cs' x:=λw' hw=>hex'.mono (SameOn.trans (sqO hb) hw) sqj (λ_ _=>HEx.mono (SameOn.trans (sqO hb) hw) sqj);obtain ⟨c0,c1,rfl⟩:=len2 hcl6;obtain ⟨d0,d1,rfl⟩:=len2 hcl6';have a0:=hcs 0 (by omega);have b0:=hcs' 0 (by omega);have a1:=hcs 1 (by omega);have b1:=hcs' 1 (by omega);rw [<-hb.cell (p:=⟨g,_,none⟩) hgl] at a0 a1;rw [<-hb.cell (p:=⟨g',_,none⟩) hgl'] at b0 b1;simp at a0 a1 b0 b1;clear hb hcs hat hex hcl6 hcs' hat' hex' hcl6' hne;go_wp2
    go_region_with ((go_at_call 158;refine (hE _ _ _ x ⟨_,rfl,E1 _ (by exact sqS)⟩ ⟨_,rfl,E2 _ (by exact sqS)⟩).mono ?_;rintro e w1 ⟨rfl,hb1⟩;have HB1:Hid _:=hb1;clear hb1))
    all_goals go_wp2
    all_goals
     have hbe:Bz w w1:=by
      refine Below.trans ?_ (HB1.out.mono (by exact HB.out.size))
      repeat (first | exact HB.out | apply Below.drew)
     exact ⟨⟨k+1,by omega,by go_num,hbe⟩,by simp [intOf];omega⟩
  . go_wp2
    go_ret;exact ⟨rfl,HB.out⟩
theorem eqFunS_of {d:Nat} (hE:EqC 98 (λw v e=>∃ cs,v=.agg cs.toArray/\HFn w All d cs e)) :
 EqC 66 (λw v es=>Rows w All 3 (HFn w All d) v es):=by
 intro w v1 v2 es h1 h2;obtain ⟨p,cap,rfl,hcl,hcm,hx⟩:=h1;obtain ⟨q,cap',rfl,hcl',hcm',hy⟩:=h2;generalize hn:es.length=n at *;have HN:=hid hn;have HX:Hid _:=hx;have HY:Hid _:=hy;have hnb:=sqM hcl hcm;clear hx hy hn;go_enter func66,ntmps66;go_wp2
 go_loopw [5] (λiv wr=>∃ k:Nat,k<=n/\iv=.int .i64 k/\Bz w wr) (λiv _=>n - (intOf iv).toNat)
 case atStart=>exact ⟨0,Nat.zero_le _,rfl,Below.refl _ _⟩
 case round =>
  obtain ⟨k,hk,rfl,hb⟩:=hrel;have HB:=hid hb;by_cases hlt:k<n
  . obtain ⟨x,hxk⟩:=sqA (l:=es) (k:=k) HN.out hlt
    have hne:es≠[]:=(sqE hxk);obtain ⟨g,off,rfl,_,hgl,hat⟩:=HX.out hne;obtain ⟨g',off',rfl,_,hgl',hat'⟩:=HY.out hne;obtain ⟨cs,hcl6,hcs,hex⟩:=hat k x hxk;obtain ⟨cs',hcl6',hcs',hex'⟩:=hat' k x hxk;have E1:∀ w',SameOn All wr w'->HFn w' All d cs x:=λw' hw=>hex.mono (SameOn.trans (sqO hb) hw) sqj;have E2:∀ w',SameOn All wr w'->HFn w' All d cs' x:=λw' hw=>hex'.mono (SameOn.trans (sqO hb) hw) sqj;obtain ⟨c0,c1,c2,rfl⟩:=len3 hcl6;obtain ⟨d0,d1,d2,rfl⟩:=len3 hcl6';have a0:=hcs 0 (by omega);have b0:=hcs' 0 (by omega);have a1:=hcs 1 (by omega);have b1:=hcs' 1 (by omega);have a2:=hcs 2 (by omega);have b2:=hcs' 2 (by omega);rw [<-hb.cell (p:=⟨g,_,none⟩) hgl] at a0 a1 a2;rw [<-hb.cell (p:=⟨g',_,none⟩) hgl'] at b0 b1 b2;simp at a0 a1 a2 b0 b1 b2;clear hb hcs hat hex hcl6 hcs' hat' hex' hcl6' hne;go_wp2
    go_region_with ((go_at_call 98;refine (hE _ _ _ x ⟨_,rfl,E1 _ (by exact sqS)⟩ ⟨_,rfl,E2 _ (by exact sqS)⟩).mono ?_;rintro e w1 ⟨rfl,hb1⟩;have HB1:Hid _:=hb1;clear hb1))
    all_goals go_wp2
    all_goals
     have hbe:Bz w w1:=by
      refine Below.trans ?_ (HB1.out.mono (by exact HB.out.size))
      repeat (first | exact HB.out | apply Below.drew)
     exact ⟨⟨k+1,by omega,by go_num,hbe⟩,by simp [intOf];omega⟩
  . go_wp2
    go_ret;exact ⟨rfl,HB.out⟩
theorem eqRefS_of {d:Nat} (hE:EqC 97 (λw v e=>∃ cs,v=.agg cs.toArray/\HRf cs e)) :
 EqC 65 (λw v es=>Rows w All 2 (HRf) v es):=by
 intro w v1 v2 es h1 h2;obtain ⟨p,cap,rfl,hcl,hcm,hx⟩:=h1;obtain ⟨q,cap',rfl,hcl',hcm',hy⟩:=h2;generalize hn:es.length=n at *;have HN:=hid hn;have HX:Hid _:=hx;have HY:Hid _:=hy;have hnb:=sqM hcl hcm;clear hx hy hn;go_enter func65,ntmps65;go_wp2
 go_loopw [5] (λiv wr=>∃ k:Nat,k<=n/\iv=.int .i64 k/\Bz w wr) (λiv _=>n - (intOf iv).toNat)
 case atStart=>exact ⟨0,Nat.zero_le _,rfl,Below.refl _ _⟩
 case round =>
  obtain ⟨k,hk,rfl,hb⟩:=hrel;have HB:=hid hb;by_cases hlt:k<n
  . obtain ⟨x,hxk⟩:=sqA (l:=es) (k:=k) HN.out hlt
    have hne:es≠[]:=(sqE hxk);obtain ⟨g,off,rfl,_,hgl,hat⟩:=HX.out hne;obtain ⟨g',off',rfl,_,hgl',hat'⟩:=HY.out hne;obtain ⟨cs,hcl6,hcs,hex⟩:=hat k x hxk;obtain ⟨cs',hcl6',hcs',hex'⟩:=hat' k x hxk;have E1:∀ w',SameOn All wr w'->HRf cs x:=λw' hw=>hex;have E2:∀ w',SameOn All wr w'->HRf cs' x:=λw' hw=>hex';obtain ⟨c0,c1,rfl⟩:=len2 hcl6;obtain ⟨d0,d1,rfl⟩:=len2 hcl6';have a0:=hcs 0 (by omega);have b0:=hcs' 0 (by omega);have a1:=hcs 1 (by omega);have b1:=hcs' 1 (by omega);rw [<-hb.cell (p:=⟨g,_,none⟩) hgl] at a0 a1;rw [<-hb.cell (p:=⟨g',_,none⟩) hgl'] at b0 b1;simp at a0 a1 b0 b1;clear hb hcs hat hex hcl6 hcs' hat' hex' hcl6' hne;go_wp2
    go_region_with ((go_at_call 97;refine (hE _ _ _ x ⟨_,rfl,E1 _ (by exact sqS)⟩ ⟨_,rfl,E2 _ (by exact sqS)⟩).mono ?_;rintro e w1 ⟨rfl,hb1⟩;have HB1:Hid _:=hb1;clear hb1))
    all_goals go_wp2
    all_goals
     have hbe:Bz w w1:=by
      refine Below.trans ?_ (HB1.out.mono (by exact HB.out.size))
      repeat (first | exact HB.out | apply Below.drew)
     exact ⟨⟨k+1,by omega,by go_num,hbe⟩,by simp [intOf];omega⟩
  . go_wp2
    go_ret;exact ⟨rfl,HB.out⟩
theorem eqExp_of {d:Nat} (h0:EqC 181 (λw v es=>Rows w All 6 (HEx w All d) v es)) (h1:EqC 128 (λw v es=>Rows w All 2 (HCl w All (HEx w All d)) v es)) :
 EqC 194 (λw v e=>∃ cs,v=.agg cs.toArray/\HEx w All (d+1) cs e):=by
 intro w v1 v2 e i1 i2;obtain ⟨cs,rfl,kv,cv,rfl,p1,p2,p3,p4,f0,f1⟩:=i1;obtain ⟨cs,rfl,kv',cv',rfl,p1',p2',p3',p4',f0',f1'⟩:=i2;have hal:Bz w ((w.alloc (.cells #[.int .i64 e.kind,.int .i64 e.n,.string e.text,.string e.mod,kv,cv] 74)).alloc (.cells #[.int .i64 e.kind,.int .i64 e.n,.string e.text,.string e.mod,kv',cv'] 74)):=((sqN _ _)).alloc (by simp) _;have HA:=hid hal;have g0:∀ w',SameOn All w w'->Rows w' All 6 (HEx w' All d) kv e.kids:=λw' hw=>f0.mono (hw) sqj (λ_ _ _=>HEx.mono (hw) sqj);have g0':∀ w',SameOn All w w'->Rows w' All 6 (HEx w' All d) kv' e.kids:=λw' hw=>f0'.mono (hw) sqj (λ_ _ _=>HEx.mono (hw) sqj);have g1:∀ w',SameOn All w w'->Rows w' All 2 (HCl w' All (HEx w' All d)) cv e.clauses:=λw' hw=>f1.mono (hw) sqj (λ_ _ _ h=>h.mono (hw) sqj (λ_ _=>HEx.mono (hw) sqj));have g1':∀ w',SameOn All w w'->Rows w' All 2 (HCl w' All (HEx w' All d)) cv' e.clauses:=λw' hw=>f1'.mono (hw) sqj (λ_ _ _ h=>h.mono (hw) sqj (λ_ _=>HEx.mono (hw) sqj));clear hal f0 f0' f1 f1';go_enter func194,ntmps194;go_wp2_with (first | (go_at_call 128;(refine (h1 _ _ _ e.clauses (g1 _ (sqO (HA.out.trans (HB0.out.mono HA.out.size)))) (g1' _ (sqO (HA.out.trans (HB0.out.mono HA.out.size))))).mono ?_;rintro e w1 ⟨rfl,hb1⟩;have HB1:Hid _:=hb1;clear hb1)) | (go_at_call 181;(refine (h0 _ _ _ e.kids (g0 _ (sqO HA.out)) (g0' _ (sqO HA.out))).mono ?_;rintro e w0 ⟨rfl,hb0⟩;have HB0:Hid _:=hb0;have k0:=(hb0.cell (p:=⟨w.heap.size,5,none⟩) (by simp only [alloc_hs];omega)).trans ((sqK (a:=⟨w.heap.size,5,none⟩) (Below.heap_alloc _ _ _ (by simp))).trans (cell_new _ _ _ 5 cv rfl));have m0:=(hb0.cell (p:=⟨(w.alloc (.cells #[.int .i64 e.kind,.int .i64 e.n,.string e.text,.string e.mod,kv,cv] 74)).heap.size,5,none⟩) (by simp)).trans (cell_new _ _ _ 5 cv' rfl);simp only [alloc_hs] at m0;clear hb0)));go_ret;exact ⟨rfl,((HA.out.trans (HB0.out.mono HA.out.size)).trans (HB1.out.mono (HA.out.trans (HB0.out.mono HA.out.size)).size))⟩
theorem eqClause_of {d:Nat} (h0:EqC 181 (λw v es=>Rows w All 6 (HEx w All d) v es)) (h1:EqC 181 (λw v es=>Rows w All 6 (HEx w All d) v es)) :
 EqC 158 (λw v e=>∃ cs,v=.agg cs.toArray/\HCl w All (HEx w All d) cs e):=by
 intro w v1 v2 e i1 i2;obtain ⟨cs,rfl,kv,cv,rfl,f0,f1⟩:=i1;obtain ⟨cs,rfl,kv',cv',rfl,f0',f1'⟩:=i2;have hal:Bz w ((w.alloc (.cells #[kv,cv] 44)).alloc (.cells #[kv',cv'] 44)):=((sqN _ _)).alloc (by simp) _;have HA:=hid hal;have g0:∀ w',SameOn All w w'->Rows w' All 6 (HEx w' All d) kv e.1:=λw' hw=>f0.mono (hw) sqj (λ_ _ _=>HEx.mono (hw) sqj);have g0':∀ w',SameOn All w w'->Rows w' All 6 (HEx w' All d) kv' e.1:=λw' hw=>f0'.mono (hw) sqj (λ_ _ _=>HEx.mono (hw) sqj);have g1:∀ w',SameOn All w w'->Rows w' All 6 (HEx w' All d) cv e.2:=λw' hw=>f1.mono (hw) sqj (λ_ _ _=>HEx.mono (hw) sqj);have g1':∀ w',SameOn All w w'->Rows w' All 6 (HEx w' All d) cv' e.2:=λw' hw=>f1'.mono (hw) sqj (λ_ _ _=>HEx.mono (hw) sqj);clear hal f0 f0' f1 f1';go_enter func158,ntmps158;go_wp2_with (first | (go_at_call 181;(refine (h1 _ _ _ e.2 (g1 _ (sqO (HA.out.trans (HB0.out.mono HA.out.size)))) (g1' _ (sqO (HA.out.trans (HB0.out.mono HA.out.size))))).mono ?_;rintro e w1 ⟨rfl,hb1⟩;have HB1:Hid _:=hb1;clear hb1)) | (go_at_call 181;(refine (h0 _ _ _ e.1 (g0 _ (sqO HA.out)) (g0' _ (sqO HA.out))).mono ?_;rintro e w0 ⟨rfl,hb0⟩;have HB0:Hid _:=hb0;have k0:=(hb0.cell (p:=⟨w.heap.size,1,none⟩) (by simp only [alloc_hs];omega)).trans ((sqK (a:=⟨w.heap.size,1,none⟩) (Below.heap_alloc _ _ _ (by simp))).trans (cell_new _ _ _ 1 cv rfl));have m0:=(hb0.cell (p:=⟨(w.alloc (.cells #[kv,cv] 44)).heap.size,1,none⟩) (by simp)).trans (cell_new _ _ _ 1 cv' rfl);simp only [alloc_hs] at m0;clear hb0)));go_ret;exact ⟨rfl,((HA.out.trans (HB0.out.mono HA.out.size)).trans (HB1.out.mono (HA.out.trans (HB0.out.mono HA.out.size)).size))⟩
theorem eqFun_of {d:Nat} (h0:EqC 128 (λw v es=>Rows w All 2 (HCl w All (HEx w All d)) v es)) :
 EqC 98 (λw v e=>∃ cs,v=.agg cs.toArray/\HFn w All d cs e):=by
 intro w v1 v2 e i1 i2;obtain ⟨cs,rfl,cv,rfl,p1,p2,f0⟩:=i1;obtain ⟨cs,rfl,cv',rfl,p1',p2',f0'⟩:=i2;have hal:Bz w ((w.alloc (.cells #[.string e.name,.int .i64 e.arity,cv] 57)).alloc (.cells #[.string e.name,.int .i64 e.arity,cv'] 57)):=((sqN _ _)).alloc (by simp) _;have HA:=hid hal;have g0:∀ w',SameOn All w w'->Rows w' All 2 (HCl w' All (HEx w' All d)) cv e.clauses:=λw' hw=>f0.mono (hw) sqj (λ_ _ _ h=>h.mono (hw) sqj (λ_ _=>HEx.mono (hw) sqj));have g0':∀ w',SameOn All w w'->Rows w' All 2 (HCl w' All (HEx w' All d)) cv' e.clauses:=λw' hw=>f0'.mono (hw) sqj (λ_ _ _ h=>h.mono (hw) sqj (λ_ _=>HEx.mono (hw) sqj));clear hal f0 f0';go_enter func98,ntmps98;go_wp2_with (first | (go_at_call 128;(refine (h0 _ _ _ e.clauses (g0 _ (sqO HA.out)) (g0' _ (sqO HA.out))).mono ?_;rintro e w0 ⟨rfl,hb0⟩;have HB0:Hid _:=hb0;clear hb0)));go_ret;exact ⟨rfl,(HA.out.trans (HB0.out.mono HA.out.size))⟩
theorem eqRef_of {d:Nat}  :
 EqC 97 (λw v e=>∃ cs,v=.agg cs.toArray/\HRf cs e):=by
 intro w v1 v2 e i1 i2;obtain ⟨cs,rfl,rfl,p1,p2⟩:=i1;obtain ⟨cs,rfl,rfl,p1',p2'⟩:=i2;go_enter func97,ntmps97;go_wp2;go_ret;exact ⟨rfl,((sqN _ _)).alloc (by simp) _⟩
theorem eqModule_of {d:Nat} (h0:EqC 65 (λw v es=>Rows w All 2 (HRf) v es)) (h1:EqC 66 (λw v es=>Rows w All 3 (HFn w All d) v es)) :
 EqC 31 (λw v e=>∃ cs,v=.agg cs.toArray/\HMd w All d cs e):=by
 intro w v1 v2 e i1 i2;obtain ⟨cs,rfl,kv,cv,rfl,p1,f0,f1⟩:=i1;obtain ⟨cs,rfl,kv',cv',rfl,p1',f0',f1'⟩:=i2;have hal:Bz w ((w.alloc (.cells #[.string e.name,kv,cv] 61)).alloc (.cells #[.string e.name,kv',cv'] 61)):=((sqN _ _)).alloc (by simp) _;have HA:=hid hal;have g0:∀ w',SameOn All w w'->Rows w' All 2 HRf kv e.exports:=λw' hw=>f0.mono (hw) sqj (λ_ _ _ h=>h);have g0':∀ w',SameOn All w w'->Rows w' All 2 HRf kv' e.exports:=λw' hw=>f0'.mono (hw) sqj (λ_ _ _ h=>h);have g1:∀ w',SameOn All w w'->Rows w' All 3 (HFn w' All d) cv e.funs:=λw' hw=>f1.mono (hw) sqj (λ_ _ _ h=>h.mono (hw) sqj);have g1':∀ w',SameOn All w w'->Rows w' All 3 (HFn w' All d) cv' e.funs:=λw' hw=>f1'.mono (hw) sqj (λ_ _ _ h=>h.mono (hw) sqj);clear hal f0 f0' f1 f1';go_enter func31,ntmps31;go_wp2_with (first | (go_at_call 66;(refine (h1 _ _ _ e.funs (g1 _ (sqO (HA.out.trans (HB0.out.mono HA.out.size)))) (g1' _ (sqO (HA.out.trans (HB0.out.mono HA.out.size))))).mono ?_;rintro e w1 ⟨rfl,hb1⟩;have HB1:Hid _:=hb1;clear hb1)) | (go_at_call 65;(refine (h0 _ _ _ e.exports (g0 _ (sqO HA.out)) (g0' _ (sqO HA.out))).mono ?_;rintro e w0 ⟨rfl,hb0⟩;have HB0:Hid _:=hb0;have k0:=(hb0.cell (p:=⟨w.heap.size,2,none⟩) (by simp only [alloc_hs];omega)).trans ((sqK (a:=⟨w.heap.size,2,none⟩) (Below.heap_alloc _ _ _ (by simp))).trans (cell_new _ _ _ 2 cv rfl));have m0:=(hb0.cell (p:=⟨(w.alloc (.cells #[.string e.name,kv,cv] 61)).heap.size,2,none⟩) (by simp)).trans (cell_new _ _ _ 2 cv' rfl);simp only [alloc_hs] at m0;clear hb0)));go_ret;exact ⟨rfl,((HA.out.trans (HB0.out.mono HA.out.size)).trans (HB1.out.mono (HA.out.trans (HB0.out.mono HA.out.size)).size))⟩
theorem eqExp_all:∀ d,EqC 194 (λw v e=>∃ cs,v=.agg cs.toArray/\HEx w All d cs e)
 | 0=>λw v v' x ⟨_,_,h⟩ _=>h.elim
 | d+1=>eqExp_of (eqExpS_of (eqExp_all d)) (eqClauseS_of (eqClause_of (eqExpS_of (eqExp_all d)) (eqExpS_of (eqExp_all d))))
theorem eqClauseS_all (d:Nat):EqC 128 (λw v es=>Rows w All 2 (HCl w All (HEx w All d)) v es) :=
 eqClauseS_of (eqClause_of (eqExpS_of (eqExp_all d)) (eqExpS_of (eqExp_all d)))
theorem eqModule_all (d:Nat):EqC 31 (λw v m=>∃ cs,v=.agg cs.toArray/\HMd w All d cs m) :=
 eqModule_of (eqRefS_of (d:=0) (eqRef_of (d:=0))) (eqFunS_of (eqFun_of (eqClauseS_all d)))
theorem eqModuleS_of {d:Nat} (hE:EqC 31 (λw v e=>∃ cs,v=.agg cs.toArray/\HMd w All d cs e)) :
 EqC 10 (λw v es=>Rows w All 3 (HMd w All d) v es):=by
 intro w v1 v2 es h1 h2;obtain ⟨p,cap,rfl,hcl,hcm,hx⟩:=h1;obtain ⟨q,cap',rfl,hcl',hcm',hy⟩:=h2;generalize hn:es.length=n at *;have HN:=hid hn;have HX:Hid _:=hx;have HY:Hid _:=hy;have hnb:=sqM hcl hcm;clear hx hy hn;go_enter func10,ntmps10;go_wp2
 go_loopw [5] (λiv wr=>∃ k:Nat,k<=n/\iv=.int .i64 k/\Bz w wr) (λiv _=>n - (intOf iv).toNat)
 case atStart=>exact ⟨0,Nat.zero_le _,rfl,Below.refl _ _⟩
 case round =>
  obtain ⟨k,hk,rfl,hb⟩:=hrel;have HB:=hid hb;by_cases hlt:k<n
  . obtain ⟨x,hxk⟩:=sqA (l:=es) (k:=k) HN.out hlt
    have hne:es≠[]:=(sqE hxk);obtain ⟨g,off,rfl,_,hgl,hat⟩:=HX.out hne;obtain ⟨g',off',rfl,_,hgl',hat'⟩:=HY.out hne;obtain ⟨cs,hcl6,hcs,hex⟩:=hat k x hxk;obtain ⟨cs',hcl6',hcs',hex'⟩:=hat' k x hxk;have E1:∀ w',SameOn All wr w'->HMd w' All d cs x:=λw' hw=>hex.mono (SameOn.trans (sqO hb) hw) sqj;have E2:∀ w',SameOn All wr w'->HMd w' All d cs' x:=λw' hw=>hex'.mono (SameOn.trans (sqO hb) hw) sqj;obtain ⟨c0,c1,c2,rfl⟩:=len3 hcl6;obtain ⟨d0,d1,d2,rfl⟩:=len3 hcl6';have a0:=hcs 0 (by omega);have b0:=hcs' 0 (by omega);have a1:=hcs 1 (by omega);have b1:=hcs' 1 (by omega);have a2:=hcs 2 (by omega);have b2:=hcs' 2 (by omega);rw [<-hb.cell (p:=⟨g,_,none⟩) hgl] at a0 a1 a2;rw [<-hb.cell (p:=⟨g',_,none⟩) hgl'] at b0 b1 b2;simp at a0 a1 a2 b0 b1 b2;clear hb hcs hat hex hcl6 hcs' hat' hex' hcl6' hne;go_wp2
    go_region_with ((go_at_call 31;refine (hE _ _ _ x ⟨_,rfl,E1 _ (by exact sqS)⟩ ⟨_,rfl,E2 _ (by exact sqS)⟩).mono ?_;rintro e w1 ⟨rfl,hb1⟩;have HB1:Hid _:=hb1;clear hb1))
    all_goals go_wp2
    all_goals
     have hbe:Bz w w1:=by
      refine Below.trans ?_ (HB1.out.mono (by exact HB.out.size))
      repeat (first | exact HB.out | apply Below.drew)
     exact ⟨⟨k+1,by omega,by go_num,hbe⟩,by simp [intOf];omega⟩
  . go_wp2
    go_ret;exact ⟨rfl,HB.out⟩
theorem eqModuleS_all (d:Nat):EqC 10 (λw v es=>Rows w All 3 (HMd w All d) v es):=eqModuleS_of (eqModule_all d)
theorem toExpS_ofO {d:Nat} (hE:ToO 183 (λw v e=>∃ cs,v=.agg cs.toArray/\HEx w All d cs e) (λw v e fp=>∃ cs,v=.agg cs.toArray/\OEx w d cs e fp) (wtEx d)) :
 ToO 164 (λw v es=>Rows w All 6 (HEx w All d) v es) (λw v es fp=>ORows w 74 6 (OEx w d) v es fp) (wtS (wtEx d)):=by
 intro w v es h hwt;obtain ⟨p,cap,rfl,hcl,hcm,hx⟩:=h;generalize hn:es.length=n at *;have HN:=hid hn;have HX:Hid _:=hx;have hnb:n<=16777216:=(by unfold wtS at hwt;omega);have HWT:=hid hwt;clear hx hn hwt;obtain ⟨M,hM,hmk⟩:=make_row (t:=42) (e:=74) (c:=6) underlying42 (by kernel_rfl) w n hnb;have HO:Hid (Made w (w.alloc (.cells M 74)) w.heap.size n 74 6 (λw=>OEx w d) es 0 M.toList []):=Made.start hM (by unfold maxLen;omega)
 try unfold Bz
 generalize hG:w.heap.size=G at *;have HG:=hid hG;go_enter func164,ntmps164;go_wp2
 go_loopw [4] (λiv wr=>∃ (k:Nat) (xs:List Value) (fps:List (List Nat)),k<=n/\iv=.int .i64 k/\Hid (Made w wr G n 74 6 (λw=>OEx w d) es k xs fps)) (λiv _=>n - (intOf iv).toNat)
 case atStart=>exact ⟨0,M.toList,[],Nat.zero_le _,rfl,HO⟩
 case round =>
  obtain ⟨k,xs,fps,hk,rfl,HM⟩:=hrel;by_cases hlt:k<n
  . obtain ⟨x,hxk⟩:=sqA (l:=es) (k:=k) HN.out hlt
    obtain ⟨g,off,rfl,hg,hgl,hat⟩:=HX.out (sqE hxk);obtain ⟨cs,hcl6,hcs,hex⟩:=hat k x hxk;have hbw:Below w.heap.size w wr:=(by rw [HG.out];exact HM.out.below);have hex':∀ w',SameOn All wr w'->HEx w' All d cs x:=λw' hw=>hex.mono (SameOn.trans (sqO hbw) hw) sqj;obtain ⟨z0,z1,z2,z3,z4,z5,rfl⟩:=len6 hcl6;obtain ⟨a0,a1,a2,a3,a4,a5⟩:=sqC6 hcs (by omega);rw [<-hbw.cell (p:=⟨g,_,none⟩) (by show g<w.heap.size;rw [HG.out];exact hgl)] at a0 a1 a2 a3 a4 a5;simp at a0 a1 a2 a3 a4 a5
    have hwx:wtEx d x<=16777216:=by
     have h1:=HWT.out;have h2:=sum_take_succ (wtEx d) es k x hxk;have h3:=sum_take_le (wtEx d) es (k+1);unfold wtS at h1;omega
    clear hbw hcs hat hex hcl6;go_wp2_with (go_at_call 183;go_must (refine (hE _ _ x ⟨_,rfl,hex' _ (by exact sqS)⟩ hwx).mono ?_;rintro e w1 ⟨u,fp,rfl,⟨cs',rfl,hx1⟩,hnd,hrg,hb1⟩;obtain ⟨sk,sn,st,se,p1,n1,q1,p2,n2,q2,hsh⟩:=hx1.shape;subst hsh;have HB1:=hid hb1;have HX1:=hid hx1;have HND:Hid fp.Nodup:=hnd;have HRG:=hid hrg;have o1:=HM.out.own.kept (grownBy_belowR (r:=none) hb1) (Or.inr (by simp [Value.ownBlock]));have HO1:=hid o1;have f0:=o1.frozenAt (k * 6);obtain ⟨y0,g0⟩:=own_someR o1 (k * 6) (by omega);have f1:=o1.frozenAt (k * 6+1);obtain ⟨y1,g1⟩:=own_someR o1 (k * 6+1) (by omega);have f2:=o1.frozenAt (k * 6+2);obtain ⟨y2,g2⟩:=own_someR o1 (k * 6+2) (by omega);have f3:=o1.frozenAt (k * 6+3);obtain ⟨y3,g3⟩:=own_someR o1 (k * 6+3) (by omega);have f4:=o1.frozenAt (k * 6+4);obtain ⟨y4,g4⟩:=own_someR o1 (k * 6+4) (by omega);have f5:=o1.frozenAt (k * 6+5);obtain ⟨y5,g5⟩:=own_someR o1 (k * 6+5) (by omega);clear o1 hb1 hx1 hnd hrg));have sd:=stored6 HO1.out (k * 6) (.int .i64 sk) (.int .i64 sn) (.string st) (.string se) (.slice p1 n1 q1) (.slice p2 n2 q2);have hlen:xs.length=n * 6:=HO1.out.1;exact ⟨⟨k+1,_,_,by omega,by go_num,HM.out.step (λw w' cs x f h hk=>h.keep hk) hxk HB1.out HX1.out HND.out HRG.out rfl sd.1 sd.2 (λm hm=>set6_other hm) (λj hj=>set6_self (by omega) j hj)⟩,by simp [intOf];omega⟩
  . obtain rfl:k=n:=by omega
    obtain ⟨fp,r1,r2,r3⟩:=HM.out.done HN.out (by unfold maxLen;omega);have R1:=hid r1;have R2:Hid (fp.Nodup/\∀ a ∈ fp,G<=a/\a<wr.heap.size):=⟨r2,r3⟩;clear r1 r2 r3;go_wp2;go_ret;exact ⟨_,fp,rfl,R1.out,R2.out.1,R2.out.2,HM.out.below⟩
theorem toClauseS_ofO {d:Nat} (hE:ToO 136 (λw v e=>∃ cs,v=.agg cs.toArray/\HCl w All (HEx w All d) cs e) (λw v e fp=>∃ cs,v=.agg cs.toArray/\OCls w d cs e fp) (wtCl (wtEx d))) :
 ToO 110 (λw v es=>Rows w All 2 (HCl w All (HEx w All d)) v es) (λw v es fp=>ORows w 44 2 (OCls w d) v es fp) (wtS (wtCl (wtEx d))):=by
 intro w v es h hwt;obtain ⟨p,cap,rfl,hcl,hcm,hx⟩:=h;generalize hn:es.length=n at *;have HN:=hid hn;have HX:Hid _:=hx;have hnb:n<=16777216:=(by unfold wtS at hwt;omega);have HWT:=hid hwt;clear hx hn hwt;obtain ⟨M,hM,hmk⟩:=make_row (t:=55) (e:=44) (c:=2) underlying55 (by kernel_rfl) w n hnb;have HO:Hid (Made w (w.alloc (.cells M 44)) w.heap.size n 44 2 (λw=>OCls w d) es 0 M.toList []):=Made.start hM (by unfold maxLen;omega)
 try unfold Bz
 generalize hG:w.heap.size=G at *;have HG:=hid hG;go_enter func110,ntmps110;go_wp2
 go_loopw [4] (λiv wr=>∃ (k:Nat) (xs:List Value) (fps:List (List Nat)),k<=n/\iv=.int .i64 k/\Hid (Made w wr G n 44 2 (λw=>OCls w d) es k xs fps)) (λiv _=>n - (intOf iv).toNat)
 case atStart=>exact ⟨0,M.toList,[],Nat.zero_le _,rfl,HO⟩
 case round =>
  obtain ⟨k,xs,fps,hk,rfl,HM⟩:=hrel;by_cases hlt:k<n
  . obtain ⟨x,hxk⟩:=sqA (l:=es) (k:=k) HN.out hlt
    obtain ⟨g,off,rfl,hg,hgl,hat⟩:=HX.out (sqE hxk);obtain ⟨cs,hcl6,hcs,hex⟩:=hat k x hxk;have hbw:Below w.heap.size w wr:=(by rw [HG.out];exact HM.out.below);have hex':∀ w',SameOn All wr w'->HCl w' All (HEx w' All d) cs x:=λw' hw=>hex.mono (SameOn.trans (sqO hbw) hw) sqj (λ_ _=>HEx.mono (SameOn.trans (sqO hbw) hw) sqj);obtain ⟨z0,z1,rfl⟩:=len2 hcl6;obtain ⟨a0,a1⟩:=sqC2 hcs (by omega);rw [<-hbw.cell (p:=⟨g,_,none⟩) (by show g<w.heap.size;rw [HG.out];exact hgl)] at a0 a1;simp at a0 a1
    have hwx:wtCl (wtEx d) x<=16777216:=by
     have h1:=HWT.out;have h2:=sum_take_succ (wtCl (wtEx d)) es k x hxk;have h3:=sum_take_le (wtCl (wtEx d)) es (k+1);unfold wtS at h1;omega
    clear hbw hcs hat hex hcl6;go_wp2_with (go_at_call 136;go_must (refine (hE _ _ x ⟨_,rfl,hex' _ (by exact sqS)⟩ hwx).mono ?_;rintro e w1 ⟨u,fp,rfl,⟨cs',rfl,hx1⟩,hnd,hrg,hb1⟩;obtain ⟨p1,n1,q1,p2,n2,q2,hsh⟩:=hx1.shape;subst hsh;have HB1:=hid hb1;have HX1:=hid hx1;have HND:Hid fp.Nodup:=hnd;have HRG:=hid hrg;have o1:=HM.out.own.kept (grownBy_belowR (r:=none) hb1) (Or.inr (by simp [Value.ownBlock]));have HO1:=hid o1;have f0:=o1.frozenAt (k * 2);obtain ⟨y0,g0⟩:=own_someR o1 (k * 2) (by omega);have f1:=o1.frozenAt (k * 2+1);obtain ⟨y1,g1⟩:=own_someR o1 (k * 2+1) (by omega);clear o1 hb1 hx1 hnd hrg));have sd:=stored2 HO1.out (k * 2) (.slice p1 n1 q1) (.slice p2 n2 q2);have hlen:xs.length=n * 2:=HO1.out.1;exact ⟨⟨k+1,_,_,by omega,by go_num,Made.step (O:=λw=>OCls w d) (c:=2) (λw w' cs x f h hk=>OCls.keep h hk) HM.out hxk HB1.out HX1.out HND.out HRG.out rfl sd.1 sd.2 (λm hm=>set2_other hm) (λj hj=>set2_self (by omega) j hj)⟩,by simp [intOf];omega⟩
  . obtain rfl:k=n:=by omega
    obtain ⟨fp,r1,r2,r3⟩:=HM.out.done HN.out (by unfold maxLen;omega);have R1:=hid r1;have R2:Hid (fp.Nodup/\∀ a ∈ fp,G<=a/\a<wr.heap.size):=⟨r2,r3⟩;clear r1 r2 r3;go_wp2;go_ret;exact ⟨_,fp,rfl,R1.out,R2.out.1,R2.out.2,HM.out.below⟩
theorem toClause_ofO {d:Nat} (h0:ToO 164 (λw v es=>Rows w All 6 (HEx w All d) v es) (λw v es fp=>ORows w 74 6 (OEx w d) v es fp) (wtS (wtEx d))) (h1:ToO 164 (λw v es=>Rows w All 6 (HEx w All d) v es) (λw v es fp=>ORows w 74 6 (OEx w d) v es fp) (wtS (wtEx d))) :
 ToO 136 (λw v e=>∃ cs,v=.agg cs.toArray/\HCl w All (HEx w All d) cs e) (λw v e fp=>∃ cs,v=.agg cs.toArray/\OCl w (OEx w d) cs e fp) (wtCl (wtEx d)):=by
 intro w v e i1 hwt;obtain ⟨cs,rfl,v0,v1,rfl,f0,f1⟩:=i1;have hw0:wtS (wtEx d) e.1<=16777216:=(by unfold wtCl at hwt;omega);have E0:∀ w',SameOn All w w'->Rows w' All 6 (HEx w' All d) v0 e.1:=λw' hw=>f0.mono hw sqj (λ_ _ _=>HEx.mono hw sqj);have hw1:wtS (wtEx d) e.2<=16777216:=(by unfold wtCl at hwt;omega);have E1:∀ w',SameOn All w w'->Rows w' All 6 (HEx w' All d) v1 e.2:=λw' hw=>f1.mono hw sqj (λ_ _ _=>HEx.mono hw sqj);obtain ⟨p0,c0,rfl,_⟩:=id f0;obtain ⟨p1,c1,rfl,_⟩:=id f1;clear f0 f1;go_enter func136,ntmps136;go_wp2_with fail;have hal:Below w.heap.size w (((w.alloc (.cells #[.slice p0 e.1.length c0,.slice p1 e.2.length c1] 178)).alloc (.cells #[.slice none 0 0,.slice none 0 0] 44)).alloc (.cells #[.slice none 0 0,.slice none 0 0] 44)):=(((sqN _ _)).alloc (by simp only [alloc_hs];omega) _).alloc (by simp only [alloc_hs];omega) _;refine (h0 _ _ e.1 (E0 _ (sqO hal)) hw0).mono ?_;rintro ex w1 ⟨u,fA,rfl,r0,ndA,rgA,hb⟩;have bA:=((Blk.new (w:=w) (cs:=#[.slice p0 e.1.length c0,.slice p1 e.2.length c1]) (t:=178)).alloc (o:=.cells #[.slice none 0 0,.slice none 0 0] 44)).alloc (o:=.cells #[.slice none 0 0,.slice none 0 0] 44);have bR:=(Blk.new (w:=(w.alloc (.cells #[.slice p0 e.1.length c0,.slice p1 e.2.length c1] 178))) (cs:=#[.slice none 0 0,.slice none 0 0]) (t:=44)).alloc (o:=.cells #[.slice none 0 0,.slice none 0 0] 44);have bO:=(Blk.new (w:=((w.alloc (.cells #[.slice p0 e.1.length c0,.slice p1 e.2.length c1] 178)).alloc (.cells #[.slice none 0 0,.slice none 0 0] 44))) (cs:=#[.slice none 0 0,.slice none 0 0]) (t:=44));simp only [alloc_hs] at bA bR bO rgA
 replace bA:=bA.below hb (by simp only [alloc_hs];omega)
 replace bR:=bR.below hb (by simp only [alloc_hs];omega)
 replace bO:=bO.below hb (by simp only [alloc_hs];omega)
 have B1:Below w.heap.size w w1:=hal.trans (hb.mono hal.size);have z1:w.heap.size+3<=w1.heap.size:=(by have:=hb.size;simp only [alloc_hs] at this;omega);have Z1:=hid z1;have T0:=hid r0;have NA:=hid ndA;have GA:=hid rgA;clear hal hb z1 ndA rgA;obtain ⟨p0',c0',hu,_⟩:=r0.shape;subst hu;clear r0;have a1:=bA.cell 1 _ rfl;have o0:=bO.cell 0 _ rfl;have g0:=bO.frozen 0;have HA:=hid bA;have HR:=hid bR;have HO:Hid (Blk w1 (w.heap.size+1+1) #[.slice none 0 0,.slice none 0 0] 44):=bO;have HB1:=hid B1;clear bA bR bO B1;go_wp2_with fail;have hp:Below w.heap.size w (w1.setCell ⟨w.heap.size+1+1,0,none⟩ (.slice p0' e.1.length c0')):=HB1.out.setCell (by show _<=w.heap.size+1+1;omega) _;refine (h1 _ _ e.2 (E1 _ (sqO hp)) hw1).mono ?_;rintro ex w2 ⟨u,fB,rfl,r1,ndB,rgB,hb⟩;have bA:=((HA.out.other (p:=⟨w.heap.size+1+1,0,none⟩) (v:=(.slice p0' e.1.length c0')) (by show w.heap.size≠w.heap.size+1+1;omega)).below hb (by have:=Z1.out;simp only [setCell_hs];omega));have bR:=((HR.out.other (p:=⟨w.heap.size+1+1,0,none⟩) (v:=(.slice p0' e.1.length c0')) (by show w.heap.size+1≠w.heap.size+1+1;omega)).below hb (by have:=Z1.out;simp only [setCell_hs];omega));have bO:=((HO.out.same (j:=0) (v:=(.slice p0' e.1.length c0')) (cs':=#[.slice p0' e.1.length c0',.slice none 0 0]) rfl).below hb (by have:=Z1.out;simp only [setCell_hs];omega));have B2:Below w.heap.size w w2:=hp.trans (hb.mono hp.size);simp only [setCell_hs] at rgB
 have k01:KeepOn fA w1 w2:=λa ha=>by
  have h:=GA.out a ha;exact (hb.block a (by simp only [setCell_hs];exact h.2)).trans (Below.heap_setCell _ _ _ _ (by show a≠w.heap.size+1+1;omega))
 have T0:Hid (ORows w2 74 6 (OEx w2 d) (.slice p0' e.1.length c0') e.1 fA):=(by have h:=T0.out;exact h.keep k01 (λcs x f _ hs h=>h.keep (k01.sub hs)));have T1:=hid r1;have sz2:w1.heap.size<=w2.heap.size:=(by have:=hb.size;simp only [setCell_hs] at this;exact this)
 have HND:Hid ((fA ++ fB).Nodup):=by
  show List.Nodup _;rw [List.nodup_append];exact ⟨NA.out,ndB,λa ha b hb=>by have:=GA.out a ha;have:=rgB b hb;omega⟩
 have HRG:Hid (∀ a ∈ fA ++ fB,w.heap.size+1+1+1<=a/\a<w2.heap.size):=λa ha=>by
  rcases List.mem_append.1 ha with ha | ha
  . have:=GA.out a ha;omega
  . have:=rgB a ha;have:=Z1.out;omega
 have HB2:=hid B2;obtain ⟨p1',c1',hu,_⟩:=r1.shape;subst hu;clear hp hb r1 HA HR HO HB1 k01 ndB rgB NA GA sz2 B2;have o0:=bO.cell 0 _ rfl;have q0:=bR.cell 0 _ rfl;have k0:=bR.frozen 0;have o1:=bO.cell 1 _ rfl;have q1:=bR.cell 1 _ rfl;have k1:=bR.frozen 1;have g1:=bO.frozen 1;clear bA bR bO;go_wp2_with fail;have sf:SameOn (λg=>w.heap.size+1+1+1<=g) w2 (((w2.setCell ⟨w.heap.size+1+1,1,none⟩ (.slice p1' e.2.length c1')).setCell ⟨w.heap.size+1,0,none⟩ (.slice p0' e.1.length c0')).setCell ⟨w.heap.size+1,1,none⟩ (.slice p1' e.2.length c1')):=SameOn.setCell (SameOn.setCell (SameOn.setCell (sqO (Below.refl _ _)) (by show ¬ (_<=w.heap.size+1+1);omega) _) (by show ¬ (_<=w.heap.size+1);omega) _) (by show ¬ (_<=w.heap.size+1);omega) _;have bf:Below w.heap.size w (((w2.setCell ⟨w.heap.size+1+1,1,none⟩ (.slice p1' e.2.length c1')).setCell ⟨w.heap.size+1,0,none⟩ (.slice p0' e.1.length c0')).setCell ⟨w.heap.size+1,1,none⟩ (.slice p1' e.2.length c1')):=Below.setCell (Below.setCell (Below.setCell (HB2.out) (by show _<=w.heap.size+1+1;omega) _) (by show _<=w.heap.size+1;omega) _) (by show _<=w.heap.size+1;omega) _;have kf:KeepOn (fA ++ fB) w2 (((w2.setCell ⟨w.heap.size+1+1,1,none⟩ (.slice p1' e.2.length c1')).setCell ⟨w.heap.size+1,0,none⟩ (.slice p0' e.1.length c0')).setCell ⟨w.heap.size+1,1,none⟩ (.slice p1' e.2.length c1')):=λa ha=>sf.2 a (HRG.out a ha).1 (HRG.out a ha).2;have kA:=kf.sub (fp':=fA) (λa ha=>by simp [ha]);have kB:=kf.sub (fp':=fB) (λa ha=>by simp [ha]);have U0:=T0.out.keep kA (λcs x f _ hs h=>h.keep (kA.sub hs));have U1:=T1.out.keep kB (λcs x f _ hs h=>h.keep (kB.sub hs))
 exact bodyPost_ret (v:=.agg #[.slice p0' e.1.length c0',.slice p1' e.2.length c1']) (by simp [results,results136,go_sem,q0,q1]) rfl
  ⟨_,fA ++ fB,rfl,⟨_,rfl,_,_,fA,fB,rfl,rfl,U0,U1⟩,HND.out,λa ha=>⟨by have:=(HRG.out a ha).1;omega,Nat.lt_of_lt_of_le (HRG.out a ha).2 sf.1⟩,bf⟩
theorem toExp_ofO {d:Nat} (h0:ToO 164 (λw v es=>Rows w All 6 (HEx w All d) v es) (λw v es fp=>ORows w 74 6 (OEx w d) v es fp) (wtS (wtEx d))) (h1:ToO 110 (λw v es=>Rows w All 2 (HCl w All (HEx w All d)) v es) (λw v es fp=>ORows w 44 2 (OCls w d) v es fp) (wtS (wtCl (wtEx d)))) :
 ToO 183 (λw v e=>∃ cs,v=.agg cs.toArray/\HEx w All (d+1) cs e) (λw v e fp=>∃ cs,v=.agg cs.toArray/\OEx w (d+1) cs e fp) (wtEx (d+1)):=by
 intro w v e i1 hwt;obtain ⟨cs,rfl,v0,v1,rfl,s0,s1,s2,s3,f0,f1⟩:=i1;have hw0:wtS (wtEx d) e.kids<=16777216:=(by unfold wtEx at hwt;omega);have E0:∀ w',SameOn All w w'->Rows w' All 6 (HEx w' All d) v0 e.kids:=λw' hw=>f0.mono hw sqj (λ_ _ _=>HEx.mono hw sqj);have hw1:wtS (wtCl (wtEx d)) e.clauses<=16777216:=(by unfold wtEx at hwt;omega);have E1:∀ w',SameOn All w w'->Rows w' All 2 (HCl w' All (HEx w' All d)) v1 e.clauses:=λw' hw=>f1.mono hw sqj (λ_ _ _ h=>h.mono hw sqj (λ_ _=>HEx.mono hw sqj));obtain ⟨p0,c0,rfl,_⟩:=id f0;obtain ⟨p1,c1,rfl,_⟩:=id f1;clear f0 f1;go_enter func183,ntmps183;go_wp2_with fail;have hal:Below w.heap.size w (((w.alloc (.cells #[.int .i64 e.kind,.int .i64 e.n,.string e.text,.string e.mod,.slice p0 e.kids.length c0,.slice p1 e.clauses.length c1] 241)).alloc (.cells #[.int .i64 0,.int .i64 0,.string ⟨#[]⟩,.string ⟨#[]⟩,.slice none 0 0,.slice none 0 0] 74)).alloc (.cells #[.int .i64 e.kind,.int .i64 e.n,.string e.text,.string e.mod,.slice none 0 0,.slice none 0 0] 74)):=(((sqN _ _)).alloc (by simp only [alloc_hs];omega) _).alloc (by simp only [alloc_hs];omega) _;refine (h0 _ _ e.kids (E0 _ (sqO hal)) hw0).mono ?_;rintro ex w1 ⟨u,fA,rfl,r0,ndA,rgA,hb⟩;have bA:=((Blk.new (w:=w) (cs:=#[.int .i64 e.kind,.int .i64 e.n,.string e.text,.string e.mod,.slice p0 e.kids.length c0,.slice p1 e.clauses.length c1]) (t:=241)).alloc (o:=.cells #[.int .i64 0,.int .i64 0,.string ⟨#[]⟩,.string ⟨#[]⟩,.slice none 0 0,.slice none 0 0] 74)).alloc (o:=.cells #[.int .i64 e.kind,.int .i64 e.n,.string e.text,.string e.mod,.slice none 0 0,.slice none 0 0] 74);have bR:=(Blk.new (w:=(w.alloc (.cells #[.int .i64 e.kind,.int .i64 e.n,.string e.text,.string e.mod,.slice p0 e.kids.length c0,.slice p1 e.clauses.length c1] 241))) (cs:=#[.int .i64 0,.int .i64 0,.string ⟨#[]⟩,.string ⟨#[]⟩,.slice none 0 0,.slice none 0 0]) (t:=74)).alloc (o:=.cells #[.int .i64 e.kind,.int .i64 e.n,.string e.text,.string e.mod,.slice none 0 0,.slice none 0 0] 74);have bO:=(Blk.new (w:=((w.alloc (.cells #[.int .i64 e.kind,.int .i64 e.n,.string e.text,.string e.mod,.slice p0 e.kids.length c0,.slice p1 e.clauses.length c1] 241)).alloc (.cells #[.int .i64 0,.int .i64 0,.string ⟨#[]⟩,.string ⟨#[]⟩,.slice none 0 0,.slice none 0 0] 74))) (cs:=#[.int .i64 e.kind,.int .i64 e.n,.string e.text,.string e.mod,.slice none 0 0,.slice none 0 0]) (t:=74));simp only [alloc_hs] at bA bR bO rgA
 replace bA:=bA.below hb (by simp only [alloc_hs];omega)
 replace bR:=bR.below hb (by simp only [alloc_hs];omega)
 replace bO:=bO.below hb (by simp only [alloc_hs];omega)
 have B1:Below w.heap.size w w1:=hal.trans (hb.mono hal.size);have z1:w.heap.size+3<=w1.heap.size:=(by have:=hb.size;simp only [alloc_hs] at this;omega);have Z1:=hid z1;have T0:=hid r0;have NA:=hid ndA;have GA:=hid rgA;clear hal hb z1 ndA rgA;obtain ⟨p0',c0',hu,_⟩:=r0.shape;subst hu;clear r0;have a5:=bA.cell 5 _ rfl;have o4:=bO.cell 4 _ rfl;have g4:=bO.frozen 4;have HA:=hid bA;have HR:=hid bR;have HO:Hid (Blk w1 (w.heap.size+1+1) #[.int .i64 e.kind,.int .i64 e.n,.string e.text,.string e.mod,.slice none 0 0,.slice none 0 0] 74):=bO;have HB1:=hid B1;clear bA bR bO B1;go_wp2_with fail;have hp:Below w.heap.size w (w1.setCell ⟨w.heap.size+1+1,4,none⟩ (.slice p0' e.kids.length c0')):=HB1.out.setCell (by show _<=w.heap.size+1+1;omega) _;refine (h1 _ _ e.clauses (E1 _ (sqO hp)) hw1).mono ?_;rintro ex w2 ⟨u,fB,rfl,r1,ndB,rgB,hb⟩;have bA:=((HA.out.other (p:=⟨w.heap.size+1+1,4,none⟩) (v:=(.slice p0' e.kids.length c0')) (by show w.heap.size≠w.heap.size+1+1;omega)).below hb (by have:=Z1.out;simp only [setCell_hs];omega));have bR:=((HR.out.other (p:=⟨w.heap.size+1+1,4,none⟩) (v:=(.slice p0' e.kids.length c0')) (by show w.heap.size+1≠w.heap.size+1+1;omega)).below hb (by have:=Z1.out;simp only [setCell_hs];omega));have bO:=((HO.out.same (j:=4) (v:=(.slice p0' e.kids.length c0')) (cs':=#[.int .i64 e.kind,.int .i64 e.n,.string e.text,.string e.mod,.slice p0' e.kids.length c0',.slice none 0 0]) rfl).below hb (by have:=Z1.out;simp only [setCell_hs];omega));have B2:Below w.heap.size w w2:=hp.trans (hb.mono hp.size);simp only [setCell_hs] at rgB
 have k01:KeepOn fA w1 w2:=λa ha=>by
  have h:=GA.out a ha;exact (hb.block a (by simp only [setCell_hs];exact h.2)).trans (Below.heap_setCell _ _ _ _ (by show a≠w.heap.size+1+1;omega))
 have T0:Hid (ORows w2 74 6 (OEx w2 d) (.slice p0' e.kids.length c0') e.kids fA):=(by have h:=T0.out;exact h.keep k01 (λcs x f _ hs h=>h.keep (k01.sub hs)));have T1:=hid r1;have sz2:w1.heap.size<=w2.heap.size:=(by have:=hb.size;simp only [setCell_hs] at this;exact this)
 have HND:Hid ((fA ++ fB).Nodup):=by
  show List.Nodup _;rw [List.nodup_append];exact ⟨NA.out,ndB,λa ha b hb=>by have:=GA.out a ha;have:=rgB b hb;omega⟩
 have HRG:Hid (∀ a ∈ fA ++ fB,w.heap.size+1+1+1<=a/\a<w2.heap.size):=λa ha=>by
  rcases List.mem_append.1 ha with ha | ha
  . have:=GA.out a ha;omega
  . have:=rgB a ha;have:=Z1.out;omega
 have HB2:=hid B2;obtain ⟨p1',c1',hu,_⟩:=r1.shape;subst hu;clear hp hb r1 HA HR HO HB1 k01 ndB rgB NA GA sz2 B2;have o0:=bO.cell 0 _ rfl;have q0:=bR.cell 0 _ rfl;have k0:=bR.frozen 0;have o1:=bO.cell 1 _ rfl;have q1:=bR.cell 1 _ rfl;have k1:=bR.frozen 1;have o2:=bO.cell 2 _ rfl;have q2:=bR.cell 2 _ rfl;have k2:=bR.frozen 2;have o3:=bO.cell 3 _ rfl;have q3:=bR.cell 3 _ rfl;have k3:=bR.frozen 3;have o4:=bO.cell 4 _ rfl;have q4:=bR.cell 4 _ rfl;have k4:=bR.frozen 4;have o5:=bO.cell 5 _ rfl;have q5:=bR.cell 5 _ rfl;have k5:=bR.frozen 5;have g5:=bO.frozen 5;clear bA bR bO;go_wp2_with fail;have sf:SameOn (λg=>w.heap.size+1+1+1<=g) w2 (((((((w2.setCell ⟨w.heap.size+1+1,5,none⟩ (.slice p1' e.clauses.length c1')).setCell ⟨w.heap.size+1,0,none⟩ (.int .i64 e.kind)).setCell ⟨w.heap.size+1,1,none⟩ (.int .i64 e.n)).setCell ⟨w.heap.size+1,2,none⟩ (.string e.text)).setCell ⟨w.heap.size+1,3,none⟩ (.string e.mod)).setCell ⟨w.heap.size+1,4,none⟩ (.slice p0' e.kids.length c0')).setCell ⟨w.heap.size+1,5,none⟩ (.slice p1' e.clauses.length c1')):=SameOn.setCell (SameOn.setCell (SameOn.setCell (SameOn.setCell (SameOn.setCell (SameOn.setCell (SameOn.setCell (sqO (Below.refl _ _)) (by show ¬ (_<=w.heap.size+1+1);omega) _) (by show ¬ (_<=w.heap.size+1);omega) _) (by show ¬ (_<=w.heap.size+1);omega) _) (by show ¬ (_<=w.heap.size+1);omega) _) (by show ¬ (_<=w.heap.size+1);omega) _) (by show ¬ (_<=w.heap.size+1);omega) _) (by show ¬ (_<=w.heap.size+1);omega) _;have bf:Below w.heap.size w (((((((w2.setCell ⟨w.heap.size+1+1,5,none⟩ (.slice p1' e.clauses.length c1')).setCell ⟨w.heap.size+1,0,none⟩ (.int .i64 e.kind)).setCell ⟨w.heap.size+1,1,none⟩ (.int .i64 e.n)).setCell ⟨w.heap.size+1,2,none⟩ (.string e.text)).setCell ⟨w.heap.size+1,3,none⟩ (.string e.mod)).setCell ⟨w.heap.size+1,4,none⟩ (.slice p0' e.kids.length c0')).setCell ⟨w.heap.size+1,5,none⟩ (.slice p1' e.clauses.length c1')):=Below.setCell (Below.setCell (Below.setCell (Below.setCell (Below.setCell (Below.setCell (Below.setCell (HB2.out) (by show _<=w.heap.size+1+1;omega) _) (by show _<=w.heap.size+1;omega) _) (by show _<=w.heap.size+1;omega) _) (by show _<=w.heap.size+1;omega) _) (by show _<=w.heap.size+1;omega) _) (by show _<=w.heap.size+1;omega) _) (by show _<=w.heap.size+1;omega) _;have kf:KeepOn (fA ++ fB) w2 (((((((w2.setCell ⟨w.heap.size+1+1,5,none⟩ (.slice p1' e.clauses.length c1')).setCell ⟨w.heap.size+1,0,none⟩ (.int .i64 e.kind)).setCell ⟨w.heap.size+1,1,none⟩ (.int .i64 e.n)).setCell ⟨w.heap.size+1,2,none⟩ (.string e.text)).setCell ⟨w.heap.size+1,3,none⟩ (.string e.mod)).setCell ⟨w.heap.size+1,4,none⟩ (.slice p0' e.kids.length c0')).setCell ⟨w.heap.size+1,5,none⟩ (.slice p1' e.clauses.length c1')):=λa ha=>sf.2 a (HRG.out a ha).1 (HRG.out a ha).2;have kA:=kf.sub (fp':=fA) (λa ha=>by simp [ha]);have kB:=kf.sub (fp':=fB) (λa ha=>by simp [ha]);have U0:=T0.out.keep kA (λcs x f _ hs h=>h.keep (kA.sub hs));have U1:=T1.out.keep kB (λcs x f _ hs h=>OCls.keep h (kB.sub hs))
 exact bodyPost_ret (v:=.agg #[.int .i64 e.kind,.int .i64 e.n,.string e.text,.string e.mod,.slice p0' e.kids.length c0',.slice p1' e.clauses.length c1']) (by simp [results,results183,go_sem,q0,q1,q2,q3,q4,q5]) rfl
  ⟨_,fA ++ fB,rfl,⟨_,rfl,_,_,fA,fB,rfl,rfl,s0,s1,s2,s3,U0,U1⟩,HND.out,λa ha=>⟨by have:=(HRG.out a ha).1;omega,Nat.lt_of_lt_of_le (HRG.out a ha).2 sf.1⟩,bf⟩
theorem toExp_own:∀ d,ToO 183 (λw v e=>∃ cs,v=.agg cs.toArray/\HEx w All d cs e) (λw v e fp=>∃ cs,v=.agg cs.toArray/\OEx w d cs e fp) (wtEx d)
 | 0=>λw v x ⟨_,_,h⟩ _=>h.elim
 | d+1=>toExp_ofO (toExpS_ofO (toExp_own d)) (toClauseS_ofO (toClause_ofO (toExpS_ofO (toExp_own d)) (toExpS_ofO (toExp_own d))))
theorem toClause_own (d:Nat):ToO 136 (λw v e=>∃ cs,v=.agg cs.toArray/\HCl w All (HEx w All d) cs e) (λw v e fp=>∃ cs,v=.agg cs.toArray/\OCl w (OEx w d) cs e fp) (wtCl (wtEx d)) :=
 toClause_ofO (toExpS_ofO (toExp_own d)) (toExpS_ofO (toExp_own d))
theorem toClauseS_own (d:Nat):ToO 110 (λw v es=>Rows w All 2 (HCl w All (HEx w All d)) v es) (λw v es fp=>ORows w 44 2 (OCl w (OEx w d)) v es fp) (wtS (wtCl (wtEx d))):=toClauseS_ofO (toClause_own d)
end
end Go.Proofs.YtbdhpganbbandaaGreatDoor
