/-
  ModOkImplB
-/
import Derived.Test.YtbdhpganbbandaaGreatDoorP12
set_option maxHeartbeats 16000000
set_option linter.unusedVariables false
set_option maxRecDepth 100000
namespace Go.Proofs.YtbdhpganbbandaaGreatDoor
open Go.ChangeShapes Go.WideShapes Go.ChangeAt Go.RowKit
section
open Go.Proofs.Tryz
theorem exShape {w:World} {S:Nat->Prop} {d:Nat} {cs:List Value} {x:Ex} (h:HEx w S d cs x):∃ sk sn st se p1 n1 q1 p2 n2 q2,cs = [.int .i64 sk,.int .i64 sn,.string st,.string se,.slice p1 n1 q1,.slice p2 n2 q2]:=by
 cases d with
 | zero=>exact h.elim
 | succ d =>
  obtain ⟨kv,cv,rfl,_,_,_,_,⟨p1,c1,rfl,_⟩,⟨p2,c2,rfl,_⟩⟩:=h;exact ⟨_,_,_,_,_,_,_,_,_,_,rfl⟩
theorem clShape {w:World} {S:Nat->Prop} {R:List Value->Ex->Prop} {cs:List Value} {x:Cl} (h:HCl w S R cs x):∃ p1 n1 q1 p2 n2 q2,cs = [.slice p1 n1 q1,.slice p2 n2 q2]:=by
 obtain ⟨pv,bv,rfl,⟨p1,c1,rfl,_⟩,⟨p2,c2,rfl,_⟩⟩:=h;exact ⟨_,_,_,_,_,_,rfl⟩
def XpC (d:Nat):Prop :=
 ∀ (w:World) (cs:List Value) (x:Ex) (pat:Bool) (deep:Int),Tabs w->HEx w All d cs x->0<=deep->deep<=41->Calls prog 204 #[.agg cs.toArray,.int .i64 deep,.bool pat] w λe w'=>e=.returned (.bool (exOk d x pat (40 - deep)))/\Bz w w'
def XsC (d:Nat):Prop :=
 ∀ (w:World) (v:Value) (es:List Ex) (pat:Bool) (deep:Int),Tabs w->Rows w All 6 (HEx w All d) v es->0<=deep->deep<=41->Calls prog 197 #[v,.int .i64 deep,.bool pat] w λe w'=>e=.returned (.bool (es.all (λy=>exOk d y pat (40 - deep))))/\Bz w w'
def KcC (d:Nat):Prop :=
 ∀ (w:World) (cs:List Value) (c:Cl) (pats deep:Int),Tabs w->HCl w All (HEx w All d) cs c->0<=deep->deep<=41->Calls prog 187 #[.agg cs.toArray,.int .i64 pats,.int .i64 deep] w λe w'=>e=.returned (.bool (clB (λy q=>exOk d y q (40 - deep)) c pats))/\Bz w w'
def KsC (d:Nat):Prop :=
 ∀ (w:World) (v:Value) (cl:List Cl) (deep:Int),Tabs w->Rows w All 2 (HCl w All (HEx w All d)) v cl->0<=deep->deep<=41->Calls prog 222 #[v,.int .i64 deep] w λe w'=>e=.returned (.bool (cl.all (λc=>clB (λy q=>exOk d y q (40 - deep)) c 1)))/\Bz w w'
theorem expsI_of {d:Nat} (hE:XpC d):XsC d:=by
 intro w v es pat deep hT h hd0 hd1;have HT:=hid hT;obtain ⟨p,cap,rfl,hcl,hcm,hx⟩:=h;have hnb:=sqM hcl hcm;generalize hn:es.length=n at *;have HN:=hid hn;have HX:=hid hx;clear hx hn hT;go_enter func197,ntmps197;go_wp2_with fail
 go_loopw [11] (λiv wr=>∃ k:Nat,k<=n/\iv=.int .i64 k/\Hid ((es.take k).all (λy=>exOk d y pat (40 - deep))=true)/\Bz w wr) (λiv _=>n - (intOf iv).toNat)
 case atStart=>exact ⟨0,Nat.zero_le _,rfl,by show _=_;simp,Below.refl _ _⟩
 case round =>
  obtain ⟨k,hk,rfl,hall,hb⟩:=hrel;have HB:=hid hb;by_cases hlt:k<n
  . obtain ⟨x,hxk⟩:=sqA (l:=es) (k:=k) HN.out hlt
    obtain ⟨g,off,rfl,-,hgl,hat⟩:=HX.out (sqE hxk);obtain ⟨cs,hcsl,hcs,r1⟩:=hat k x hxk;obtain ⟨sk,sn,st,se,p1,n1,q1,p2,n2,q2,rfl⟩:=exShape r1;have E1:∀ w',Bz w w'->HEx w' All d [.int .i64 sk,.int .i64 sn,.string st,.string se,.slice p1 n1 q1,.slice p2 n2 q2] x:=λw' hw=>r1.mono (sqO hw) sqj;obtain ⟨a0,a1,a2,a3,a4,a5⟩:=sqC6 hcs (by omega);rw [<-hb.cell (p:=⟨g,_,none⟩) hgl] at a0 a1 a2 a3 a4 a5;simp at a0 a1 a2 a3 a4 a5;have hki:(k:Int)<(n:Int):=(by omega);have hk0:=sqI k;have HBA:Hid (Bz w (wr.alloc (.cells #[.int .i64 sk,.int .i64 sn,.string st,.string se,.slice p1 n1 q1,.slice p2 n2 q2] 74))):=HB.out.alloc HB.out.size _;clear hb hcs hat hcsl r1;generalize hcv:exOk d x pat (40 - deep)=cv;have HCV:=hid hcv;have HC2:Hid (cv=true->(es.take (k+1)).all (λy=>exOk d y pat (40 - deep))=true):=λh=>allT_succ _ es k x hxk hall.out (hcv.trans h);have HC3:Hid (cv=false->es.all (λy=>exOk d y pat (40 - deep))=false):=λh=>allT_at _ es k x hxk (hcv.trans h);clear hcv;go_wp2_with fail;refine (hE _ _ x pat deep (HT.out.below HBA.out) (E1 _ HBA.out) (by omega) (by omega)).mono ?_;rintro e w4 ⟨rfl,hb4⟩;rw [HCV.out];have HB4:=hid (HBA.out.trans (hb4.mono HBA.out.size));clear hb4 HCV
    cases cv with
    | true =>
     have HT':Hid _:=HC2.out rfl;clear HC2 HC3;go_wp2_with fail;exact ⟨⟨k+1,by omega,by go_num,HT'.out,HB4.out⟩,by simp [intOf];omega⟩
    | false =>
     have HF:=hid (HC3.out rfl);clear HC2 HC3;go_wp2;go_ret;exact ⟨by first | (rw [HF.out];rfl) | (rw [HF.out];simp),HB4.out⟩
  . have HD:Hid (es.all (λy=>exOk d y pat (40 - deep))=true):=by
     have:=hall.out
     rwa [List.take_of_length_le (by rw [HN.out];omega)] at this
    clear hb;go_wp2;go_ret;exact ⟨by first | (rw [HD.out];rfl) | (rw [HD.out];simp),HB.out⟩
theorem casesI_of {d:Nat} (hE:KcC d):KsC d:=by
 intro w v cl deep hT h hd0 hd1;have HT:=hid hT;obtain ⟨p,cap,rfl,hcl,hcm,hx⟩:=h;have hnb:=sqM hcl hcm;generalize hn:cl.length=n at *;have HN:=hid hn;have HX:=hid hx;clear hx hn hT;go_enter func222,ntmps222;go_wp2_with fail
 go_loopw [9] (λiv wr=>∃ k:Nat,k<=n/\iv=.int .i64 k/\Hid ((cl.take k).all (λc=>clB (λy q=>exOk d y q (40 - deep)) c 1)=true)/\Bz w wr) (λiv _=>n - (intOf iv).toNat)
 case atStart=>exact ⟨0,Nat.zero_le _,rfl,by show _=_;simp,Below.refl _ _⟩
 case round =>
  obtain ⟨k,hk,rfl,hall,hb⟩:=hrel;have HB:=hid hb;by_cases hlt:k<n
  . obtain ⟨x,hxk⟩:=sqA (l:=cl) (k:=k) HN.out hlt
    obtain ⟨g,off,rfl,-,hgl,hat⟩:=HX.out (sqE hxk);obtain ⟨cs,hcsl,hcs,r1⟩:=hat k x hxk;obtain ⟨p1,n1,q1,p2,n2,q2,rfl⟩:=clShape r1;have E1:∀ w',Bz w w'->HCl w' All (HEx w' All d) [.slice p1 n1 q1,.slice p2 n2 q2] x:=λw' hw=>r1.mono (sqO hw) sqj (λ_ _ h=>h.mono (sqO hw) sqj);obtain ⟨a0,a1⟩:=sqC2 hcs (by omega);rw [<-hb.cell (p:=⟨g,_,none⟩) hgl] at a0 a1;simp at a0 a1;have hki:(k:Int)<(n:Int):=(by omega);have hk0:=sqI k;have HBA:Hid (Bz w (wr.alloc (.cells #[.slice p1 n1 q1,.slice p2 n2 q2] 44))):=HB.out.alloc HB.out.size _;clear hb hcs hat hcsl r1;generalize hcv:clB (λy q=>exOk d y q (40 - deep)) x 1=cv;have HCV:=hid hcv;have HC2:Hid (cv=true->(cl.take (k+1)).all (λc=>clB (λy q=>exOk d y q (40 - deep)) c 1)=true):=λh=>allT_succ _ cl k x hxk hall.out (hcv.trans h);have HC3:Hid (cv=false->cl.all (λc=>clB (λy q=>exOk d y q (40 - deep)) c 1)=false):=λh=>allT_at _ cl k x hxk (hcv.trans h);clear hcv;go_wp2_with fail;refine (hE _ _ x 1 deep (HT.out.below HBA.out) (E1 _ HBA.out) (by omega) (by omega)).mono ?_;rintro e w4 ⟨rfl,hb4⟩;rw [HCV.out];have HB4:=hid (HBA.out.trans (hb4.mono HBA.out.size));clear hb4 HCV
    cases cv with
    | true =>
     have HT':Hid _:=HC2.out rfl;clear HC2 HC3;go_wp2_with fail;exact ⟨⟨k+1,by omega,by go_num,HT'.out,HB4.out⟩,by simp [intOf];omega⟩
    | false =>
     have HF:=hid (HC3.out rfl);clear HC2 HC3;go_wp2;go_ret;exact ⟨by first | (rw [HF.out];rfl) | (rw [HF.out];simp),HB4.out⟩
  . have HD:Hid (cl.all (λc=>clB (λy q=>exOk d y q (40 - deep)) c 1)=true):=by
     have:=hall.out
     rwa [List.take_of_length_le (by rw [HN.out];omega)] at this
    clear hb;go_wp2;go_ret;exact ⟨by first | (rw [HD.out];rfl) | (rw [HD.out];simp),HB.out⟩
theorem clauseI_of {d:Nat} (hE:XsC d):KcC d:=by
 intro w cs c pats deep hT h hd0 hd1;have HT:=hid hT;obtain ⟨pv,bv,rfl,f0,f1⟩:=h;obtain ⟨ps,bs⟩:=c;simp only at f0 f1;have BL:Hid (Bz w (w.alloc (.cells #[pv,bv] 44))):=(sqN _ _);have F0:∀ w',Bz w w'->Rows w' All 6 (HEx w' All d) pv ps:=λw' hw=>f0.mono (sqO hw) sqj (λ_ _ _ h=>h.mono (sqO hw) sqj);have F1:∀ w',Bz w w'->Rows w' All 6 (HEx w' All d) bv bs:=λw' hw=>f1.mono (sqO hw) sqj (λ_ _ _ h=>h.mono (sqO hw) sqj);obtain ⟨p,cap,rfl,hcl,hcm,-⟩:=f0;obtain ⟨q,cap',rfl,hcl',hcm',-⟩:=f1;have hnb:=sqM hcl hcm;have hmb:=sqM hcl' hcm';have hv:clB (λy q=>exOk d y q (40 - deep)) (ps,bs) pats=(decide ((ps.length:Int)=pats) && (inB bs.length 1 20 && (ps.all (λy=>exOk d y true (40 - deep)) && bs.all (λy=>exOk d y false (40 - deep))))):=rfl;rw [hv];clear hv hT;generalize ps.length=n at *;generalize bs.length=m at *;by_cases c1:(n:Int)=pats
 . subst c1
   rw [decide_eq_true rfl]
   cases hin:inB m 1 20 with
   | false =>
    go_enter func187,ntmps187;go_wp2_with (first | (go_at_call 61;go_must (refine (withinM_any _ _ _ _).mono ?_;rintro e w9 ⟨rfl,rfl⟩;rw [hin])));go_ret;exact ⟨by simp,BL.out⟩
   | true =>
    cases h1:ps.all (λy=>exOk d y true (40 - deep)) with
    | false =>
     go_enter func187,ntmps187;go_wp2_with (first | (go_at_call 61;go_must (refine (withinM_any _ _ _ _).mono ?_;rintro e w9 ⟨rfl,rfl⟩;rw [hin])));refine (hE _ _ ps true deep (HT.out.below BL.out) (F0 _ BL.out) (by omega) (by omega)).mono ?_;rintro e w2 ⟨rfl,hb2⟩;rw [h1];have B2:=hid (BL.out.trans (hb2.mono BL.out.size));clear hb2;go_wp2;go_ret;exact ⟨by simp,B2.out⟩
    | true =>
     go_enter func187,ntmps187;go_wp2_with (first | (go_at_call 61;go_must (refine (withinM_any _ _ _ _).mono ?_;rintro e w9 ⟨rfl,rfl⟩;rw [hin])));refine (hE _ _ ps true deep (HT.out.below BL.out) (F0 _ BL.out) (by omega) (by omega)).mono ?_;rintro e w2 ⟨rfl,hb2⟩;rw [h1];have B2:=hid (BL.out.trans (hb2.mono BL.out.size));have hbk:=(Blk.new (w:=w) (cs:=#[.slice p n cap,.slice q m cap']) (t:=44)).next hb2;obtain ⟨a0,a1⟩:=sqB2 hbk;clear hb2 hbk;go_wp2_with fail;refine (hE _ _ bs false deep (HT.out.below B2.out) (F1 _ B2.out) (by omega) (by omega)).mono ?_;rintro e w3 ⟨rfl,hb3⟩;have B3:=hid (B2.out.trans (hb3.mono B2.out.size));clear hb3;go_wp2;go_ret;exact ⟨by simp,B3.out⟩
 . have c2:((n:Int) == pats)=false:=by simpa using c1
   rw [decide_eq_false c1];go_enter func187,ntmps187;go_wp2;go_ret;exact ⟨by simp,BL.out⟩
theorem plainB_parts {k n:Int} {t m:ByteArray} {nk nc:Nat} (h:plainB k n t m nk nc=true):kidLo k<=nk/\(nk:Int)<=kidHi k/\clsLo k<=nc/\(nc:Int)<=clsHi k:=by
 unfold plainB at h;simp only [Bool.and_eq_true,inB,decide_eq_true_eq] at h;omega
theorem expI_of {d:Nat} (h0:XpC d) (h1:XsC d) (h2:KsC d):XpC (d+1):=by
 intro w cs x pat deep hT h hd0 hd1;have HT:=hid hT;obtain ⟨kv,cv,rfl,-,-,hts,hms,f0,f1⟩:=h;obtain ⟨kx,nx,tx,mx,ks,cl⟩:=x;simp only [Ex.kind,Ex.n,Ex.text,Ex.mod,Ex.kids,Ex.clauses] at *;have F0:∀ w',Bz w w'->Rows w' All 6 (HEx w' All d) kv ks:=λw' hw=>f0.mono (sqO hw) sqj (λ_ _ _ h=>h.mono (sqO hw) sqj);have F1:∀ w',Bz w w'->Rows w' All 2 (HCl w' All (HEx w' All d)) cv cl:=λw' hw=>f1.mono (sqO hw) sqj (λ_ _ _ h=>h.mono (sqO hw) sqj (λ_ _ h=>h.mono (sqO hw) sqj));obtain ⟨p,cap,rfl,hcl,hcm,hx⟩:=f0;obtain ⟨q,cap',rfl,hcl',hcm',-⟩:=f1;have hnb:=sqM hcl hcm;have hmb:=sqM hcl' hcm';have hv:=exOk_eq d kx nx tx mx ks cl pat (40 - deep);have e1:40 - deep - 1=40 - (deep+1):=(by omega);rw [e1] at hv;rw [hv];clear hv e1 hT;have BL:Hid (∀ (cs:Array Value) (t:TypeId),Bz w (w.alloc (.cells cs t))):=λcs t=>(sqN _ _);generalize hn:ks.length=n at *;generalize hm:cl.length=m at *;have HN:=hid hn;have HM:=hid hm;have HX:=hid hx;clear hx hn hm;by_cases c1:40<deep
 . rw [decide_eq_false (by omega)]
   go_enter func204,ntmps204;go_wp2;go_ret;exact ⟨by simp,BL.out _ _⟩
 rw [decide_eq_true (by omega:0<=40 - deep)]
 cases hpl:plainB kx nx tx mx n m with
 | false =>
  go_enter func204,ntmps204;go_wp2_with fail;refine (partsOk_any _ _ _ _ _ _ _ _ _ _ _ hts hms hnb hmb (HT.out.below (BL.out _ _))).mono ?_;rintro e W1 ⟨rfl,hb⟩;rw [hpl];have B1:Hid (Bz w W1):=((sqN _ _)).trans (hb.mono (by simp));have bA:Hid (Blk W1 w.heap.size #[.int .i64 kx,.int .i64 nx,.string tx,.string mx,.slice p n cap,.slice q m cap'] 74):=(Blk.new (w:=w)).next hb;obtain ⟨xa0,xa1,xa2,xa3,xa4,xa5⟩:=sqB6 bA.out;clear hb;go_wp2;go_ret;exact ⟨by simp,B1.out⟩
 | true =>
  obtain ⟨r0,r1⟩:=plainB_range hpl;obtain ⟨g0,g1,g2,g3⟩:=plainB_parts hpl;simp only [Bool.true_and]
  have nocl:kx≠10->cl = []:=λh=>by
   have:clsHi kx=0:=(by simp [clsHi,h]);have h3:=HM.out;exact List.length_eq_zero_iff.1 (by omega)
  by_cases k3:kx=3
  . subst k3
    have hk:ks = []:=by
     have:kidHi 3=0:=(by decide);have h3:=HN.out;exact List.length_eq_zero_iff.1 (by omega)
    have HV:Hid ((patB 3 pat && (kidsB (λy q=>exOk d y q (40 - (deep+1))) ks (pat || decide ((3:Int)=9)) pat && cl.all (λc=>clB (λy q=>exOk d y q (40 - (deep+1))) c 1)))=pat):=by
     show _=_
     rw [hk,nocl (by omega)];cases pat <;> simp [kidsB,patB]
    clear nocl hk g0 g1 g2 g3;rw [HV.out];go_enter func204,ntmps204;go_wp2_with fail;refine (partsOk_any _ _ _ _ _ _ _ _ _ _ _ hts hms hnb hmb (HT.out.below (BL.out _ _))).mono ?_;rintro e W1 ⟨rfl,hb⟩;rw [hpl];have B1:Hid (Bz w W1):=((sqN _ _)).trans (hb.mono (by simp));have bA:Hid (Blk W1 w.heap.size #[.int .i64 3,.int .i64 nx,.string tx,.string mx,.slice p n cap,.slice q m cap'] 74):=(Blk.new (w:=w)).next hb;obtain ⟨xa0,xa1,xa2,xa3,xa4,xa5⟩:=sqB6 bA.out;clear hb;go_wp2;go_ret;exact ⟨by rfl,B1.out⟩
  by_cases k46:kx=4\/kx=6
  . have HV:Hid ((patB kx pat && (kidsB (λy q=>exOk d y q (40 - (deep+1))) ks (pat || decide (kx=9)) pat && cl.all (λc=>clB (λy q=>exOk d y q (40 - (deep+1))) c 1)))=ks.all (λy=>exOk d y pat (40 - (deep+1)))):=by
     show _=_;have e9:decide (kx=9)=false:=(by simp;omega)
     have ep:patB kx pat=true:=by cases pat <;> simp [patB] <;> omega
     rw [nocl (by omega),e9,Bool.or_false,kidsB_same,ep];simp
    clear nocl g0 g1 g2 g3;rw [HV.out]
    rcases k46 with k4 | k4
    . subst k4
      go_enter func204,ntmps204;go_wp2_with fail;refine (partsOk_any _ _ _ _ _ _ _ _ _ _ _ hts hms hnb hmb (HT.out.below (BL.out _ _))).mono ?_;rintro e W1 ⟨rfl,hb⟩;rw [hpl];have B1:Hid (Bz w W1):=((sqN _ _)).trans (hb.mono (by simp));have bA:Hid (Blk W1 w.heap.size #[.int .i64 4,.int .i64 nx,.string tx,.string mx,.slice p n cap,.slice q m cap'] 74):=(Blk.new (w:=w)).next hb;obtain ⟨xa0,xa1,xa2,xa3,xa4,xa5⟩:=sqB6 bA.out;clear hb;go_wp2_with fail;refine (h1 _ _ ks pat (deep+1) (HT.out.below B1.out) (F0 _ B1.out) (by omega) (by omega)).mono ?_;rintro e w3 ⟨rfl,hb3⟩;have B3:=hid (B1.out.trans (hb3.mono B1.out.size));clear hb3;go_wp2;go_ret;exact ⟨by rfl,B3.out⟩
    . subst k4
      go_enter func204,ntmps204;go_wp2_with fail;refine (partsOk_any _ _ _ _ _ _ _ _ _ _ _ hts hms hnb hmb (HT.out.below (BL.out _ _))).mono ?_;rintro e W1 ⟨rfl,hb⟩;rw [hpl];have B1:Hid (Bz w W1):=((sqN _ _)).trans (hb.mono (by simp));have bA:Hid (Blk W1 w.heap.size #[.int .i64 6,.int .i64 nx,.string tx,.string mx,.slice p n cap,.slice q m cap'] 74):=(Blk.new (w:=w)).next hb;obtain ⟨xa0,xa1,xa2,xa3,xa4,xa5⟩:=sqB6 bA.out;clear hb;go_wp2_with fail;refine (h1 _ _ ks pat (deep+1) (HT.out.below B1.out) (F0 _ B1.out) (by omega) (by omega)).mono ?_;rintro e w3 ⟨rfl,hb3⟩;have B3:=hid (B1.out.trans (hb3.mono B1.out.size));clear hb3;go_wp2;go_ret;exact ⟨by rfl,B3.out⟩
  by_cases kl:kx=0\/kx=1\/kx=2\/kx=5
  . have hk:ks = []:=by
     have:kidHi kx=0:=by rcases kl with rfl | rfl | rfl | rfl <;> decide
     have h3:=HN.out;exact List.length_eq_zero_iff.1 (by omega)
    have HV:Hid ((patB kx pat && (kidsB (λy q=>exOk d y q (40 - (deep+1))) ks (pat || decide (kx=9)) pat && cl.all (λc=>clB (λy q=>exOk d y q (40 - (deep+1))) c 1)))=true):=by
     show _=_
     have ep:patB kx pat=true:=by cases pat <;> simp [patB] <;> omega
     rw [hk,nocl (by omega),ep];simp [kidsB]
    clear nocl hk g0 g1 g2 g3;rw [HV.out]
    rcases kl with k4 | k4 | k4 | k4
    . subst k4
      go_enter func204,ntmps204;go_wp2_with fail;refine (partsOk_any _ _ _ _ _ _ _ _ _ _ _ hts hms hnb hmb (HT.out.below (BL.out _ _))).mono ?_;rintro e W1 ⟨rfl,hb⟩;rw [hpl];have B1:Hid (Bz w W1):=((sqN _ _)).trans (hb.mono (by simp));have bA:Hid (Blk W1 w.heap.size #[.int .i64 0,.int .i64 nx,.string tx,.string mx,.slice p n cap,.slice q m cap'] 74):=(Blk.new (w:=w)).next hb;obtain ⟨xa0,xa1,xa2,xa3,xa4,xa5⟩:=sqB6 bA.out;clear hb;go_wp2;go_ret;exact ⟨by rfl,B1.out⟩
    . subst k4
      go_enter func204,ntmps204;go_wp2_with fail;refine (partsOk_any _ _ _ _ _ _ _ _ _ _ _ hts hms hnb hmb (HT.out.below (BL.out _ _))).mono ?_;rintro e W1 ⟨rfl,hb⟩;rw [hpl];have B1:Hid (Bz w W1):=((sqN _ _)).trans (hb.mono (by simp));have bA:Hid (Blk W1 w.heap.size #[.int .i64 1,.int .i64 nx,.string tx,.string mx,.slice p n cap,.slice q m cap'] 74):=(Blk.new (w:=w)).next hb;obtain ⟨xa0,xa1,xa2,xa3,xa4,xa5⟩:=sqB6 bA.out;clear hb;go_wp2;go_ret;exact ⟨by rfl,B1.out⟩
    . subst k4
      go_enter func204,ntmps204;go_wp2_with fail;refine (partsOk_any _ _ _ _ _ _ _ _ _ _ _ hts hms hnb hmb (HT.out.below (BL.out _ _))).mono ?_;rintro e W1 ⟨rfl,hb⟩;rw [hpl];have B1:Hid (Bz w W1):=((sqN _ _)).trans (hb.mono (by simp));have bA:Hid (Blk W1 w.heap.size #[.int .i64 2,.int .i64 nx,.string tx,.string mx,.slice p n cap,.slice q m cap'] 74):=(Blk.new (w:=w)).next hb;obtain ⟨xa0,xa1,xa2,xa3,xa4,xa5⟩:=sqB6 bA.out;clear hb;go_wp2;go_ret;exact ⟨by rfl,B1.out⟩
    . subst k4
      go_enter func204,ntmps204;go_wp2_with fail;refine (partsOk_any _ _ _ _ _ _ _ _ _ _ _ hts hms hnb hmb (HT.out.below (BL.out _ _))).mono ?_;rintro e W1 ⟨rfl,hb⟩;rw [hpl];have B1:Hid (Bz w W1):=((sqN _ _)).trans (hb.mono (by simp));have bA:Hid (Blk W1 w.heap.size #[.int .i64 5,.int .i64 nx,.string tx,.string mx,.slice p n cap,.slice q m cap'] 74):=(Blk.new (w:=w)).next hb;obtain ⟨xa0,xa1,xa2,xa3,xa4,xa5⟩:=sqB6 bA.out;clear hb;go_wp2;go_ret;exact ⟨by rfl,B1.out⟩
  cases pat with
  | true =>
   have HV:Hid ((patB kx true && (kidsB (λy q=>exOk d y q (40 - (deep+1))) ks (true || decide (kx=9)) true && cl.all (λc=>clB (λy q=>exOk d y q (40 - (deep+1))) c 1)))=false):=by
    show _=_;have ep:patB kx true=false:=(by simp [patB];omega);rw [ep];rfl
   clear nocl g0 g1 g2 g3;rw [HV.out]
   rcases (by omega:kx=7\/kx=8\/kx=9\/kx=10) with k4 | k4 | k4 | k4
   . subst k4
     go_enter func204,ntmps204;go_wp2_with fail;refine (partsOk_any _ _ _ _ _ _ _ _ _ _ _ hts hms hnb hmb (HT.out.below (BL.out _ _))).mono ?_;rintro e W1 ⟨rfl,hb⟩;rw [hpl];have B1:Hid (Bz w W1):=((sqN _ _)).trans (hb.mono (by simp));have bA:Hid (Blk W1 w.heap.size #[.int .i64 7,.int .i64 nx,.string tx,.string mx,.slice p n cap,.slice q m cap'] 74):=(Blk.new (w:=w)).next hb;obtain ⟨xa0,xa1,xa2,xa3,xa4,xa5⟩:=sqB6 bA.out;clear hb;go_wp2;go_ret;exact ⟨by rfl,B1.out⟩
   . subst k4
     go_enter func204,ntmps204;go_wp2_with fail;refine (partsOk_any _ _ _ _ _ _ _ _ _ _ _ hts hms hnb hmb (HT.out.below (BL.out _ _))).mono ?_;rintro e W1 ⟨rfl,hb⟩;rw [hpl];have B1:Hid (Bz w W1):=((sqN _ _)).trans (hb.mono (by simp));have bA:Hid (Blk W1 w.heap.size #[.int .i64 8,.int .i64 nx,.string tx,.string mx,.slice p n cap,.slice q m cap'] 74):=(Blk.new (w:=w)).next hb;obtain ⟨xa0,xa1,xa2,xa3,xa4,xa5⟩:=sqB6 bA.out;clear hb;go_wp2;go_ret;exact ⟨by rfl,B1.out⟩
   . subst k4
     go_enter func204,ntmps204;go_wp2_with fail;refine (partsOk_any _ _ _ _ _ _ _ _ _ _ _ hts hms hnb hmb (HT.out.below (BL.out _ _))).mono ?_;rintro e W1 ⟨rfl,hb⟩;rw [hpl];have B1:Hid (Bz w W1):=((sqN _ _)).trans (hb.mono (by simp));have bA:Hid (Blk W1 w.heap.size #[.int .i64 9,.int .i64 nx,.string tx,.string mx,.slice p n cap,.slice q m cap'] 74):=(Blk.new (w:=w)).next hb;obtain ⟨xa0,xa1,xa2,xa3,xa4,xa5⟩:=sqB6 bA.out;clear hb;go_wp2;go_ret;exact ⟨by rfl,B1.out⟩
   . subst k4
     go_enter func204,ntmps204;go_wp2_with fail;refine (partsOk_any _ _ _ _ _ _ _ _ _ _ _ hts hms hnb hmb (HT.out.below (BL.out _ _))).mono ?_;rintro e W1 ⟨rfl,hb⟩;rw [hpl];have B1:Hid (Bz w W1):=((sqN _ _)).trans (hb.mono (by simp));have bA:Hid (Blk W1 w.heap.size #[.int .i64 10,.int .i64 nx,.string tx,.string mx,.slice p n cap,.slice q m cap'] 74):=(Blk.new (w:=w)).next hb;obtain ⟨xa0,xa1,xa2,xa3,xa4,xa5⟩:=sqB6 bA.out;clear hb;go_wp2;go_ret;exact ⟨by rfl,B1.out⟩
  | false =>
   have ep:patB kx false=true:=(by simp [patB];omega);rw [ep];clear ep;by_cases k78:kx=7\/kx=8
   . have HV:Hid ((true && (kidsB (λy q=>exOk d y q (40 - (deep+1))) ks (false || decide (kx=9)) false && cl.all (λc=>clB (λy q=>exOk d y q (40 - (deep+1))) c 1)))=ks.all (λy=>exOk d y false (40 - (deep+1)))):=by
      show _=_;have e9:decide (kx=9)=false:=(by simp;omega);rw [nocl (by omega),e9,Bool.or_false,kidsB_same];simp
     clear nocl g0 g1 g2 g3;rw [HV.out]
     rcases k78 with k4 | k4
     . subst k4
       go_enter func204,ntmps204;go_wp2_with fail;refine (partsOk_any _ _ _ _ _ _ _ _ _ _ _ hts hms hnb hmb (HT.out.below (BL.out _ _))).mono ?_;rintro e W1 ⟨rfl,hb⟩;rw [hpl];have B1:Hid (Bz w W1):=((sqN _ _)).trans (hb.mono (by simp));have bA:Hid (Blk W1 w.heap.size #[.int .i64 7,.int .i64 nx,.string tx,.string mx,.slice p n cap,.slice q m cap'] 74):=(Blk.new (w:=w)).next hb;obtain ⟨xa0,xa1,xa2,xa3,xa4,xa5⟩:=sqB6 bA.out;clear hb;go_wp2_with fail;refine (h1 _ _ ks false (deep+1) (HT.out.below B1.out) (F0 _ B1.out) (by omega) (by omega)).mono ?_;rintro e w3 ⟨rfl,hb3⟩;have B3:=hid (B1.out.trans (hb3.mono B1.out.size));clear hb3;go_wp2;go_ret;exact ⟨by rfl,B3.out⟩
     . subst k4
       go_enter func204,ntmps204;go_wp2_with fail;refine (partsOk_any _ _ _ _ _ _ _ _ _ _ _ hts hms hnb hmb (HT.out.below (BL.out _ _))).mono ?_;rintro e W1 ⟨rfl,hb⟩;rw [hpl];have B1:Hid (Bz w W1):=((sqN _ _)).trans (hb.mono (by simp));have bA:Hid (Blk W1 w.heap.size #[.int .i64 8,.int .i64 nx,.string tx,.string mx,.slice p n cap,.slice q m cap'] 74):=(Blk.new (w:=w)).next hb;obtain ⟨xa0,xa1,xa2,xa3,xa4,xa5⟩:=sqB6 bA.out;clear hb;go_wp2_with fail;refine (h1 _ _ ks false (deep+1) (HT.out.below B1.out) (F0 _ B1.out) (by omega) (by omega)).mono ?_;rintro e w3 ⟨rfl,hb3⟩;have B3:=hid (B1.out.trans (hb3.mono B1.out.size));clear hb3;go_wp2;go_ret;exact ⟨by rfl,B3.out⟩
   by_cases k9:kx=9
   . subst k9
     have hn2:n=2:=by
      have a1:kidLo 9=2:=(by decide);have a2:kidHi 9=2:=(by decide);omega
     subst hn2
     obtain ⟨xa,xb,hks⟩:∃ a b,ks = [a,b]:=by
      have h3:=HN.out
      match ks,h3 with
      | [a,b],_=>exact ⟨a,b,rfl⟩
     have HV:Hid ((true && (kidsB (λy q=>exOk d y q (40 - (deep+1))) ks (false || decide ((9:Int)=9)) false && cl.all (λc=>clB (λy q=>exOk d y q (40 - (deep+1))) c 1)))=(exOk d xa true (40 - (deep+1)) && exOk d xb false (40 - (deep+1)))):=by
      show _=_;rw [nocl (by omega),hks];simp [kidsB]
     rw [HV.out];obtain ⟨g,off,rfl,-,hgl,hat⟩:=HX.out (by rw [hks];simp);obtain ⟨cs,-,hcs,ra⟩:=hat 0 xa (by rw [hks];rfl);obtain ⟨cs',-,hcs',rb⟩:=hat 1 xb (by rw [hks];rfl);obtain ⟨sk,sn,st,se,p1,n1,q1,p2,n2,q2,rfl⟩:=exShape ra;obtain ⟨tk,tn,tt,te,u1,m1,v1,u2,m2,v2,rfl⟩:=exShape rb;have EA:∀ w',Bz w w'->HEx w' All d [.int .i64 sk,.int .i64 sn,.string st,.string se,.slice p1 n1 q1,.slice p2 n2 q2] xa:=λw' hw=>ra.mono (sqO hw) sqj;have EB:∀ w',Bz w w'->HEx w' All d [.int .i64 tk,.int .i64 tn,.string tt,.string te,.slice u1 m1 v1,.slice u2 m2 v2] xb:=λw' hw=>rb.mono (sqO hw) sqj;have CA:∀ w',Bz w w'->∀ j,j<6->w'.cell? ⟨g,off+0 * 6+j,none⟩=_:=λw' hw j hj=>(hw.cell (p:=⟨g,off+0 * 6+j,none⟩) hgl).trans (hcs j hj);have CB:∀ w',Bz w w'->∀ j,j<6->w'.cell? ⟨g,off+1 * 6+j,none⟩=_:=λw' hw j hj=>(hw.cell (p:=⟨g,off+1 * 6+j,none⟩) hgl).trans (hcs' j hj);clear nocl hat hcs hcs' ra rb g0 g1 g2 g3;have HCA:=hid CA;have HCB:=hid CB;clear CA CB hks;generalize hca:exOk d xa true (40 - (deep+1))=ca;have HCV:=hid hca;clear hca
     cases ca with
     | false =>
      go_enter func204,ntmps204;go_wp2_with fail;refine (partsOk_any _ _ _ _ _ _ _ _ _ _ _ hts hms hnb hmb (HT.out.below (BL.out _ _))).mono ?_;rintro e W1 ⟨rfl,hb⟩;rw [hpl];have B1:Hid (Bz w W1):=((sqN _ _)).trans (hb.mono (by simp));have bA:Hid (Blk W1 w.heap.size #[.int .i64 9,.int .i64 nx,.string tx,.string mx,.slice (some ⟨g,off,none⟩) 2 cap,.slice q m cap'] 74):=(Blk.new (w:=w)).next hb;obtain ⟨xa0,xa1,xa2,xa3,xa4,xa5⟩:=sqB6 bA.out;clear hb;have ya0:=HCA.out _ B1.out 0 (by omega);have ya1:=HCA.out _ B1.out 1 (by omega);have ya2:=HCA.out _ B1.out 2 (by omega);have ya3:=HCA.out _ B1.out 3 (by omega);have ya4:=HCA.out _ B1.out 4 (by omega);have ya5:=HCA.out _ B1.out 5 (by omega);simp at ya0 ya1 ya2 ya3 ya4 ya5;go_wp2_with fail;refine (h0 _ _ xa true (deep+1) (HT.out.below B1.out) (EA _ B1.out) (by omega) (by omega)).mono ?_;rintro e w3 ⟨rfl,hb3⟩;rw [HCV.out];have B3:=hid (B1.out.trans (hb3.mono B1.out.size));clear hb3;go_wp2;go_ret;exact ⟨by simp,B3.out⟩
     | true =>
      go_enter func204,ntmps204;go_wp2_with fail;refine (partsOk_any _ _ _ _ _ _ _ _ _ _ _ hts hms hnb hmb (HT.out.below (BL.out _ _))).mono ?_;rintro e W1 ⟨rfl,hb⟩;rw [hpl];have B1:Hid (Bz w W1):=((sqN _ _)).trans (hb.mono (by simp));have bA:Hid (Blk W1 w.heap.size #[.int .i64 9,.int .i64 nx,.string tx,.string mx,.slice (some ⟨g,off,none⟩) 2 cap,.slice q m cap'] 74):=(Blk.new (w:=w)).next hb;obtain ⟨xa0,xa1,xa2,xa3,xa4,xa5⟩:=sqB6 bA.out;clear hb;have ya0:=HCA.out _ B1.out 0 (by omega);have ya1:=HCA.out _ B1.out 1 (by omega);have ya2:=HCA.out _ B1.out 2 (by omega);have ya3:=HCA.out _ B1.out 3 (by omega);have ya4:=HCA.out _ B1.out 4 (by omega);have ya5:=HCA.out _ B1.out 5 (by omega);simp at ya0 ya1 ya2 ya3 ya4 ya5;go_wp2_with fail;refine (h0 _ _ xa true (deep+1) (HT.out.below B1.out) (EA _ B1.out) (by omega) (by omega)).mono ?_;rintro e w3 ⟨rfl,hb3⟩;rw [HCV.out];have B3:=hid (B1.out.trans (hb3.mono B1.out.size));have hbk:=bA.out.next hb3;clear xa0 xa1 xa2 xa3 xa4 xa5 ya0 ya1 ya2 ya3 ya4 ya5;have xa4:=hbk.cell 4 _ rfl;have yb0:=HCB.out _ B3.out 0 (by omega);have yb1:=HCB.out _ B3.out 1 (by omega);have yb2:=HCB.out _ B3.out 2 (by omega);have yb3:=HCB.out _ B3.out 3 (by omega);have yb4:=HCB.out _ B3.out 4 (by omega);have yb5:=HCB.out _ B3.out 5 (by omega);simp at yb0 yb1 yb2 yb3 yb4 yb5;clear hb3 hbk;go_wp2_with fail;refine (h0 _ _ xb false (deep+1) (HT.out.below B3.out) (EB _ B3.out) (by omega) (by omega)).mono ?_;rintro e w4 ⟨rfl,hb4⟩;have B4:=hid (B3.out.trans (hb4.mono B3.out.size));clear hb4;go_wp2;go_ret;exact ⟨by simp,B4.out⟩
   obtain rfl:kx=10:=by omega
   have HV:Hid ((true && (kidsB (λy q=>exOk d y q (40 - (deep+1))) ks (false || decide ((10:Int)=9)) false && cl.all (λc=>clB (λy q=>exOk d y q (40 - (deep+1))) c 1)))=(ks.all (λy=>exOk d y false (40 - (deep+1))) && cl.all (λc=>clB (λy q=>exOk d y q (40 - (deep+1))) c 1))):=by
    show _=_;have e9:(false || decide ((10:Int)=9))=false:=(by decide);rw [e9,kidsB_same,Bool.true_and]
   clear nocl g0 g1 g2 g3;rw [HV.out]
   cases hca:ks.all (λy=>exOk d y false (40 - (deep+1))) with
   | false =>
    go_enter func204,ntmps204;go_wp2_with fail;refine (partsOk_any _ _ _ _ _ _ _ _ _ _ _ hts hms hnb hmb (HT.out.below (BL.out _ _))).mono ?_;rintro e W1 ⟨rfl,hb⟩;rw [hpl];have B1:Hid (Bz w W1):=((sqN _ _)).trans (hb.mono (by simp));have bA:Hid (Blk W1 w.heap.size #[.int .i64 10,.int .i64 nx,.string tx,.string mx,.slice p n cap,.slice q m cap'] 74):=(Blk.new (w:=w)).next hb;obtain ⟨xa0,xa1,xa2,xa3,xa4,xa5⟩:=sqB6 bA.out;clear hb;go_wp2_with fail;refine (h1 _ _ ks false (deep+1) (HT.out.below B1.out) (F0 _ B1.out) (by omega) (by omega)).mono ?_;rintro e w3 ⟨rfl,hb3⟩;rw [hca];have B3:=hid (B1.out.trans (hb3.mono B1.out.size));clear hb3;go_wp2;go_ret;exact ⟨by simp,B3.out⟩
   | true =>
    go_enter func204,ntmps204;go_wp2_with fail;refine (partsOk_any _ _ _ _ _ _ _ _ _ _ _ hts hms hnb hmb (HT.out.below (BL.out _ _))).mono ?_;rintro e W1 ⟨rfl,hb⟩;rw [hpl];have B1:Hid (Bz w W1):=((sqN _ _)).trans (hb.mono (by simp));have bA:Hid (Blk W1 w.heap.size #[.int .i64 10,.int .i64 nx,.string tx,.string mx,.slice p n cap,.slice q m cap'] 74):=(Blk.new (w:=w)).next hb;obtain ⟨xa0,xa1,xa2,xa3,xa4,xa5⟩:=sqB6 bA.out;clear hb;go_wp2_with fail;refine (h1 _ _ ks false (deep+1) (HT.out.below B1.out) (F0 _ B1.out) (by omega) (by omega)).mono ?_;rintro e w3 ⟨rfl,hb3⟩;rw [hca];have B3:=hid (B1.out.trans (hb3.mono B1.out.size));have hbk:=bA.out.next hb3;clear xa0 xa1 xa2 xa3 xa4 xa5;have xa5:=hbk.cell 5 _ rfl;clear hb3 hbk;go_wp2_with fail;refine (h2 _ _ cl (deep+1) (HT.out.below B3.out) (F1 _ B3.out) (by omega) (by omega)).mono ?_;rintro e w4 ⟨rfl,hb4⟩;have B4:=hid (B3.out.trans (hb4.mono B3.out.size));clear hb4;go_wp2;go_ret;exact ⟨by simp,B4.out⟩
theorem exp_allI:∀ d,XpC d
 | 0=>λw cs x pat deep _ h _ _=>h.elim
 | d+1=>expI_of (exp_allI d) (expsI_of (exp_allI d)) (casesI_of (clauseI_of (expsI_of (exp_allI d))))
theorem clause_allI (d:Nat):KcC d:=clauseI_of (expsI_of (exp_allI d))
end
end Go.Proofs.YtbdhpganbbandaaGreatDoor
