/-
  ModOkSpecD ModOkImplA ModOkImplB
-/
import Derived.Test.YtonpgdfpgpepiaaGreatDoorP10
set_option maxHeartbeats 16000000
set_option linter.unusedVariables false
set_option maxRecDepth 100000
namespace Go.Proofs.YtonpgdfpgpepiaaGreatDoor
open Go.ChangeShapes Go.WideShapes Go.ChangeAt Go.RowKit
section
open Go.Proofs.Tryz
theorem rightS_of {d:Nat} (h1:RgC d) (h2:ClC d):RgC (d+1):=by
 intro w cs x pat deep h hd0 hd1;obtain ⟨kv,cv,rfl,-,-,hts,hms,f0,f1⟩:=h;obtain ⟨kx,nx,tx,mx,ks,cl⟩:=x;simp only [Ex.kind,Ex.n,Ex.text,Ex.mod,Ex.kids,Ex.clauses] at *;obtain ⟨p,cap,rfl,hcl,hcm,hx⟩:=f0;obtain ⟨q,cap',rfl,hcl',hcm',hy⟩:=f1;have hnb:=sqM hcl hcm;have hmb:=sqM hcl' hcm';have hv:=exOk_eq d kx nx tx mx ks cl pat deep;rw [hv];clear hv;generalize hn:ks.length=n at *;generalize hm:cl.length=m at *;have HN:=hid hn;have HM:=hid hm;have HX:=hid hx;have HY:=hid hy;clear hx hy hn hm;by_cases c1:deep<0
 . rw [decide_eq_false (by omega)]
   go_enter func128,ntmps128;go_wp2;go_ret;exact ⟨by simp,(sqN _ _)⟩
 rw [decide_eq_true (by omega:0<=deep)]
 cases hpl:plainB kx nx tx mx n m with
 | false =>
  go_enter func128,ntmps128;go_wp2_with fail;refine (plainS_any _ _ _ _ _ _ _ _ _ _ _ hts hms hnb hmb).mono ?_;rintro e W1 ⟨rfl,hb⟩;rw [hpl];have B1:Hid (Bz w W1):=((sqN _ _)).trans (hb.mono (by simp));have bA:Hid (Blk W1 w.heap.size #[.int .i64 kx,.int .i64 nx,.string tx,.string mx,.slice p n cap,.slice q m cap'] 147):=(Blk.new (w:=w)).next hb;obtain ⟨xa0,xa1,xa2,xa3,xa4,xa5⟩:=sqB6 bA.out;clear hb;go_wp2;go_ret;exact ⟨by simp,B1.out⟩
 | true =>
  obtain ⟨r0,r1⟩:=plainB_range hpl
  cases pat with
  | true =>
   by_cases c6:kx<=6
   . have h6:inB kx 0 6=true:=by simp [inB];omega
     have hpt:patB kx true=true:=(by simp [patB];omega);rw [hpt,Bool.true_or];simp only [Bool.true_and];go_enter func128,ntmps128;go_wp2_with fail;refine (plainS_any _ _ _ _ _ _ _ _ _ _ _ hts hms hnb hmb).mono ?_;rintro e W1 ⟨rfl,hb⟩;rw [hpl];have B1:Hid (Bz w W1):=((sqN _ _)).trans (hb.mono (by simp));have bA:Hid (Blk W1 w.heap.size #[.int .i64 kx,.int .i64 nx,.string tx,.string mx,.slice p n cap,.slice q m cap'] 147):=(Blk.new (w:=w)).next hb;obtain ⟨xa0,xa1,xa2,xa3,xa4,xa5⟩:=sqB6 bA.out;clear hb;go_wp2_with (first | (go_at_call 90;go_must (refine (l01In_any _ _ _ _).mono ?_;rintro e w9 ⟨rfl,hw9⟩;rw [h6,hw9];clear hw9 w9)));clear xa0 xa1 xa2 xa3 xa4 xa5
     go_loopw [7] (λiv wr=>∃ k1:Nat,k1<=n/\iv=.int .i64 k1/\Hid (kidsB (λy q=>exOk d y q (deep - 1)) (ks.take k1) true true=true)/\Hid (SameOn All W1 wr)/\Bz w wr) (λiv _=>n - (intOf iv).toNat)
     case atStart=>exact ⟨0,Nat.zero_le _,rfl,kidsB_nil _ _ _ _,sqS,B1.out⟩
     case round =>
      obtain ⟨k1,hk,rfl,hall,hso,hb⟩:=hrel;have HB:=hid hb;have b1:=bA.out.same_on hso.out;have hlw:=b1.lt;obtain ⟨xa0,xa1,xa2,xa3,xa4,xa5⟩:=sqB6 b1;clear b1;by_cases hlt:k1<n
      . obtain ⟨x,hxk⟩:=sqA (l:=ks) (k:=k1) HN.out hlt
        obtain ⟨g,off,rfl,-,hgl,hat⟩:=HX.out (sqE hxk);obtain ⟨cs,hcsl,hcs,r1⟩:=hat k1 x hxk;have E1:∀ w',SameOn All wr w'->HEx w' All d cs x:=λw' hw=>r1.mono (SameOn.trans (sqO hb) hw) sqj;obtain ⟨c0,c1,c2,c3,c4,c5,rfl⟩:=len6 hcsl;obtain ⟨a0,a1,a2,a3,a4,a5⟩:=sqC6 hcs (by omega);rw [<-hb.cell (p:=⟨g,_,none⟩) hgl] at a0 a1 a2 a3 a4 a5;simp at a0 a1 a2 a3 a4 a5;have hki:(k1:Int)<(n:Int):=(by omega);have hk0:=sqI k1;have hgw:g<wr.heap.size:=Nat.lt_of_lt_of_le hgl hb.size;have qa0:∀ m:Wd (λw'=>SameOn All wr w'/\Bz w w'),m.val.cell? ⟨g,off+k1 * 6,none⟩=some c0:=λm=>(sqK (m.ok.1.2 g trivial hgw)).trans a0;have qa1:∀ m:Wd (λw'=>SameOn All wr w'/\Bz w w'),m.val.cell? ⟨g,off+k1 * 6+1,none⟩=some c1:=λm=>(sqK (m.ok.1.2 g trivial hgw)).trans a1;have qa2:∀ m:Wd (λw'=>SameOn All wr w'/\Bz w w'),m.val.cell? ⟨g,off+k1 * 6+2,none⟩=some c2:=λm=>(sqK (m.ok.1.2 g trivial hgw)).trans a2;have qa3:∀ m:Wd (λw'=>SameOn All wr w'/\Bz w w'),m.val.cell? ⟨g,off+k1 * 6+3,none⟩=some c3:=λm=>(sqK (m.ok.1.2 g trivial hgw)).trans a3;have qa4:∀ m:Wd (λw'=>SameOn All wr w'/\Bz w w'),m.val.cell? ⟨g,off+k1 * 6+4,none⟩=some c4:=λm=>(sqK (m.ok.1.2 g trivial hgw)).trans a4;have qa5:∀ m:Wd (λw'=>SameOn All wr w'/\Bz w w'),m.val.cell? ⟨g,off+k1 * 6+5,none⟩=some c5:=λm=>(sqK (m.ok.1.2 g trivial hgw)).trans a5;have qx0:∀ m:Wd (λw'=>SameOn All wr w'/\Bz w w'),m.val.cell? ⟨w.heap.size,0,none⟩=some (.int .i64 kx):=λm=>(sqK (m.ok.1.2 w.heap.size trivial hlw)).trans xa0;have qx4:∀ m:Wd (λw'=>SameOn All wr w'/\Bz w w'),m.val.cell? ⟨w.heap.size,4,none⟩=some (.slice (some ⟨g,off,none⟩) n cap):=λm=>(sqK (m.ok.1.2 w.heap.size trivial hlw)).trans xa4;clear hb hcs hat hcsl r1;generalize hcv:exOk d x true (deep - 1)=cv;have HCV:=hid hcv;have HC2:Hid (cv=true->kidsB (λy q=>exOk d y q (deep - 1)) (ks.take (k1+1)) true true=true):=λh=>kidsB_succ _ ks _ _ k1 x hxk hall.out (by rw [ite_self];exact hcv.trans h);have HC3:Hid (cv=false->kidsB (λy q=>exOk d y q (deep - 1)) ks true true=false):=λh=>kidsB_at _ ks _ _ k1 x hxk (by rw [ite_self];exact hcv.trans h);clear hcv;go_wp2;have hCne:Nonempty (Wd (λw'=>SameOn All wr w'/\Bz w w')):=⟨⟨wr.drew,⟨sqS,HB.out.drew⟩⟩⟩;refine wp_region_class (λw'=>SameOn All wr w'/\Bz w w') (by kernel_rfl) (by kernel_rfl) ⟨sqS,HB.out.drew⟩ ?_
        repeat (go_big_quiet_step (first | (rename_i m;go_at_call 128;refine (h1 _ _ x true (deep - 1) (E1 _ m.ok.1) (by omega) (by omega)).mono ?_;rintro e w1 ⟨rfl,hb1⟩;exact ⟨by rw [HCV.out],⟨⟨w1,⟨(SameOn.trans m.ok.1 (sqO hb1)),m.ok.2.trans (hb1.mono m.ok.2.size)⟩⟩,rfl⟩⟩)))
        refine wpQuiet_nil ?_;rintro _ ⟨mq,rfl⟩;have HB4:=hid mq.ok.2;have HS4:=hid (hso.out.trans mq.ok.1);generalize mq.val=w4 at HB4 HS4 ⊢;clear HCV
        cases cv with
        | true =>
         have HT':Hid _:=HC2.out rfl;clear HC2 HC3;go_wp2_with fail;exact ⟨⟨k1+1,by omega,by go_num,HT'.out,HS4.out,HB4.out⟩,by simp [intOf];omega⟩
        | false =>
         have HF:Hid _:=HC3.out rfl;clear HC2 HC3;go_wp2;go_ret;exact ⟨by rw [HF.out];simp,HB4.out⟩
      . have HD_ks:Hid (kidsB (λy q=>exOk d y q (deep - 1)) ks true true=true):=by
         have:=hall.out
         rwa [List.take_of_length_le (by rw [HN.out];omega)] at this
        clear hb;go_wp2_with fail;clear xa0 xa1 xa2 xa3 xa4 xa5
        go_loopw [8] (λiv wr=>∃ k2:Nat,k2<=m/\iv=.int .i64 k2/\Hid ((cl.take k2).all (λy=>clB (λz q=>exOk d z q (deep - 1)) y 1)=true)/\Hid (SameOn All W1 wr)/\Bz w wr) (λiv _=>m - (intOf iv).toNat)
        case atStart=>exact ⟨0,Nat.zero_le _,rfl,by show _=_;simp,hso.out,HB.out⟩
        case round =>
         obtain ⟨k2,hk,rfl,hall,hso,hb⟩:=hrel;have HB:=hid hb;have b1:=bA.out.same_on hso.out;obtain ⟨xa0,xa1,xa2,xa3,xa4,xa5⟩:=sqB6 b1;clear b1;by_cases hlt:k2<m
         . obtain ⟨x,hxk⟩:∃ x,cl[k2]?=some x:=⟨cl[k2]'(by rw [HM.out];exact hlt),List.getElem?_eq_getElem _⟩
           obtain ⟨g,off,rfl,-,hgl,hat⟩:=HY.out (sqE hxk);obtain ⟨cs,hcsl,hcs,r1⟩:=hat k2 x hxk;have E1:∀ w',SameOn All wr w'->HCl w' All (HEx w' All d) cs x:=λw' hw=>r1.mono (SameOn.trans (sqO hb) hw) sqj (λ_ _ h=>h.mono (SameOn.trans (sqO hb) hw) sqj);obtain ⟨c0,c1,rfl⟩:=len2 hcsl;obtain ⟨a0,a1⟩:=sqC2 hcs (by omega);rw [<-hb.cell (p:=⟨g,_,none⟩) hgl] at a0 a1;simp at a0 a1;have hki:(k2:Int)<(m:Int):=(by omega);have hk0:=sqI k2;clear hb hcs hat hcsl r1;generalize hcv:(λy=>clB (λz q=>exOk d z q (deep - 1)) y 1) x=cv;have HCV:=hid hcv;have HC2:Hid (cv=true->(cl.take (k2+1)).all (λy=>clB (λz q=>exOk d z q (deep - 1)) y 1)=true):=λh=>allT_succ _ cl k2 x hxk hall.out (hcv.trans h);have HC3:Hid (cv=false->cl.all (λy=>clB (λz q=>exOk d z q (deep - 1)) y 1)=false):=λh=>allT_at _ cl k2 x hxk (hcv.trans h);clear hcv;go_wp2_with fail;refine (h2 _ _ x 1 (deep - 1) (E1 _ sqS) (by omega) (by omega)).mono ?_;rintro e w4 ⟨rfl,hb4⟩;have HB4:=hid (HB.out.trans (hb4.mono HB.out.size));have HS4:=hid (hso.out.trans (sqO hb4));rw [show clB (λz q=>exOk d z q (deep - 1)) x 1=cv from HCV.out];clear hb4
           cases cv with
           | true =>
            have HT:=HC2.out rfl;clear HC2 HC3 HCV;have HT':Hid _:=HT;clear HT;go_wp2_with fail;exact ⟨⟨k2+1,by omega,by go_num,HT'.out,HS4.out,HB4.out⟩,by simp [intOf];omega⟩
           | false =>
            have HF:=hid (HC3.out rfl);clear HC2 HC3 HCV;go_wp2;go_ret;exact ⟨by first | (rw [HF.out];simp) | simp [HF.out],HB4.out⟩
         . have HD_cl:Hid (cl.all (λy=>clB (λz q=>exOk d z q (deep - 1)) y 1)=true):=by
            have:=hall.out
            rwa [List.take_of_length_le (by rw [HM.out];omega)] at this
           clear hb;go_wp2;go_ret;exact ⟨by rw [HD_ks.out,HD_cl.out];simp,HB.out⟩
   . have h6:inB kx 0 6=false:=by simp [inB];omega
     have hpt:patB kx true=false:=(by simp [patB];omega);rw [hpt];go_enter func128,ntmps128;go_wp2_with fail;refine (plainS_any _ _ _ _ _ _ _ _ _ _ _ hts hms hnb hmb).mono ?_;rintro e W1 ⟨rfl,hb⟩;rw [hpl];have B1:Hid (Bz w W1):=((sqN _ _)).trans (hb.mono (by simp));have bA:Hid (Blk W1 w.heap.size #[.int .i64 kx,.int .i64 nx,.string tx,.string mx,.slice p n cap,.slice q m cap'] 147):=(Blk.new (w:=w)).next hb;obtain ⟨xa0,xa1,xa2,xa3,xa4,xa5⟩:=sqB6 bA.out;clear hb;go_wp2_with (first | (go_at_call 90;go_must (refine (l01In_any _ _ _ _).mono ?_;rintro e w9 ⟨rfl,hw9⟩;rw [h6,hw9];clear hw9 w9)));go_ret;exact ⟨by simp,B1.out⟩
  | false =>
   by_cases k3:kx=3
   . subst k3
     have hpt:patB 3 false=false:=(by simp [patB]);rw [hpt];go_enter func128,ntmps128;go_wp2_with fail;refine (plainS_any _ _ _ _ _ _ _ _ _ _ _ hts hms hnb hmb).mono ?_;rintro e W1 ⟨rfl,hb⟩;rw [hpl];have B1:Hid (Bz w W1):=((sqN _ _)).trans (hb.mono (by simp));have bA:Hid (Blk W1 w.heap.size #[.int .i64 3,.int .i64 nx,.string tx,.string mx,.slice p n cap,.slice q m cap'] 147):=(Blk.new (w:=w)).next hb;obtain ⟨xa0,xa1,xa2,xa3,xa4,xa5⟩:=sqB6 bA.out;clear hb;go_wp2;go_ret;exact ⟨by simp,B1.out⟩
   have hpt:patB kx false=true:=(by simp [patB,k3]);rw [hpt];by_cases k9:kx=9
   . subst k9
     have e9:(false || decide ((9:Int)=9))=true:=rfl;rw [e9];simp only [Bool.true_and];go_enter func128,ntmps128;go_wp2_with fail;refine (plainS_any _ _ _ _ _ _ _ _ _ _ _ hts hms hnb hmb).mono ?_;rintro e W1 ⟨rfl,hb⟩;rw [hpl];have B1:Hid (Bz w W1):=((sqN _ _)).trans (hb.mono (by simp));have bA:Hid (Blk W1 w.heap.size #[.int .i64 9,.int .i64 nx,.string tx,.string mx,.slice p n cap,.slice q m cap'] 147):=(Blk.new (w:=w)).next hb;obtain ⟨xa0,xa1,xa2,xa3,xa4,xa5⟩:=sqB6 bA.out;clear hb;go_wp2_with fail;clear xa0 xa1 xa2 xa3 xa4 xa5
     go_loopw [7] (λiv wr=>∃ k1:Nat,k1<=n/\iv=.int .i64 k1/\Hid (kidsB (λy q=>exOk d y q (deep - 1)) (ks.take k1) true false=true)/\Hid (SameOn All W1 wr)/\Bz w wr) (λiv _=>n - (intOf iv).toNat)
     case atStart=>exact ⟨0,Nat.zero_le _,rfl,kidsB_nil _ _ _ _,sqS,B1.out⟩
     case round =>
      obtain ⟨k1,hk,rfl,hall,hso,hb⟩:=hrel;have HB:=hid hb;have b1:=bA.out.same_on hso.out;have hlw:=b1.lt;obtain ⟨xa0,xa1,xa2,xa3,xa4,xa5⟩:=sqB6 b1;clear b1;by_cases hlt:k1<n
      . obtain ⟨x,hxk⟩:=sqA (l:=ks) (k:=k1) HN.out hlt
        obtain ⟨g,off,rfl,-,hgl,hat⟩:=HX.out (sqE hxk);obtain ⟨cs,hcsl,hcs,r1⟩:=hat k1 x hxk;have E1:∀ w',SameOn All wr w'->HEx w' All d cs x:=λw' hw=>r1.mono (SameOn.trans (sqO hb) hw) sqj;obtain ⟨c0,c1,c2,c3,c4,c5,rfl⟩:=len6 hcsl;obtain ⟨a0,a1,a2,a3,a4,a5⟩:=sqC6 hcs (by omega);rw [<-hb.cell (p:=⟨g,_,none⟩) hgl] at a0 a1 a2 a3 a4 a5;simp at a0 a1 a2 a3 a4 a5;have hki:(k1:Int)<(n:Int):=(by omega);have hk0:=sqI k1;have hgw:g<wr.heap.size:=Nat.lt_of_lt_of_le hgl hb.size;have qa0:∀ m:Wd (λw'=>SameOn All wr w'/\Bz w w'),m.val.cell? ⟨g,off+k1 * 6,none⟩=some c0:=λm=>(sqK (m.ok.1.2 g trivial hgw)).trans a0;have qa1:∀ m:Wd (λw'=>SameOn All wr w'/\Bz w w'),m.val.cell? ⟨g,off+k1 * 6+1,none⟩=some c1:=λm=>(sqK (m.ok.1.2 g trivial hgw)).trans a1;have qa2:∀ m:Wd (λw'=>SameOn All wr w'/\Bz w w'),m.val.cell? ⟨g,off+k1 * 6+2,none⟩=some c2:=λm=>(sqK (m.ok.1.2 g trivial hgw)).trans a2;have qa3:∀ m:Wd (λw'=>SameOn All wr w'/\Bz w w'),m.val.cell? ⟨g,off+k1 * 6+3,none⟩=some c3:=λm=>(sqK (m.ok.1.2 g trivial hgw)).trans a3;have qa4:∀ m:Wd (λw'=>SameOn All wr w'/\Bz w w'),m.val.cell? ⟨g,off+k1 * 6+4,none⟩=some c4:=λm=>(sqK (m.ok.1.2 g trivial hgw)).trans a4;have qa5:∀ m:Wd (λw'=>SameOn All wr w'/\Bz w w'),m.val.cell? ⟨g,off+k1 * 6+5,none⟩=some c5:=λm=>(sqK (m.ok.1.2 g trivial hgw)).trans a5;have qx0:∀ m:Wd (λw'=>SameOn All wr w'/\Bz w w'),m.val.cell? ⟨w.heap.size,0,none⟩=some (.int .i64 9):=λm=>(sqK (m.ok.1.2 w.heap.size trivial hlw)).trans xa0;have qx4:∀ m:Wd (λw'=>SameOn All wr w'/\Bz w w'),m.val.cell? ⟨w.heap.size,4,none⟩=some (.slice (some ⟨g,off,none⟩) n cap):=λm=>(sqK (m.ok.1.2 w.heap.size trivial hlw)).trans xa4;clear hb hcs hat hcsl r1;by_cases hz:k1=0
        . have HIF:Hid ((if k1=0 then true else false)=true):=by show _=_;rw [if_pos hz]
          have hz2:((k1:Int) == 0)=true:=(by simp;omega);clear hz;generalize hcv:exOk d x true (deep - 1)=cv;have HCV:=hid hcv;have HC2:Hid (cv=true->kidsB (λy q=>exOk d y q (deep - 1)) (ks.take (k1+1)) true false=true):=λh=>kidsB_succ _ ks _ _ k1 x hxk hall.out (by rw [HIF.out];exact hcv.trans h);have HC3:Hid (cv=false->kidsB (λy q=>exOk d y q (deep - 1)) ks true false=false):=λh=>kidsB_at _ ks _ _ k1 x hxk (by rw [HIF.out];exact hcv.trans h);clear hcv;go_wp2;have hCne:Nonempty (Wd (λw'=>SameOn All wr w'/\Bz w w')):=⟨⟨wr.drew,⟨sqS,HB.out.drew⟩⟩⟩;refine wp_region_class (λw'=>SameOn All wr w'/\Bz w w') (by kernel_rfl) (by kernel_rfl) ⟨sqS,HB.out.drew⟩ ?_
          repeat (go_big_quiet_step (first | (rename_i m;go_at_call 128;refine (h1 _ _ x true (deep - 1) (E1 _ m.ok.1) (by omega) (by omega)).mono ?_;rintro e w1 ⟨rfl,hb1⟩;exact ⟨by rw [HCV.out],⟨⟨w1,⟨(SameOn.trans m.ok.1 (sqO hb1)),m.ok.2.trans (hb1.mono m.ok.2.size)⟩⟩,rfl⟩⟩)))
          refine wpQuiet_nil ?_;rintro _ ⟨mq,rfl⟩;have HB4:=hid mq.ok.2;have HS4:=hid (hso.out.trans mq.ok.1);generalize mq.val=w4 at HB4 HS4 ⊢;clear HCV
          cases cv with
          | true =>
           have HT':Hid _:=HC2.out rfl;clear HC2 HC3;go_wp2_with fail;exact ⟨⟨k1+1,by omega,by go_num,HT'.out,HS4.out,HB4.out⟩,by simp [intOf];omega⟩
          | false =>
           have HF:Hid _:=HC3.out rfl;clear HC2 HC3;go_wp2;go_ret;exact ⟨by rw [HF.out];simp,HB4.out⟩
        . have HIF:Hid ((if k1=0 then true else false)=false):=by show _=_;rw [if_neg hz]
          have hz2:((k1:Int) == 0)=false:=(by simp;omega);clear hz;generalize hcv:exOk d x false (deep - 1)=cv;have HCV:=hid hcv;have HC2:Hid (cv=true->kidsB (λy q=>exOk d y q (deep - 1)) (ks.take (k1+1)) true false=true):=λh=>kidsB_succ _ ks _ _ k1 x hxk hall.out (by rw [HIF.out];exact hcv.trans h);have HC3:Hid (cv=false->kidsB (λy q=>exOk d y q (deep - 1)) ks true false=false):=λh=>kidsB_at _ ks _ _ k1 x hxk (by rw [HIF.out];exact hcv.trans h);clear hcv;go_wp2;have hCne:Nonempty (Wd (λw'=>SameOn All wr w'/\Bz w w')):=⟨⟨wr.drew,⟨sqS,HB.out.drew⟩⟩⟩;refine wp_region_class (λw'=>SameOn All wr w'/\Bz w w') (by kernel_rfl) (by kernel_rfl) ⟨sqS,HB.out.drew⟩ ?_
          repeat (go_big_quiet_step (first | (rename_i m;go_at_call 128;refine (h1 _ _ x false (deep - 1) (E1 _ m.ok.1) (by omega) (by omega)).mono ?_;rintro e w1 ⟨rfl,hb1⟩;exact ⟨by rw [HCV.out],⟨⟨w1,⟨(SameOn.trans m.ok.1 (sqO hb1)),m.ok.2.trans (hb1.mono m.ok.2.size)⟩⟩,rfl⟩⟩)))
          refine wpQuiet_nil ?_;rintro _ ⟨mq,rfl⟩;have HB4:=hid mq.ok.2;have HS4:=hid (hso.out.trans mq.ok.1);generalize mq.val=w4 at HB4 HS4 ⊢;clear HCV
          cases cv with
          | true =>
           have HT':Hid _:=HC2.out rfl;clear HC2 HC3;go_wp2_with fail;exact ⟨⟨k1+1,by omega,by go_num,HT'.out,HS4.out,HB4.out⟩,by simp [intOf];omega⟩
          | false =>
           have HF:Hid _:=HC3.out rfl;clear HC2 HC3;go_wp2;go_ret;exact ⟨by rw [HF.out];simp,HB4.out⟩
      . have HD_ks:Hid (kidsB (λy q=>exOk d y q (deep - 1)) ks true false=true):=by
         have:=hall.out
         rwa [List.take_of_length_le (by rw [HN.out];omega)] at this
        clear hb;go_wp2_with fail;clear xa0 xa1 xa2 xa3 xa4 xa5
        go_loopw [8] (λiv wr=>∃ k2:Nat,k2<=m/\iv=.int .i64 k2/\Hid ((cl.take k2).all (λy=>clB (λz q=>exOk d z q (deep - 1)) y 1)=true)/\Hid (SameOn All W1 wr)/\Bz w wr) (λiv _=>m - (intOf iv).toNat)
        case atStart=>exact ⟨0,Nat.zero_le _,rfl,by show _=_;simp,hso.out,HB.out⟩
        case round =>
         obtain ⟨k2,hk,rfl,hall,hso,hb⟩:=hrel;have HB:=hid hb;have b1:=bA.out.same_on hso.out;obtain ⟨xa0,xa1,xa2,xa3,xa4,xa5⟩:=sqB6 b1;clear b1;by_cases hlt:k2<m
         . obtain ⟨x,hxk⟩:∃ x,cl[k2]?=some x:=⟨cl[k2]'(by rw [HM.out];exact hlt),List.getElem?_eq_getElem _⟩
           obtain ⟨g,off,rfl,-,hgl,hat⟩:=HY.out (sqE hxk);obtain ⟨cs,hcsl,hcs,r1⟩:=hat k2 x hxk;have E1:∀ w',SameOn All wr w'->HCl w' All (HEx w' All d) cs x:=λw' hw=>r1.mono (SameOn.trans (sqO hb) hw) sqj (λ_ _ h=>h.mono (SameOn.trans (sqO hb) hw) sqj);obtain ⟨c0,c1,rfl⟩:=len2 hcsl;obtain ⟨a0,a1⟩:=sqC2 hcs (by omega);rw [<-hb.cell (p:=⟨g,_,none⟩) hgl] at a0 a1;simp at a0 a1;have hki:(k2:Int)<(m:Int):=(by omega);have hk0:=sqI k2;clear hb hcs hat hcsl r1;generalize hcv:(λy=>clB (λz q=>exOk d z q (deep - 1)) y 1) x=cv;have HCV:=hid hcv;have HC2:Hid (cv=true->(cl.take (k2+1)).all (λy=>clB (λz q=>exOk d z q (deep - 1)) y 1)=true):=λh=>allT_succ _ cl k2 x hxk hall.out (hcv.trans h);have HC3:Hid (cv=false->cl.all (λy=>clB (λz q=>exOk d z q (deep - 1)) y 1)=false):=λh=>allT_at _ cl k2 x hxk (hcv.trans h);clear hcv;go_wp2_with fail;refine (h2 _ _ x 1 (deep - 1) (E1 _ sqS) (by omega) (by omega)).mono ?_;rintro e w4 ⟨rfl,hb4⟩;have HB4:=hid (HB.out.trans (hb4.mono HB.out.size));have HS4:=hid (hso.out.trans (sqO hb4));rw [show clB (λz q=>exOk d z q (deep - 1)) x 1=cv from HCV.out];clear hb4
           cases cv with
           | true =>
            have HT:=HC2.out rfl;clear HC2 HC3 HCV;have HT':Hid _:=HT;clear HT;go_wp2_with fail;exact ⟨⟨k2+1,by omega,by go_num,HT'.out,HS4.out,HB4.out⟩,by simp [intOf];omega⟩
           | false =>
            have HF:=hid (HC3.out rfl);clear HC2 HC3 HCV;go_wp2;go_ret;exact ⟨by first | (rw [HF.out];simp) | simp [HF.out],HB4.out⟩
         . have HD_cl:Hid (cl.all (λy=>clB (λz q=>exOk d z q (deep - 1)) y 1)=true):=by
            have:=hall.out
            rwa [List.take_of_length_le (by rw [HM.out];omega)] at this
           clear hb;go_wp2;go_ret;exact ⟨by rw [HD_ks.out,HD_cl.out];simp,HB.out⟩
   . have e9:(false || decide (kx=9))=false:=by simp [k9]
     have k9b:(kx == 9)=false:=(by simpa using k9);have k3b:(kx == 3)=false:=(by simpa using k3);rw [e9];simp only [Bool.true_and];go_enter func128,ntmps128;go_wp2_with fail;refine (plainS_any _ _ _ _ _ _ _ _ _ _ _ hts hms hnb hmb).mono ?_;rintro e W1 ⟨rfl,hb⟩;rw [hpl];have B1:Hid (Bz w W1):=((sqN _ _)).trans (hb.mono (by simp));have bA:Hid (Blk W1 w.heap.size #[.int .i64 kx,.int .i64 nx,.string tx,.string mx,.slice p n cap,.slice q m cap'] 147):=(Blk.new (w:=w)).next hb;obtain ⟨xa0,xa1,xa2,xa3,xa4,xa5⟩:=sqB6 bA.out;clear hb;go_wp2_with fail;clear xa0 xa1 xa2 xa3 xa4 xa5
     go_loopw [7] (λiv wr=>∃ k1:Nat,k1<=n/\iv=.int .i64 k1/\Hid (kidsB (λy q=>exOk d y q (deep - 1)) (ks.take k1) false false=true)/\Hid (SameOn All W1 wr)/\Bz w wr) (λiv _=>n - (intOf iv).toNat)
     case atStart=>exact ⟨0,Nat.zero_le _,rfl,kidsB_nil _ _ _ _,sqS,B1.out⟩
     case round =>
      obtain ⟨k1,hk,rfl,hall,hso,hb⟩:=hrel;have HB:=hid hb;have b1:=bA.out.same_on hso.out;have hlw:=b1.lt;obtain ⟨xa0,xa1,xa2,xa3,xa4,xa5⟩:=sqB6 b1;clear b1;by_cases hlt:k1<n
      . obtain ⟨x,hxk⟩:=sqA (l:=ks) (k:=k1) HN.out hlt
        obtain ⟨g,off,rfl,-,hgl,hat⟩:=HX.out (sqE hxk);obtain ⟨cs,hcsl,hcs,r1⟩:=hat k1 x hxk;have E1:∀ w',SameOn All wr w'->HEx w' All d cs x:=λw' hw=>r1.mono (SameOn.trans (sqO hb) hw) sqj;obtain ⟨c0,c1,c2,c3,c4,c5,rfl⟩:=len6 hcsl;obtain ⟨a0,a1,a2,a3,a4,a5⟩:=sqC6 hcs (by omega);rw [<-hb.cell (p:=⟨g,_,none⟩) hgl] at a0 a1 a2 a3 a4 a5;simp at a0 a1 a2 a3 a4 a5;have hki:(k1:Int)<(n:Int):=(by omega);have hk0:=sqI k1;have hgw:g<wr.heap.size:=Nat.lt_of_lt_of_le hgl hb.size;have qa0:∀ m:Wd (λw'=>SameOn All wr w'/\Bz w w'),m.val.cell? ⟨g,off+k1 * 6,none⟩=some c0:=λm=>(sqK (m.ok.1.2 g trivial hgw)).trans a0;have qa1:∀ m:Wd (λw'=>SameOn All wr w'/\Bz w w'),m.val.cell? ⟨g,off+k1 * 6+1,none⟩=some c1:=λm=>(sqK (m.ok.1.2 g trivial hgw)).trans a1;have qa2:∀ m:Wd (λw'=>SameOn All wr w'/\Bz w w'),m.val.cell? ⟨g,off+k1 * 6+2,none⟩=some c2:=λm=>(sqK (m.ok.1.2 g trivial hgw)).trans a2;have qa3:∀ m:Wd (λw'=>SameOn All wr w'/\Bz w w'),m.val.cell? ⟨g,off+k1 * 6+3,none⟩=some c3:=λm=>(sqK (m.ok.1.2 g trivial hgw)).trans a3;have qa4:∀ m:Wd (λw'=>SameOn All wr w'/\Bz w w'),m.val.cell? ⟨g,off+k1 * 6+4,none⟩=some c4:=λm=>(sqK (m.ok.1.2 g trivial hgw)).trans a4;have qa5:∀ m:Wd (λw'=>SameOn All wr w'/\Bz w w'),m.val.cell? ⟨g,off+k1 * 6+5,none⟩=some c5:=λm=>(sqK (m.ok.1.2 g trivial hgw)).trans a5;have qx0:∀ m:Wd (λw'=>SameOn All wr w'/\Bz w w'),m.val.cell? ⟨w.heap.size,0,none⟩=some (.int .i64 kx):=λm=>(sqK (m.ok.1.2 w.heap.size trivial hlw)).trans xa0;have qx4:∀ m:Wd (λw'=>SameOn All wr w'/\Bz w w'),m.val.cell? ⟨w.heap.size,4,none⟩=some (.slice (some ⟨g,off,none⟩) n cap):=λm=>(sqK (m.ok.1.2 w.heap.size trivial hlw)).trans xa4;clear hb hcs hat hcsl r1;generalize hcv:exOk d x false (deep - 1)=cv;have HCV:=hid hcv;have HC2:Hid (cv=true->kidsB (λy q=>exOk d y q (deep - 1)) (ks.take (k1+1)) false false=true):=λh=>kidsB_succ _ ks _ _ k1 x hxk hall.out (by rw [ite_self];exact hcv.trans h);have HC3:Hid (cv=false->kidsB (λy q=>exOk d y q (deep - 1)) ks false false=false):=λh=>kidsB_at _ ks _ _ k1 x hxk (by rw [ite_self];exact hcv.trans h);clear hcv;go_wp2;have hCne:Nonempty (Wd (λw'=>SameOn All wr w'/\Bz w w')):=⟨⟨wr.drew,⟨sqS,HB.out.drew⟩⟩⟩;refine wp_region_class (λw'=>SameOn All wr w'/\Bz w w') (by kernel_rfl) (by kernel_rfl) ⟨sqS,HB.out.drew⟩ ?_
        repeat (go_big_quiet_step (first | (rename_i m;go_at_call 128;refine (h1 _ _ x false (deep - 1) (E1 _ m.ok.1) (by omega) (by omega)).mono ?_;rintro e w1 ⟨rfl,hb1⟩;exact ⟨by rw [HCV.out],⟨⟨w1,⟨(SameOn.trans m.ok.1 (sqO hb1)),m.ok.2.trans (hb1.mono m.ok.2.size)⟩⟩,rfl⟩⟩)))
        refine wpQuiet_nil ?_;rintro _ ⟨mq,rfl⟩;have HB4:=hid mq.ok.2;have HS4:=hid (hso.out.trans mq.ok.1);generalize mq.val=w4 at HB4 HS4 ⊢;clear HCV
        cases cv with
        | true =>
         have HT':Hid _:=HC2.out rfl;clear HC2 HC3;go_wp2_with fail;exact ⟨⟨k1+1,by omega,by go_num,HT'.out,HS4.out,HB4.out⟩,by simp [intOf];omega⟩
        | false =>
         have HF:Hid _:=HC3.out rfl;clear HC2 HC3;go_wp2;go_ret;exact ⟨by rw [HF.out];simp,HB4.out⟩
      . have HD_ks:Hid (kidsB (λy q=>exOk d y q (deep - 1)) ks false false=true):=by
         have:=hall.out
         rwa [List.take_of_length_le (by rw [HN.out];omega)] at this
        clear hb;go_wp2_with fail;clear xa0 xa1 xa2 xa3 xa4 xa5
        go_loopw [8] (λiv wr=>∃ k2:Nat,k2<=m/\iv=.int .i64 k2/\Hid ((cl.take k2).all (λy=>clB (λz q=>exOk d z q (deep - 1)) y 1)=true)/\Hid (SameOn All W1 wr)/\Bz w wr) (λiv _=>m - (intOf iv).toNat)
        case atStart=>exact ⟨0,Nat.zero_le _,rfl,by show _=_;simp,hso.out,HB.out⟩
        case round =>
         obtain ⟨k2,hk,rfl,hall,hso,hb⟩:=hrel;have HB:=hid hb;have b1:=bA.out.same_on hso.out;obtain ⟨xa0,xa1,xa2,xa3,xa4,xa5⟩:=sqB6 b1;clear b1;by_cases hlt:k2<m
         . obtain ⟨x,hxk⟩:∃ x,cl[k2]?=some x:=⟨cl[k2]'(by rw [HM.out];exact hlt),List.getElem?_eq_getElem _⟩
           obtain ⟨g,off,rfl,-,hgl,hat⟩:=HY.out (sqE hxk);obtain ⟨cs,hcsl,hcs,r1⟩:=hat k2 x hxk;have E1:∀ w',SameOn All wr w'->HCl w' All (HEx w' All d) cs x:=λw' hw=>r1.mono (SameOn.trans (sqO hb) hw) sqj (λ_ _ h=>h.mono (SameOn.trans (sqO hb) hw) sqj);obtain ⟨c0,c1,rfl⟩:=len2 hcsl;obtain ⟨a0,a1⟩:=sqC2 hcs (by omega);rw [<-hb.cell (p:=⟨g,_,none⟩) hgl] at a0 a1;simp at a0 a1;have hki:(k2:Int)<(m:Int):=(by omega);have hk0:=sqI k2;clear hb hcs hat hcsl r1;generalize hcv:(λy=>clB (λz q=>exOk d z q (deep - 1)) y 1) x=cv;have HCV:=hid hcv;have HC2:Hid (cv=true->(cl.take (k2+1)).all (λy=>clB (λz q=>exOk d z q (deep - 1)) y 1)=true):=λh=>allT_succ _ cl k2 x hxk hall.out (hcv.trans h);have HC3:Hid (cv=false->cl.all (λy=>clB (λz q=>exOk d z q (deep - 1)) y 1)=false):=λh=>allT_at _ cl k2 x hxk (hcv.trans h);clear hcv;go_wp2_with fail;refine (h2 _ _ x 1 (deep - 1) (E1 _ sqS) (by omega) (by omega)).mono ?_;rintro e w4 ⟨rfl,hb4⟩;have HB4:=hid (HB.out.trans (hb4.mono HB.out.size));have HS4:=hid (hso.out.trans (sqO hb4));rw [show clB (λz q=>exOk d z q (deep - 1)) x 1=cv from HCV.out];clear hb4
           cases cv with
           | true =>
            have HT:=HC2.out rfl;clear HC2 HC3 HCV;have HT':Hid _:=HT;clear HT;go_wp2_with fail;exact ⟨⟨k2+1,by omega,by go_num,HT'.out,HS4.out,HB4.out⟩,by simp [intOf];omega⟩
           | false =>
            have HF:=hid (HC3.out rfl);clear HC2 HC3 HCV;go_wp2;go_ret;exact ⟨by first | (rw [HF.out];simp) | simp [HF.out],HB4.out⟩
         . have HD_cl:Hid (cl.all (λy=>clB (λz q=>exOk d z q (deep - 1)) y 1)=true):=by
            have:=hall.out
            rwa [List.take_of_length_le (by rw [HM.out];omega)] at this
           clear hb;go_wp2;go_ret;exact ⟨by rw [HD_ks.out,HD_cl.out];simp,HB.out⟩
theorem right_allS:∀ d,RgC d
 | 0=>λw cs x pat deep h _ _=>h.elim
 | d+1=>rightS_of (right_allS d) (clauseS_of (right_allS d))
theorem clause_allS (d:Nat):ClC d:=clauseS_of (right_allS d)
def ShapesAt (w:World):Prop :=
 ∀ k:Nat,k<11->w.cell? ⟨3,k * 5,none⟩=some (.int .i64 (txtK k))/\w.cell? ⟨3,k * 5+1,none⟩=some (.int .i64 (kidLo k))/\w.cell? ⟨3,k * 5+2,none⟩=some (.int .i64 (kidHi k)) /\
  w.cell? ⟨3,k * 5+3,none⟩=some (.int .i64 (clsLo k))/\w.cell? ⟨3,k * 5+4,none⟩=some (.int .i64 (clsHi k))
structure Tabs (w:World):Prop where
 keys:KeysAt w
 shapes:ShapesAt w
theorem Tabs.below {w w':World} (h:Tabs w) (hb:Bz w w'):Tabs w' :=
 ⟨⟨cell_next hb h.keys.1,cell_next hb h.keys.2.1,cell_next hb h.keys.2.2⟩,λk hk=>by
  obtain ⟨a,b,c,d,e⟩:=h.shapes k hk
  exact ⟨cell_next hb a,cell_next hb b,cell_next hb c,cell_next hb d,cell_next hb e⟩⟩
theorem withinM_any (a b c:Int) (w:World):Calls prog 139 #[.int .i64 a,.int .i64 b,.int .i64 c] w λe w'=>e=.returned (.bool (inB a b c))/\w'=w:=by
 by_cases h1:b<=a <;> by_cases h2:a<=c
 all_goals
  go_enter func139,ntmps139;go_wp2;go_ret;exact ⟨by simp [inB,h1,h2],rfl⟩
theorem isOp_any (t:ByteArray) (w:World):Calls prog 227 #[.string t] w λe w'=>e=.returned (.bool (opB t))/\w'=w:=by
 cases h0:(t.toList == [61,61]) <;> cases h1:(t.toList == [60]) <;> cases h2:(t.toList == [43]) <;> cases h3:(t.toList == [45]) <;> cases h4:(t.toList == [42])
 all_goals
  go_enter func227,ntmps227;go_wp2;go_ret;exact ⟨by simp [opB,h0,h1,h2,h3,h4],rfl⟩
theorem textOk_any (k:Int) (t:ByteArray) (w:World) (hts:t.size<=maxLen) (hk:KeysAt w):Calls prog 224 #[.int .i64 k,.string t] w λe w'=>e=.returned (.bool (tkB k t))/\w'=w:=by
 have HK:=hid hk;clear hk;by_cases k1:k=1
 . subst k1
   go_enter func224,ntmps224;go_wp2_with (go_at_call 97;go_must (refine (implAtomOk_any _ _ hts HK.out).mono ?_;rintro e w' ⟨rfl,rfl⟩));go_ret;exact ⟨by simp [tkB],rfl⟩
 by_cases k2:k=2
 . subst k2
   go_enter func224,ntmps224;go_wp2_with (go_at_call 226;go_must (refine (implVarOk_any _ _ hts).mono ?_;rintro e w' ⟨rfl,rfl⟩));go_ret;exact ⟨by simp [tkB],rfl⟩
 by_cases k3:k=3
 . subst k3
   go_enter func224,ntmps224;go_wp2_with (go_at_call 227;go_must (refine (isOp_any _ _).mono ?_;rintro e w' ⟨rfl,rfl⟩));go_ret;exact ⟨by simp [tkB],rfl⟩
 . have HS:Hid (tkB k t=t.toList.isEmpty):=by show _=_;rw [Bool.eq_iff_iff];simp [tkB,k1,k2,k3]
   go_enter func224,ntmps224;go_wp2;go_ret;exact ⟨by rw [HS.out];rfl,rfl⟩
theorem numberOk_any (k n:Int) (t m:ByteArray) (p q:Option Addr) (nk c nc c':Nat) (w:World):Calls prog 222 #[.agg #[.int .i64 k,.int .i64 n,.string t,.string m,.slice p nk c,.slice q nc c']] w λe w'=>e=.returned (.bool (numB k n))/\Bz w w':=by
 have BL:Hid (Bz w (w.alloc (.cells #[.int .i64 k,.int .i64 n,.string t,.string m,.slice p nk c,.slice q nc c'] 147))):=(sqN _ _);by_cases k0:k=0
 . subst k0
   go_enter func222,ntmps222;go_wp2_with (go_at_call 139;go_must (refine (withinM_any _ _ _ _).mono ?_;rintro e w' ⟨rfl,rfl⟩));go_ret;exact ⟨by simp [numB],BL.out⟩
 . have HS:Hid (numB k n=(n == 0)):=by show _=_;rw [Bool.eq_iff_iff];simp [numB,k0]
   go_enter func222,ntmps222;go_wp2;go_ret;exact ⟨by rw [HS.out];rfl,BL.out⟩
theorem modOk_any (k n:Int) (t m:ByteArray) (p q:Option Addr) (nk c nc c':Nat) (w:World) (hms:m.size<=maxLen) (hk:KeysAt w):Calls prog 223 #[.agg #[.int .i64 k,.int .i64 n,.string t,.string m,.slice p nk c,.slice q nc c']] w λe w'=>e=.returned (.bool (modB k m))/\Bz w w':=by
 have BL:Hid (Bz w (w.alloc (.cells #[.int .i64 k,.int .i64 n,.string t,.string m,.slice p nk c,.slice q nc c'] 147))):=(sqN _ _);have HK:Hid (KeysAt (w.alloc (.cells #[.int .i64 k,.int .i64 n,.string t,.string m,.slice p nk c,.slice q nc c'] 147))):=⟨cell_next BL.out hk.1,cell_next BL.out hk.2.1,cell_next BL.out hk.2.2⟩;clear hk;by_cases hm:m.toList = []
 . have hm2:(m.toList == [])=true:=by simpa using hm
   have HS:Hid (modB k m=true):=(by show _=_;simp [modB,hm]);clear hm;go_enter func223,ntmps223;go_wp2;go_ret;exact ⟨by rw [HS.out];rfl,BL.out⟩
 . have hm2:(m.toList == [])=false:=by simpa using hm
   by_cases k8:k=8
   . subst k8
     have HS:Hid (modB 8 m=atomB m):=(by show _=_;simp [modB,hm]);clear hm;go_enter func223,ntmps223;go_wp2_with (go_at_call 97;go_must (refine (implAtomOk_any _ _ hms HK.out).mono ?_;rintro e w' ⟨rfl,rfl⟩));go_ret;exact ⟨by rw [HS.out];rfl,BL.out⟩
   . have HS:Hid (modB k m=false):=by show _=_;simp [modB,hm,k8]
     clear hm;go_enter func223,ntmps223;go_wp2;go_ret;exact ⟨by rw [HS.out];rfl,BL.out⟩
theorem partsOk_any (k n:Int) (t m:ByteArray) (p q:Option Addr) (nk c nc c':Nat) (w:World) (hts:t.size<=maxLen) (hms:m.size<=maxLen) (hnk:nk<=9223372036854775807) (hnc:nc<=9223372036854775807) (hT:Tabs w) :
 Calls prog 216 #[.agg #[.int .i64 k,.int .i64 n,.string t,.string m,.slice p nk c,.slice q nc c']] w λe w'=>e=.returned (.bool (plainB k n t m nk nc))/\Bz w w':=by
 have HT:=hid hT;clear hT;by_cases hr:0<=k/\k<=10
 . obtain ⟨kn,rfl⟩:∃ kn:Nat,k=kn:=⟨k.toNat,by omega⟩
   have hkn:kn<11:=(by omega);have hki:(kn:Int)<11:=(by omega);have hk0:=sqI kn;have hin:inB (kn:Int) 0 10=true:=(by simp [inB];omega);clear hr;have BL:Hid (Bz w (w.alloc (.cells #[.int .i64 (kn:Int),.int .i64 n,.string t,.string m,.slice p nk c,.slice q nc c'] 147))):=(sqN _ _);have BM:Hid (Bz w ((w.alloc (.cells #[.int .i64 (kn:Int),.int .i64 n,.string t,.string m,.slice p nk c,.slice q nc c'] 147)).alloc (.cells #[.int .i64 (txtK kn),.int .i64 (kidLo kn),.int .i64 (kidHi kn),.int .i64 (clsLo kn),.int .i64 (clsHi kn)] 260))):=BL.out.alloc BL.out.size _;obtain ⟨s0,s1,s2,s3,s4⟩:=(HT.out.below BL.out).shapes kn hkn;have HP:Hid (plainB kn n t m nk nc=(numB kn n && (modB kn m && (tkB (txtK kn) t && (inB nk (kidLo kn) (kidHi kn) && inB nc (clsLo kn) (clsHi kn)))))):=(by show _=_;simp [plainB,hin,txtB])
   cases h1:numB kn n with
   | false =>
    go_enter func216,ntmps216;go_wp2_with (first | (go_at_call 139;go_must (refine (withinM_any _ _ _ _).mono ?_;rintro e w9 ⟨rfl,rfl⟩;rw [hin])));refine (numberOk_any _ _ _ _ _ _ _ _ _ _ _).mono ?_;rintro e w2 ⟨rfl,hb2⟩;rw [h1];have B2:=hid (BM.out.trans (hb2.mono BM.out.size));go_wp2;go_ret;exact ⟨by rw [HP.out,h1];simp,B2.out⟩
   | true =>
    cases h2:modB kn m with
    | false =>
     go_enter func216,ntmps216;go_wp2_with (first | (go_at_call 139;go_must (refine (withinM_any _ _ _ _).mono ?_;rintro e w9 ⟨rfl,rfl⟩;rw [hin])));refine (numberOk_any _ _ _ _ _ _ _ _ _ _ _).mono ?_;rintro e w2 ⟨rfl,hb2⟩;rw [h1];have B2:=hid (BM.out.trans (hb2.mono BM.out.size));have g1:Hid (Blk w2 w.heap.size #[.int .i64 (kn:Int),.int .i64 n,.string t,.string m,.slice p nk c,.slice q nc c'] 147):=((Blk.new (w:=w)).alloc).next hb2
     have g2:Hid (Blk w2 (w.heap.size+1) #[.int .i64 (txtK kn),.int .i64 (kidLo kn),.int .i64 (kidHi kn),.int .i64 (clsLo kn),.int .i64 (clsHi kn)] 260):=by
      have:=(Blk.new (w:=(w.alloc (.cells #[.int .i64 (kn:Int),.int .i64 n,.string t,.string m,.slice p nk c,.slice q nc c'] 147))) (cs:=#[.int .i64 (txtK kn),.int .i64 (kidLo kn),.int .i64 (kidHi kn),.int .i64 (clsLo kn),.int .i64 (clsHi kn)]) (t:=260)).next hb2;simp only [alloc_hs] at this;exact this
     obtain ⟨a0,a1,a2,a3,a4,a5⟩:=sqB6 g1.out;clear hb2 s0 s1 s2 s3 s4;go_wp2_with fail;refine (modOk_any _ _ _ _ _ _ _ _ _ _ _ hms (HT.out.below B2.out).keys).mono ?_;rintro e w3 ⟨rfl,hb3⟩;rw [h2];have B3:=hid (B2.out.trans (hb3.mono B2.out.size));go_wp2;go_ret;exact ⟨by rw [HP.out,h1,h2];simp,B3.out⟩
    | true =>
     cases h3:tkB (txtK kn) t with
     | false =>
      go_enter func216,ntmps216;go_wp2_with (first | (go_at_call 139;go_must (refine (withinM_any _ _ _ _).mono ?_;rintro e w9 ⟨rfl,rfl⟩;rw [hin])));refine (numberOk_any _ _ _ _ _ _ _ _ _ _ _).mono ?_;rintro e w2 ⟨rfl,hb2⟩;rw [h1];have B2:=hid (BM.out.trans (hb2.mono BM.out.size));have g1:Hid (Blk w2 w.heap.size #[.int .i64 (kn:Int),.int .i64 n,.string t,.string m,.slice p nk c,.slice q nc c'] 147):=((Blk.new (w:=w)).alloc).next hb2
      have g2:Hid (Blk w2 (w.heap.size+1) #[.int .i64 (txtK kn),.int .i64 (kidLo kn),.int .i64 (kidHi kn),.int .i64 (clsLo kn),.int .i64 (clsHi kn)] 260):=by
       have:=(Blk.new (w:=(w.alloc (.cells #[.int .i64 (kn:Int),.int .i64 n,.string t,.string m,.slice p nk c,.slice q nc c'] 147))) (cs:=#[.int .i64 (txtK kn),.int .i64 (kidLo kn),.int .i64 (kidHi kn),.int .i64 (clsLo kn),.int .i64 (clsHi kn)]) (t:=260)).next hb2;simp only [alloc_hs] at this;exact this
      obtain ⟨a0,a1,a2,a3,a4,a5⟩:=sqB6 g1.out;clear hb2 s0 s1 s2 s3 s4;go_wp2_with fail;refine (modOk_any _ _ _ _ _ _ _ _ _ _ _ hms (HT.out.below B2.out).keys).mono ?_;rintro e w3 ⟨rfl,hb3⟩;rw [h2];have B3:=hid (B2.out.trans (hb3.mono B2.out.size));have g3:=g1.out.next hb3;have g4:=g2.out.next hb3;clear a0 a1 a2 a3 a4 a5;obtain ⟨a0,a1,a2,a3,a4,a5⟩:=sqB6 g3;have b0:=g4.cell 0 _ rfl;have b1:=g4.cell 1 _ rfl;have b2:=g4.cell 2 _ rfl;have b3:=g4.cell 3 _ rfl;have b4:=g4.cell 4 _ rfl;clear hb3 g3 g4;go_wp2_with (first | (go_at_call 224;go_must (refine (textOk_any _ _ _ hts (HT.out.below B3.out).keys).mono ?_;rintro e w9 ⟨rfl,rfl⟩;rw [h3])));go_ret;exact ⟨by rw [HP.out,h1,h2,h3];simp,B3.out⟩
     | true =>
      cases h4:inB nk (kidLo kn) (kidHi kn) with
      | false =>
       go_enter func216,ntmps216;go_wp2_with (first | (go_at_call 139;go_must (refine (withinM_any _ _ _ _).mono ?_;rintro e w9 ⟨rfl,rfl⟩;rw [hin])));refine (numberOk_any _ _ _ _ _ _ _ _ _ _ _).mono ?_;rintro e w2 ⟨rfl,hb2⟩;rw [h1];have B2:=hid (BM.out.trans (hb2.mono BM.out.size));have g1:Hid (Blk w2 w.heap.size #[.int .i64 (kn:Int),.int .i64 n,.string t,.string m,.slice p nk c,.slice q nc c'] 147):=((Blk.new (w:=w)).alloc).next hb2
       have g2:Hid (Blk w2 (w.heap.size+1) #[.int .i64 (txtK kn),.int .i64 (kidLo kn),.int .i64 (kidHi kn),.int .i64 (clsLo kn),.int .i64 (clsHi kn)] 260):=by
        have:=(Blk.new (w:=(w.alloc (.cells #[.int .i64 (kn:Int),.int .i64 n,.string t,.string m,.slice p nk c,.slice q nc c'] 147))) (cs:=#[.int .i64 (txtK kn),.int .i64 (kidLo kn),.int .i64 (kidHi kn),.int .i64 (clsLo kn),.int .i64 (clsHi kn)]) (t:=260)).next hb2;simp only [alloc_hs] at this;exact this
       obtain ⟨a0,a1,a2,a3,a4,a5⟩:=sqB6 g1.out;clear hb2 s0 s1 s2 s3 s4;go_wp2_with fail;refine (modOk_any _ _ _ _ _ _ _ _ _ _ _ hms (HT.out.below B2.out).keys).mono ?_;rintro e w3 ⟨rfl,hb3⟩;rw [h2];have B3:=hid (B2.out.trans (hb3.mono B2.out.size));have g3:=g1.out.next hb3;have g4:=g2.out.next hb3;clear a0 a1 a2 a3 a4 a5;obtain ⟨a0,a1,a2,a3,a4,a5⟩:=sqB6 g3;have b0:=g4.cell 0 _ rfl;have b1:=g4.cell 1 _ rfl;have b2:=g4.cell 2 _ rfl;have b3:=g4.cell 3 _ rfl;have b4:=g4.cell 4 _ rfl;clear hb3 g3 g4;go_wp2_with (first | (go_at_call 224;go_must (refine (textOk_any _ _ _ hts (HT.out.below B3.out).keys).mono ?_;rintro e w9 ⟨rfl,rfl⟩;rw [h3])) | (go_at_call_of 139 (kidLo kn);go_must (refine (withinM_any _ _ _ _).mono ?_;rintro e w9 ⟨rfl,rfl⟩;rw [h4])));go_ret;exact ⟨by rw [HP.out,h1,h2,h3,h4];simp,B3.out⟩
      | true =>
       go_enter func216,ntmps216;go_wp2_with (first | (go_at_call 139;go_must (refine (withinM_any _ _ _ _).mono ?_;rintro e w9 ⟨rfl,rfl⟩;rw [hin])));refine (numberOk_any _ _ _ _ _ _ _ _ _ _ _).mono ?_;rintro e w2 ⟨rfl,hb2⟩;rw [h1];have B2:=hid (BM.out.trans (hb2.mono BM.out.size));have g1:Hid (Blk w2 w.heap.size #[.int .i64 (kn:Int),.int .i64 n,.string t,.string m,.slice p nk c,.slice q nc c'] 147):=((Blk.new (w:=w)).alloc).next hb2
       have g2:Hid (Blk w2 (w.heap.size+1) #[.int .i64 (txtK kn),.int .i64 (kidLo kn),.int .i64 (kidHi kn),.int .i64 (clsLo kn),.int .i64 (clsHi kn)] 260):=by
        have:=(Blk.new (w:=(w.alloc (.cells #[.int .i64 (kn:Int),.int .i64 n,.string t,.string m,.slice p nk c,.slice q nc c'] 147))) (cs:=#[.int .i64 (txtK kn),.int .i64 (kidLo kn),.int .i64 (kidHi kn),.int .i64 (clsLo kn),.int .i64 (clsHi kn)]) (t:=260)).next hb2;simp only [alloc_hs] at this;exact this
       obtain ⟨a0,a1,a2,a3,a4,a5⟩:=sqB6 g1.out;clear hb2 s0 s1 s2 s3 s4;go_wp2_with fail;refine (modOk_any _ _ _ _ _ _ _ _ _ _ _ hms (HT.out.below B2.out).keys).mono ?_;rintro e w3 ⟨rfl,hb3⟩;rw [h2];have B3:=hid (B2.out.trans (hb3.mono B2.out.size));have g3:=g1.out.next hb3;have g4:=g2.out.next hb3;clear a0 a1 a2 a3 a4 a5;obtain ⟨a0,a1,a2,a3,a4,a5⟩:=sqB6 g3;have b0:=g4.cell 0 _ rfl;have b1:=g4.cell 1 _ rfl;have b2:=g4.cell 2 _ rfl;have b3:=g4.cell 3 _ rfl;have b4:=g4.cell 4 _ rfl;clear hb3 g3 g4;go_wp2_with (first | (go_at_call 224;go_must (refine (textOk_any _ _ _ hts (HT.out.below B3.out).keys).mono ?_;rintro e w9 ⟨rfl,rfl⟩;rw [h3])) | (go_at_call_of 139 (kidLo kn);go_must (refine (withinM_any _ _ _ _).mono ?_;rintro e w9 ⟨rfl,rfl⟩;rw [h4])) | (go_at_call_of 139 (clsLo kn);go_must (refine (withinM_any _ _ _ _).mono ?_;rintro e w9 ⟨rfl,rfl⟩)));go_ret;exact ⟨by rw [HP.out,h1,h2,h3,h4];simp,B3.out⟩
 . have hin:inB k 0 10=false:=by simp [inB];omega
   have BL:Hid (Bz w (w.alloc (.cells #[.int .i64 k,.int .i64 n,.string t,.string m,.slice p nk c,.slice q nc c'] 147))):=(sqN _ _);clear hr;go_enter func216,ntmps216;go_wp2_with (first | (go_at_call 139;go_must (refine (withinM_any _ _ _ _).mono ?_;rintro e w9 ⟨rfl,rfl⟩;rw [hin])));go_ret;exact ⟨by simp [plainB,hin],BL.out⟩
theorem exShape {w:World} {S:Nat->Prop} {d:Nat} {cs:List Value} {x:Ex} (h:HEx w S d cs x):∃ sk sn st se p1 n1 q1 p2 n2 q2,cs = [.int .i64 sk,.int .i64 sn,.string st,.string se,.slice p1 n1 q1,.slice p2 n2 q2]:=by
 cases d with
 | zero=>exact h.elim
 | succ d =>
  obtain ⟨kv,cv,rfl,_,_,_,_,⟨p1,c1,rfl,_⟩,⟨p2,c2,rfl,_⟩⟩:=h;exact ⟨_,_,_,_,_,_,_,_,_,_,rfl⟩
theorem clShape {w:World} {S:Nat->Prop} {R:List Value->Ex->Prop} {cs:List Value} {x:Cl} (h:HCl w S R cs x):∃ p1 n1 q1 p2 n2 q2,cs = [.slice p1 n1 q1,.slice p2 n2 q2]:=by
 obtain ⟨pv,bv,rfl,⟨p1,c1,rfl,_⟩,⟨p2,c2,rfl,_⟩⟩:=h;exact ⟨_,_,_,_,_,_,rfl⟩
def XpC (d:Nat):Prop :=
 ∀ (w:World) (cs:List Value) (x:Ex) (pat:Bool) (deep:Int),Tabs w->HEx w All d cs x->0<=deep->deep<=41->Calls prog 204 #[.agg cs.toArray,.int .i64 deep,.bool pat] w λe w'=>e=.returned (.bool (exOk d x pat (40 - deep)))/\Bz w w'
def XsC (d:Nat):Prop :=
 ∀ (w:World) (v:Value) (es:List Ex) (pat:Bool) (deep:Int),Tabs w->Rows w All 6 (HEx w All d) v es->0<=deep->deep<=41->Calls prog 191 #[v,.int .i64 deep,.bool pat] w λe w'=>e=.returned (.bool (es.all (λy=>exOk d y pat (40 - deep))))/\Bz w w'
def KcC (d:Nat):Prop :=
 ∀ (w:World) (cs:List Value) (c:Cl) (pats deep:Int),Tabs w->HCl w All (HEx w All d) cs c->0<=deep->deep<=41->Calls prog 166 #[.agg cs.toArray,.int .i64 pats,.int .i64 deep] w λe w'=>e=.returned (.bool (clB (λy q=>exOk d y q (40 - deep)) c pats))/\Bz w w'
def KsC (d:Nat):Prop :=
 ∀ (w:World) (v:Value) (cl:List Cl) (deep:Int),Tabs w->Rows w All 2 (HCl w All (HEx w All d)) v cl->0<=deep->deep<=41->Calls prog 217 #[v,.int .i64 deep] w λe w'=>e=.returned (.bool (cl.all (λc=>clB (λy q=>exOk d y q (40 - deep)) c 1)))/\Bz w w'
theorem expsI_of {d:Nat} (hE:XpC d):XsC d:=by
 intro w v es pat deep hT h hd0 hd1;have HT:=hid hT;obtain ⟨p,cap,rfl,hcl,hcm,hx⟩:=h;have hnb:=sqM hcl hcm;generalize hn:es.length=n at *;have HN:=hid hn;have HX:=hid hx;clear hx hn hT;go_enter func191,ntmps191;go_wp2_with fail
 go_loopw [11] (λiv wr=>∃ k:Nat,k<=n/\iv=.int .i64 k/\Hid ((es.take k).all (λy=>exOk d y pat (40 - deep))=true)/\Bz w wr) (λiv _=>n - (intOf iv).toNat)
 case atStart=>exact ⟨0,Nat.zero_le _,rfl,by show _=_;simp,Below.refl _ _⟩
 case round =>
  obtain ⟨k,hk,rfl,hall,hb⟩:=hrel;have HB:=hid hb;by_cases hlt:k<n
  . obtain ⟨x,hxk⟩:=sqA (l:=es) (k:=k) HN.out hlt
    obtain ⟨g,off,rfl,-,hgl,hat⟩:=HX.out (sqE hxk);obtain ⟨cs,hcsl,hcs,r1⟩:=hat k x hxk;obtain ⟨sk,sn,st,se,p1,n1,q1,p2,n2,q2,rfl⟩:=exShape r1;have E1:∀ w',Bz w w'->HEx w' All d [.int .i64 sk,.int .i64 sn,.string st,.string se,.slice p1 n1 q1,.slice p2 n2 q2] x:=λw' hw=>r1.mono (sqO hw) sqj;obtain ⟨a0,a1,a2,a3,a4,a5⟩:=sqC6 hcs (by omega);rw [<-hb.cell (p:=⟨g,_,none⟩) hgl] at a0 a1 a2 a3 a4 a5;simp at a0 a1 a2 a3 a4 a5;have hki:(k:Int)<(n:Int):=(by omega);have hk0:=sqI k;have HBA:Hid (Bz w (wr.alloc (.cells #[.int .i64 sk,.int .i64 sn,.string st,.string se,.slice p1 n1 q1,.slice p2 n2 q2] 147))):=HB.out.alloc HB.out.size _;clear hb hcs hat hcsl r1;generalize hcv:exOk d x pat (40 - deep)=cv;have HCV:=hid hcv;have HC2:Hid (cv=true->(es.take (k+1)).all (λy=>exOk d y pat (40 - deep))=true):=λh=>allT_succ _ es k x hxk hall.out (hcv.trans h);have HC3:Hid (cv=false->es.all (λy=>exOk d y pat (40 - deep))=false):=λh=>allT_at _ es k x hxk (hcv.trans h);clear hcv;go_wp2_with fail;refine (hE _ _ x pat deep (HT.out.below HBA.out) (E1 _ HBA.out) (by omega) (by omega)).mono ?_;rintro e w4 ⟨rfl,hb4⟩;rw [HCV.out];have HB4:=hid (HBA.out.trans (hb4.mono HBA.out.size));clear hb4 HCV
    cases cv with
    | true =>
     have HT':Hid _:=HC2.out rfl;clear HC2 HC3;go_wp2_with fail;exact ⟨⟨k+1,by omega,by go_num,HT'.out,HB4.out⟩,by simp [intOf];omega⟩
    | false =>
     have HF:=hid (HC3.out rfl);clear HC2 HC3;go_wp2;go_ret;exact ⟨by first | (rw [HF.out];rfl) | (rw [HF.out];simp),HB4.out⟩
  . have HD:Hid (es.all (λy=>exOk d y pat (40 - deep))=true):=by
     have:=hall.out
     rwa [List.take_of_length_le (by rw [HN.out];omega)] at this
    clear hb;go_wp2;go_ret;exact ⟨by first | (rw [HD.out];rfl) | (rw [HD.out];simp),HB.out⟩
theorem casesI_of {d:Nat} (hE:KcC d):KsC d:=by
 intro w v cl deep hT h hd0 hd1;have HT:=hid hT;obtain ⟨p,cap,rfl,hcl,hcm,hx⟩:=h;have hnb:=sqM hcl hcm;generalize hn:cl.length=n at *;have HN:=hid hn;have HX:=hid hx;clear hx hn hT;go_enter func217,ntmps217;go_wp2_with fail
 go_loopw [9] (λiv wr=>∃ k:Nat,k<=n/\iv=.int .i64 k/\Hid ((cl.take k).all (λc=>clB (λy q=>exOk d y q (40 - deep)) c 1)=true)/\Bz w wr) (λiv _=>n - (intOf iv).toNat)
 case atStart=>exact ⟨0,Nat.zero_le _,rfl,by show _=_;simp,Below.refl _ _⟩
 case round =>
  obtain ⟨k,hk,rfl,hall,hb⟩:=hrel;have HB:=hid hb;by_cases hlt:k<n
  . obtain ⟨x,hxk⟩:=sqA (l:=cl) (k:=k) HN.out hlt
    obtain ⟨g,off,rfl,-,hgl,hat⟩:=HX.out (sqE hxk);obtain ⟨cs,hcsl,hcs,r1⟩:=hat k x hxk;obtain ⟨p1,n1,q1,p2,n2,q2,rfl⟩:=clShape r1;have E1:∀ w',Bz w w'->HCl w' All (HEx w' All d) [.slice p1 n1 q1,.slice p2 n2 q2] x:=λw' hw=>r1.mono (sqO hw) sqj (λ_ _ h=>h.mono (sqO hw) sqj);obtain ⟨a0,a1⟩:=sqC2 hcs (by omega);rw [<-hb.cell (p:=⟨g,_,none⟩) hgl] at a0 a1;simp at a0 a1;have hki:(k:Int)<(n:Int):=(by omega);have hk0:=sqI k;have HBA:Hid (Bz w (wr.alloc (.cells #[.slice p1 n1 q1,.slice p2 n2 q2] 139))):=HB.out.alloc HB.out.size _;clear hb hcs hat hcsl r1;generalize hcv:clB (λy q=>exOk d y q (40 - deep)) x 1=cv;have HCV:=hid hcv;have HC2:Hid (cv=true->(cl.take (k+1)).all (λc=>clB (λy q=>exOk d y q (40 - deep)) c 1)=true):=λh=>allT_succ _ cl k x hxk hall.out (hcv.trans h);have HC3:Hid (cv=false->cl.all (λc=>clB (λy q=>exOk d y q (40 - deep)) c 1)=false):=λh=>allT_at _ cl k x hxk (hcv.trans h);clear hcv;go_wp2_with fail;refine (hE _ _ x 1 deep (HT.out.below HBA.out) (E1 _ HBA.out) (by omega) (by omega)).mono ?_;rintro e w4 ⟨rfl,hb4⟩;rw [HCV.out];have HB4:=hid (HBA.out.trans (hb4.mono HBA.out.size));clear hb4 HCV
    cases cv with
    | true =>
     have HT':Hid _:=HC2.out rfl;clear HC2 HC3;go_wp2_with fail;exact ⟨⟨k+1,by omega,by go_num,HT'.out,HB4.out⟩,by simp [intOf];omega⟩
    | false =>
     have HF:=hid (HC3.out rfl);clear HC2 HC3;go_wp2;go_ret;exact ⟨by first | (rw [HF.out];rfl) | (rw [HF.out];simp),HB4.out⟩
  . have HD:Hid (cl.all (λc=>clB (λy q=>exOk d y q (40 - deep)) c 1)=true):=by
     have:=hall.out
     rwa [List.take_of_length_le (by rw [HN.out];omega)] at this
    clear hb;go_wp2;go_ret;exact ⟨by first | (rw [HD.out];rfl) | (rw [HD.out];simp),HB.out⟩
theorem clauseI_of {d:Nat} (hE:XsC d):KcC d:=by
 intro w cs c pats deep hT h hd0 hd1;have HT:=hid hT;obtain ⟨pv,bv,rfl,f0,f1⟩:=h;obtain ⟨ps,bs⟩:=c;simp only at f0 f1;have BL:Hid (Bz w (w.alloc (.cells #[pv,bv] 139))):=(sqN _ _);have F0:∀ w',Bz w w'->Rows w' All 6 (HEx w' All d) pv ps:=λw' hw=>f0.mono (sqO hw) sqj (λ_ _ _ h=>h.mono (sqO hw) sqj);have F1:∀ w',Bz w w'->Rows w' All 6 (HEx w' All d) bv bs:=λw' hw=>f1.mono (sqO hw) sqj (λ_ _ _ h=>h.mono (sqO hw) sqj);obtain ⟨p,cap,rfl,hcl,hcm,-⟩:=f0;obtain ⟨q,cap',rfl,hcl',hcm',-⟩:=f1;have hnb:=sqM hcl hcm;have hmb:=sqM hcl' hcm';have hv:clB (λy q=>exOk d y q (40 - deep)) (ps,bs) pats=(decide ((ps.length:Int)=pats) && (inB bs.length 1 20 && (ps.all (λy=>exOk d y true (40 - deep)) && bs.all (λy=>exOk d y false (40 - deep))))):=rfl;rw [hv];clear hv hT;generalize ps.length=n at *;generalize bs.length=m at *;by_cases c1:(n:Int)=pats
 . subst c1
   rw [decide_eq_true rfl]
   cases hin:inB m 1 20 with
   | false =>
    go_enter func166,ntmps166;go_wp2_with (first | (go_at_call 139;go_must (refine (withinM_any _ _ _ _).mono ?_;rintro e w9 ⟨rfl,rfl⟩;rw [hin])));go_ret;exact ⟨by simp,BL.out⟩
   | true =>
    cases h1:ps.all (λy=>exOk d y true (40 - deep)) with
    | false =>
     go_enter func166,ntmps166;go_wp2_with (first | (go_at_call 139;go_must (refine (withinM_any _ _ _ _).mono ?_;rintro e w9 ⟨rfl,rfl⟩;rw [hin])));refine (hE _ _ ps true deep (HT.out.below BL.out) (F0 _ BL.out) (by omega) (by omega)).mono ?_;rintro e w2 ⟨rfl,hb2⟩;rw [h1];have B2:=hid (BL.out.trans (hb2.mono BL.out.size));clear hb2;go_wp2;go_ret;exact ⟨by simp,B2.out⟩
    | true =>
     go_enter func166,ntmps166;go_wp2_with (first | (go_at_call 139;go_must (refine (withinM_any _ _ _ _).mono ?_;rintro e w9 ⟨rfl,rfl⟩;rw [hin])));refine (hE _ _ ps true deep (HT.out.below BL.out) (F0 _ BL.out) (by omega) (by omega)).mono ?_;rintro e w2 ⟨rfl,hb2⟩;rw [h1];have B2:=hid (BL.out.trans (hb2.mono BL.out.size));have hbk:=(Blk.new (w:=w) (cs:=#[.slice p n cap,.slice q m cap']) (t:=139)).next hb2;obtain ⟨a0,a1⟩:=sqB2 hbk;clear hb2 hbk;go_wp2_with fail;refine (hE _ _ bs false deep (HT.out.below B2.out) (F1 _ B2.out) (by omega) (by omega)).mono ?_;rintro e w3 ⟨rfl,hb3⟩;have B3:=hid (B2.out.trans (hb3.mono B2.out.size));clear hb3;go_wp2;go_ret;exact ⟨by simp,B3.out⟩
 . have c2:((n:Int) == pats)=false:=by simpa using c1
   rw [decide_eq_false c1];go_enter func166,ntmps166;go_wp2;go_ret;exact ⟨by simp,BL.out⟩
theorem plainB_parts {k n:Int} {t m:ByteArray} {nk nc:Nat} (h:plainB k n t m nk nc=true):kidLo k<=nk/\(nk:Int)<=kidHi k/\clsLo k<=nc/\(nc:Int)<=clsHi k:=by
 unfold plainB at h;simp only [Bool.and_eq_true,inB,decide_eq_true_eq] at h;omega
theorem expI_of {d:Nat} (h0:XpC d) (h1:XsC d) (h2:KsC d):XpC (d+1):=by
 intro w cs x pat deep hT h hd0 hd1;have HT:=hid hT;obtain ⟨kv,cv,rfl,-,-,hts,hms,f0,f1⟩:=h;obtain ⟨kx,nx,tx,mx,ks,cl⟩:=x;simp only [Ex.kind,Ex.n,Ex.text,Ex.mod,Ex.kids,Ex.clauses] at *;have F0:∀ w',Bz w w'->Rows w' All 6 (HEx w' All d) kv ks:=λw' hw=>f0.mono (sqO hw) sqj (λ_ _ _ h=>h.mono (sqO hw) sqj);have F1:∀ w',Bz w w'->Rows w' All 2 (HCl w' All (HEx w' All d)) cv cl:=λw' hw=>f1.mono (sqO hw) sqj (λ_ _ _ h=>h.mono (sqO hw) sqj (λ_ _ h=>h.mono (sqO hw) sqj));obtain ⟨p,cap,rfl,hcl,hcm,hx⟩:=f0;obtain ⟨q,cap',rfl,hcl',hcm',-⟩:=f1;have hnb:=sqM hcl hcm;have hmb:=sqM hcl' hcm';have hv:=exOk_eq d kx nx tx mx ks cl pat (40 - deep);have e1:40 - deep - 1=40 - (deep+1):=(by omega);rw [e1] at hv;rw [hv];clear hv e1 hT;have BL:Hid (∀ (cs:Array Value) (t:TypeId),Bz w (w.alloc (.cells cs t))):=λcs t=>(sqN _ _);generalize hn:ks.length=n at *;generalize hm:cl.length=m at *;have HN:=hid hn;have HM:=hid hm;have HX:=hid hx;clear hx hn hm;by_cases c1:40<deep
 . rw [decide_eq_false (by omega)]
   go_enter func204,ntmps204;go_wp2;go_ret;exact ⟨by simp,BL.out _ _⟩
 rw [decide_eq_true (by omega:0<=40 - deep)]
 cases hpl:plainB kx nx tx mx n m with
 | false =>
  go_enter func204,ntmps204;go_wp2_with fail;refine (partsOk_any _ _ _ _ _ _ _ _ _ _ _ hts hms hnb hmb (HT.out.below (BL.out _ _))).mono ?_;rintro e W1 ⟨rfl,hb⟩;rw [hpl];have B1:Hid (Bz w W1):=((sqN _ _)).trans (hb.mono (by simp));have bA:Hid (Blk W1 w.heap.size #[.int .i64 kx,.int .i64 nx,.string tx,.string mx,.slice p n cap,.slice q m cap'] 147):=(Blk.new (w:=w)).next hb;obtain ⟨xa0,xa1,xa2,xa3,xa4,xa5⟩:=sqB6 bA.out;clear hb;go_wp2;go_ret;exact ⟨by simp,B1.out⟩
 | true =>
  obtain ⟨r0,r1⟩:=plainB_range hpl;obtain ⟨g0,g1,g2,g3⟩:=plainB_parts hpl;simp only [Bool.true_and]
  have nocl:kx≠10->cl = []:=λh=>by
   have:clsHi kx=0:=(by simp [clsHi,h]);have h3:=HM.out;exact List.length_eq_zero_iff.1 (by omega)
  by_cases k3:kx=3
  . subst k3
    have hk:ks = []:=by
     have:kidHi 3=0:=(by decide);have h3:=HN.out;exact List.length_eq_zero_iff.1 (by omega)
    have HV:Hid ((patB 3 pat && (kidsB (λy q=>exOk d y q (40 - (deep+1))) ks (pat || decide ((3:Int)=9)) pat && cl.all (λc=>clB (λy q=>exOk d y q (40 - (deep+1))) c 1)))=pat):=by
     show _=_
     rw [hk,nocl (by omega)];cases pat <;> simp [kidsB,patB]
    clear nocl hk g0 g1 g2 g3;rw [HV.out];go_enter func204,ntmps204;go_wp2_with fail;refine (partsOk_any _ _ _ _ _ _ _ _ _ _ _ hts hms hnb hmb (HT.out.below (BL.out _ _))).mono ?_;rintro e W1 ⟨rfl,hb⟩;rw [hpl];have B1:Hid (Bz w W1):=((sqN _ _)).trans (hb.mono (by simp));have bA:Hid (Blk W1 w.heap.size #[.int .i64 3,.int .i64 nx,.string tx,.string mx,.slice p n cap,.slice q m cap'] 147):=(Blk.new (w:=w)).next hb;obtain ⟨xa0,xa1,xa2,xa3,xa4,xa5⟩:=sqB6 bA.out;clear hb;go_wp2;go_ret;exact ⟨by rfl,B1.out⟩
  by_cases k46:kx=4\/kx=6
  . have HV:Hid ((patB kx pat && (kidsB (λy q=>exOk d y q (40 - (deep+1))) ks (pat || decide (kx=9)) pat && cl.all (λc=>clB (λy q=>exOk d y q (40 - (deep+1))) c 1)))=ks.all (λy=>exOk d y pat (40 - (deep+1)))):=by
     show _=_;have e9:decide (kx=9)=false:=(by simp;omega)
     have ep:patB kx pat=true:=by cases pat <;> simp [patB] <;> omega
     rw [nocl (by omega),e9,Bool.or_false,kidsB_same,ep];simp
    clear nocl g0 g1 g2 g3;rw [HV.out]
    rcases k46 with k4 | k4
    . subst k4
      go_enter func204,ntmps204;go_wp2_with fail;refine (partsOk_any _ _ _ _ _ _ _ _ _ _ _ hts hms hnb hmb (HT.out.below (BL.out _ _))).mono ?_;rintro e W1 ⟨rfl,hb⟩;rw [hpl];have B1:Hid (Bz w W1):=((sqN _ _)).trans (hb.mono (by simp));have bA:Hid (Blk W1 w.heap.size #[.int .i64 4,.int .i64 nx,.string tx,.string mx,.slice p n cap,.slice q m cap'] 147):=(Blk.new (w:=w)).next hb;obtain ⟨xa0,xa1,xa2,xa3,xa4,xa5⟩:=sqB6 bA.out;clear hb;go_wp2_with fail;refine (h1 _ _ ks pat (deep+1) (HT.out.below B1.out) (F0 _ B1.out) (by omega) (by omega)).mono ?_;rintro e w3 ⟨rfl,hb3⟩;have B3:=hid (B1.out.trans (hb3.mono B1.out.size));clear hb3;go_wp2;go_ret;exact ⟨by rfl,B3.out⟩
    . subst k4
      go_enter func204,ntmps204;go_wp2_with fail;refine (partsOk_any _ _ _ _ _ _ _ _ _ _ _ hts hms hnb hmb (HT.out.below (BL.out _ _))).mono ?_;rintro e W1 ⟨rfl,hb⟩;rw [hpl];have B1:Hid (Bz w W1):=((sqN _ _)).trans (hb.mono (by simp));have bA:Hid (Blk W1 w.heap.size #[.int .i64 6,.int .i64 nx,.string tx,.string mx,.slice p n cap,.slice q m cap'] 147):=(Blk.new (w:=w)).next hb;obtain ⟨xa0,xa1,xa2,xa3,xa4,xa5⟩:=sqB6 bA.out;clear hb;go_wp2_with fail;refine (h1 _ _ ks pat (deep+1) (HT.out.below B1.out) (F0 _ B1.out) (by omega) (by omega)).mono ?_;rintro e w3 ⟨rfl,hb3⟩;have B3:=hid (B1.out.trans (hb3.mono B1.out.size));clear hb3;go_wp2;go_ret;exact ⟨by rfl,B3.out⟩
  by_cases kl:kx=0\/kx=1\/kx=2\/kx=5
  . have hk:ks = []:=by
     have:kidHi kx=0:=by rcases kl with rfl | rfl | rfl | rfl <;> decide
     have h3:=HN.out;exact List.length_eq_zero_iff.1 (by omega)
    have HV:Hid ((patB kx pat && (kidsB (λy q=>exOk d y q (40 - (deep+1))) ks (pat || decide (kx=9)) pat && cl.all (λc=>clB (λy q=>exOk d y q (40 - (deep+1))) c 1)))=true):=by
     show _=_
     have ep:patB kx pat=true:=by cases pat <;> simp [patB] <;> omega
     rw [hk,nocl (by omega),ep];simp [kidsB]
    clear nocl hk g0 g1 g2 g3;rw [HV.out]
    rcases kl with k4 | k4 | k4 | k4
    . subst k4
      go_enter func204,ntmps204;go_wp2_with fail;refine (partsOk_any _ _ _ _ _ _ _ _ _ _ _ hts hms hnb hmb (HT.out.below (BL.out _ _))).mono ?_;rintro e W1 ⟨rfl,hb⟩;rw [hpl];have B1:Hid (Bz w W1):=((sqN _ _)).trans (hb.mono (by simp));have bA:Hid (Blk W1 w.heap.size #[.int .i64 0,.int .i64 nx,.string tx,.string mx,.slice p n cap,.slice q m cap'] 147):=(Blk.new (w:=w)).next hb;obtain ⟨xa0,xa1,xa2,xa3,xa4,xa5⟩:=sqB6 bA.out;clear hb;go_wp2;go_ret;exact ⟨by rfl,B1.out⟩
    . subst k4
      go_enter func204,ntmps204;go_wp2_with fail;refine (partsOk_any _ _ _ _ _ _ _ _ _ _ _ hts hms hnb hmb (HT.out.below (BL.out _ _))).mono ?_;rintro e W1 ⟨rfl,hb⟩;rw [hpl];have B1:Hid (Bz w W1):=((sqN _ _)).trans (hb.mono (by simp));have bA:Hid (Blk W1 w.heap.size #[.int .i64 1,.int .i64 nx,.string tx,.string mx,.slice p n cap,.slice q m cap'] 147):=(Blk.new (w:=w)).next hb;obtain ⟨xa0,xa1,xa2,xa3,xa4,xa5⟩:=sqB6 bA.out;clear hb;go_wp2;go_ret;exact ⟨by rfl,B1.out⟩
    . subst k4
      go_enter func204,ntmps204;go_wp2_with fail;refine (partsOk_any _ _ _ _ _ _ _ _ _ _ _ hts hms hnb hmb (HT.out.below (BL.out _ _))).mono ?_;rintro e W1 ⟨rfl,hb⟩;rw [hpl];have B1:Hid (Bz w W1):=((sqN _ _)).trans (hb.mono (by simp));have bA:Hid (Blk W1 w.heap.size #[.int .i64 2,.int .i64 nx,.string tx,.string mx,.slice p n cap,.slice q m cap'] 147):=(Blk.new (w:=w)).next hb;obtain ⟨xa0,xa1,xa2,xa3,xa4,xa5⟩:=sqB6 bA.out;clear hb;go_wp2;go_ret;exact ⟨by rfl,B1.out⟩
    . subst k4
      go_enter func204,ntmps204;go_wp2_with fail;refine (partsOk_any _ _ _ _ _ _ _ _ _ _ _ hts hms hnb hmb (HT.out.below (BL.out _ _))).mono ?_;rintro e W1 ⟨rfl,hb⟩;rw [hpl];have B1:Hid (Bz w W1):=((sqN _ _)).trans (hb.mono (by simp));have bA:Hid (Blk W1 w.heap.size #[.int .i64 5,.int .i64 nx,.string tx,.string mx,.slice p n cap,.slice q m cap'] 147):=(Blk.new (w:=w)).next hb;obtain ⟨xa0,xa1,xa2,xa3,xa4,xa5⟩:=sqB6 bA.out;clear hb;go_wp2;go_ret;exact ⟨by rfl,B1.out⟩
  cases pat with
  | true =>
   have HV:Hid ((patB kx true && (kidsB (λy q=>exOk d y q (40 - (deep+1))) ks (true || decide (kx=9)) true && cl.all (λc=>clB (λy q=>exOk d y q (40 - (deep+1))) c 1)))=false):=by
    show _=_;have ep:patB kx true=false:=(by simp [patB];omega);rw [ep];rfl
   clear nocl g0 g1 g2 g3;rw [HV.out]
   rcases (by omega:kx=7\/kx=8\/kx=9\/kx=10) with k4 | k4 | k4 | k4
   . subst k4
     go_enter func204,ntmps204;go_wp2_with fail;refine (partsOk_any _ _ _ _ _ _ _ _ _ _ _ hts hms hnb hmb (HT.out.below (BL.out _ _))).mono ?_;rintro e W1 ⟨rfl,hb⟩;rw [hpl];have B1:Hid (Bz w W1):=((sqN _ _)).trans (hb.mono (by simp));have bA:Hid (Blk W1 w.heap.size #[.int .i64 7,.int .i64 nx,.string tx,.string mx,.slice p n cap,.slice q m cap'] 147):=(Blk.new (w:=w)).next hb;obtain ⟨xa0,xa1,xa2,xa3,xa4,xa5⟩:=sqB6 bA.out;clear hb;go_wp2;go_ret;exact ⟨by rfl,B1.out⟩
   . subst k4
     go_enter func204,ntmps204;go_wp2_with fail;refine (partsOk_any _ _ _ _ _ _ _ _ _ _ _ hts hms hnb hmb (HT.out.below (BL.out _ _))).mono ?_;rintro e W1 ⟨rfl,hb⟩;rw [hpl];have B1:Hid (Bz w W1):=((sqN _ _)).trans (hb.mono (by simp));have bA:Hid (Blk W1 w.heap.size #[.int .i64 8,.int .i64 nx,.string tx,.string mx,.slice p n cap,.slice q m cap'] 147):=(Blk.new (w:=w)).next hb;obtain ⟨xa0,xa1,xa2,xa3,xa4,xa5⟩:=sqB6 bA.out;clear hb;go_wp2;go_ret;exact ⟨by rfl,B1.out⟩
   . subst k4
     go_enter func204,ntmps204;go_wp2_with fail;refine (partsOk_any _ _ _ _ _ _ _ _ _ _ _ hts hms hnb hmb (HT.out.below (BL.out _ _))).mono ?_;rintro e W1 ⟨rfl,hb⟩;rw [hpl];have B1:Hid (Bz w W1):=((sqN _ _)).trans (hb.mono (by simp));have bA:Hid (Blk W1 w.heap.size #[.int .i64 9,.int .i64 nx,.string tx,.string mx,.slice p n cap,.slice q m cap'] 147):=(Blk.new (w:=w)).next hb;obtain ⟨xa0,xa1,xa2,xa3,xa4,xa5⟩:=sqB6 bA.out;clear hb;go_wp2;go_ret;exact ⟨by rfl,B1.out⟩
   . subst k4
     go_enter func204,ntmps204;go_wp2_with fail;refine (partsOk_any _ _ _ _ _ _ _ _ _ _ _ hts hms hnb hmb (HT.out.below (BL.out _ _))).mono ?_;rintro e W1 ⟨rfl,hb⟩;rw [hpl];have B1:Hid (Bz w W1):=((sqN _ _)).trans (hb.mono (by simp));have bA:Hid (Blk W1 w.heap.size #[.int .i64 10,.int .i64 nx,.string tx,.string mx,.slice p n cap,.slice q m cap'] 147):=(Blk.new (w:=w)).next hb;obtain ⟨xa0,xa1,xa2,xa3,xa4,xa5⟩:=sqB6 bA.out;clear hb;go_wp2;go_ret;exact ⟨by rfl,B1.out⟩
  | false =>
   have ep:patB kx false=true:=(by simp [patB];omega);rw [ep];clear ep;by_cases k78:kx=7\/kx=8
   . have HV:Hid ((true && (kidsB (λy q=>exOk d y q (40 - (deep+1))) ks (false || decide (kx=9)) false && cl.all (λc=>clB (λy q=>exOk d y q (40 - (deep+1))) c 1)))=ks.all (λy=>exOk d y false (40 - (deep+1)))):=by
      show _=_;have e9:decide (kx=9)=false:=(by simp;omega);rw [nocl (by omega),e9,Bool.or_false,kidsB_same];simp
     clear nocl g0 g1 g2 g3;rw [HV.out]
     rcases k78 with k4 | k4
     . subst k4
       go_enter func204,ntmps204;go_wp2_with fail;refine (partsOk_any _ _ _ _ _ _ _ _ _ _ _ hts hms hnb hmb (HT.out.below (BL.out _ _))).mono ?_;rintro e W1 ⟨rfl,hb⟩;rw [hpl];have B1:Hid (Bz w W1):=((sqN _ _)).trans (hb.mono (by simp));have bA:Hid (Blk W1 w.heap.size #[.int .i64 7,.int .i64 nx,.string tx,.string mx,.slice p n cap,.slice q m cap'] 147):=(Blk.new (w:=w)).next hb;obtain ⟨xa0,xa1,xa2,xa3,xa4,xa5⟩:=sqB6 bA.out;clear hb;go_wp2_with fail;refine (h1 _ _ ks false (deep+1) (HT.out.below B1.out) (F0 _ B1.out) (by omega) (by omega)).mono ?_;rintro e w3 ⟨rfl,hb3⟩;have B3:=hid (B1.out.trans (hb3.mono B1.out.size));clear hb3;go_wp2;go_ret;exact ⟨by rfl,B3.out⟩
     . subst k4
       go_enter func204,ntmps204;go_wp2_with fail;refine (partsOk_any _ _ _ _ _ _ _ _ _ _ _ hts hms hnb hmb (HT.out.below (BL.out _ _))).mono ?_;rintro e W1 ⟨rfl,hb⟩;rw [hpl];have B1:Hid (Bz w W1):=((sqN _ _)).trans (hb.mono (by simp));have bA:Hid (Blk W1 w.heap.size #[.int .i64 8,.int .i64 nx,.string tx,.string mx,.slice p n cap,.slice q m cap'] 147):=(Blk.new (w:=w)).next hb;obtain ⟨xa0,xa1,xa2,xa3,xa4,xa5⟩:=sqB6 bA.out;clear hb;go_wp2_with fail;refine (h1 _ _ ks false (deep+1) (HT.out.below B1.out) (F0 _ B1.out) (by omega) (by omega)).mono ?_;rintro e w3 ⟨rfl,hb3⟩;have B3:=hid (B1.out.trans (hb3.mono B1.out.size));clear hb3;go_wp2;go_ret;exact ⟨by rfl,B3.out⟩
   by_cases k9:kx=9
   . subst k9
     have hn2:n=2:=by
      have a1:kidLo 9=2:=(by decide);have a2:kidHi 9=2:=(by decide);omega
     subst hn2
     obtain ⟨xa,xb,hks⟩:∃ a b,ks = [a,b]:=by
      have h3:=HN.out
      match ks,h3 with
      | [a,b],_=>exact ⟨a,b,rfl⟩
     have HV:Hid ((true && (kidsB (λy q=>exOk d y q (40 - (deep+1))) ks (false || decide ((9:Int)=9)) false && cl.all (λc=>clB (λy q=>exOk d y q (40 - (deep+1))) c 1)))=(exOk d xa true (40 - (deep+1)) && exOk d xb false (40 - (deep+1)))):=by
      show _=_;rw [nocl (by omega),hks];simp [kidsB]
     rw [HV.out];obtain ⟨g,off,rfl,-,hgl,hat⟩:=HX.out (by rw [hks];simp);obtain ⟨cs,-,hcs,ra⟩:=hat 0 xa (by rw [hks];rfl);obtain ⟨cs',-,hcs',rb⟩:=hat 1 xb (by rw [hks];rfl);obtain ⟨sk,sn,st,se,p1,n1,q1,p2,n2,q2,rfl⟩:=exShape ra;obtain ⟨tk,tn,tt,te,u1,m1,v1,u2,m2,v2,rfl⟩:=exShape rb;have EA:∀ w',Bz w w'->HEx w' All d [.int .i64 sk,.int .i64 sn,.string st,.string se,.slice p1 n1 q1,.slice p2 n2 q2] xa:=λw' hw=>ra.mono (sqO hw) sqj;have EB:∀ w',Bz w w'->HEx w' All d [.int .i64 tk,.int .i64 tn,.string tt,.string te,.slice u1 m1 v1,.slice u2 m2 v2] xb:=λw' hw=>rb.mono (sqO hw) sqj;have CA:∀ w',Bz w w'->∀ j,j<6->w'.cell? ⟨g,off+0 * 6+j,none⟩=_:=λw' hw j hj=>(hw.cell (p:=⟨g,off+0 * 6+j,none⟩) hgl).trans (hcs j hj);have CB:∀ w',Bz w w'->∀ j,j<6->w'.cell? ⟨g,off+1 * 6+j,none⟩=_:=λw' hw j hj=>(hw.cell (p:=⟨g,off+1 * 6+j,none⟩) hgl).trans (hcs' j hj);clear nocl hat hcs hcs' ra rb g0 g1 g2 g3;have HCA:=hid CA;have HCB:=hid CB;clear CA CB hks;generalize hca:exOk d xa true (40 - (deep+1))=ca;have HCV:=hid hca;clear hca
     cases ca with
     | false =>
      go_enter func204,ntmps204;go_wp2_with fail;refine (partsOk_any _ _ _ _ _ _ _ _ _ _ _ hts hms hnb hmb (HT.out.below (BL.out _ _))).mono ?_;rintro e W1 ⟨rfl,hb⟩;rw [hpl];have B1:Hid (Bz w W1):=((sqN _ _)).trans (hb.mono (by simp));have bA:Hid (Blk W1 w.heap.size #[.int .i64 9,.int .i64 nx,.string tx,.string mx,.slice (some ⟨g,off,none⟩) 2 cap,.slice q m cap'] 147):=(Blk.new (w:=w)).next hb;obtain ⟨xa0,xa1,xa2,xa3,xa4,xa5⟩:=sqB6 bA.out;clear hb;have ya0:=HCA.out _ B1.out 0 (by omega);have ya1:=HCA.out _ B1.out 1 (by omega);have ya2:=HCA.out _ B1.out 2 (by omega);have ya3:=HCA.out _ B1.out 3 (by omega);have ya4:=HCA.out _ B1.out 4 (by omega);have ya5:=HCA.out _ B1.out 5 (by omega);simp at ya0 ya1 ya2 ya3 ya4 ya5;go_wp2_with fail;refine (h0 _ _ xa true (deep+1) (HT.out.below B1.out) (EA _ B1.out) (by omega) (by omega)).mono ?_;rintro e w3 ⟨rfl,hb3⟩;rw [HCV.out];have B3:=hid (B1.out.trans (hb3.mono B1.out.size));clear hb3;go_wp2;go_ret;exact ⟨by simp,B3.out⟩
     | true =>
      go_enter func204,ntmps204;go_wp2_with fail;refine (partsOk_any _ _ _ _ _ _ _ _ _ _ _ hts hms hnb hmb (HT.out.below (BL.out _ _))).mono ?_;rintro e W1 ⟨rfl,hb⟩;rw [hpl];have B1:Hid (Bz w W1):=((sqN _ _)).trans (hb.mono (by simp));have bA:Hid (Blk W1 w.heap.size #[.int .i64 9,.int .i64 nx,.string tx,.string mx,.slice (some ⟨g,off,none⟩) 2 cap,.slice q m cap'] 147):=(Blk.new (w:=w)).next hb;obtain ⟨xa0,xa1,xa2,xa3,xa4,xa5⟩:=sqB6 bA.out;clear hb;have ya0:=HCA.out _ B1.out 0 (by omega);have ya1:=HCA.out _ B1.out 1 (by omega);have ya2:=HCA.out _ B1.out 2 (by omega);have ya3:=HCA.out _ B1.out 3 (by omega);have ya4:=HCA.out _ B1.out 4 (by omega);have ya5:=HCA.out _ B1.out 5 (by omega);simp at ya0 ya1 ya2 ya3 ya4 ya5;go_wp2_with fail;refine (h0 _ _ xa true (deep+1) (HT.out.below B1.out) (EA _ B1.out) (by omega) (by omega)).mono ?_;rintro e w3 ⟨rfl,hb3⟩;rw [HCV.out];have B3:=hid (B1.out.trans (hb3.mono B1.out.size));have hbk:=bA.out.next hb3;clear xa0 xa1 xa2 xa3 xa4 xa5 ya0 ya1 ya2 ya3 ya4 ya5;have xa4:=hbk.cell 4 _ rfl;have yb0:=HCB.out _ B3.out 0 (by omega);have yb1:=HCB.out _ B3.out 1 (by omega);have yb2:=HCB.out _ B3.out 2 (by omega);have yb3:=HCB.out _ B3.out 3 (by omega);have yb4:=HCB.out _ B3.out 4 (by omega);have yb5:=HCB.out _ B3.out 5 (by omega);simp at yb0 yb1 yb2 yb3 yb4 yb5;clear hb3 hbk;go_wp2_with fail;refine (h0 _ _ xb false (deep+1) (HT.out.below B3.out) (EB _ B3.out) (by omega) (by omega)).mono ?_;rintro e w4 ⟨rfl,hb4⟩;have B4:=hid (B3.out.trans (hb4.mono B3.out.size));clear hb4;go_wp2;go_ret;exact ⟨by simp,B4.out⟩
   obtain rfl:kx=10:=by omega
   have HV:Hid ((true && (kidsB (λy q=>exOk d y q (40 - (deep+1))) ks (false || decide ((10:Int)=9)) false && cl.all (λc=>clB (λy q=>exOk d y q (40 - (deep+1))) c 1)))=(ks.all (λy=>exOk d y false (40 - (deep+1))) && cl.all (λc=>clB (λy q=>exOk d y q (40 - (deep+1))) c 1))):=by
    show _=_;have e9:(false || decide ((10:Int)=9))=false:=(by decide);rw [e9,kidsB_same,Bool.true_and]
   clear nocl g0 g1 g2 g3;rw [HV.out]
   cases hca:ks.all (λy=>exOk d y false (40 - (deep+1))) with
   | false =>
    go_enter func204,ntmps204;go_wp2_with fail;refine (partsOk_any _ _ _ _ _ _ _ _ _ _ _ hts hms hnb hmb (HT.out.below (BL.out _ _))).mono ?_;rintro e W1 ⟨rfl,hb⟩;rw [hpl];have B1:Hid (Bz w W1):=((sqN _ _)).trans (hb.mono (by simp));have bA:Hid (Blk W1 w.heap.size #[.int .i64 10,.int .i64 nx,.string tx,.string mx,.slice p n cap,.slice q m cap'] 147):=(Blk.new (w:=w)).next hb;obtain ⟨xa0,xa1,xa2,xa3,xa4,xa5⟩:=sqB6 bA.out;clear hb;go_wp2_with fail;refine (h1 _ _ ks false (deep+1) (HT.out.below B1.out) (F0 _ B1.out) (by omega) (by omega)).mono ?_;rintro e w3 ⟨rfl,hb3⟩;rw [hca];have B3:=hid (B1.out.trans (hb3.mono B1.out.size));clear hb3;go_wp2;go_ret;exact ⟨by simp,B3.out⟩
   | true =>
    go_enter func204,ntmps204;go_wp2_with fail;refine (partsOk_any _ _ _ _ _ _ _ _ _ _ _ hts hms hnb hmb (HT.out.below (BL.out _ _))).mono ?_;rintro e W1 ⟨rfl,hb⟩;rw [hpl];have B1:Hid (Bz w W1):=((sqN _ _)).trans (hb.mono (by simp));have bA:Hid (Blk W1 w.heap.size #[.int .i64 10,.int .i64 nx,.string tx,.string mx,.slice p n cap,.slice q m cap'] 147):=(Blk.new (w:=w)).next hb;obtain ⟨xa0,xa1,xa2,xa3,xa4,xa5⟩:=sqB6 bA.out;clear hb;go_wp2_with fail;refine (h1 _ _ ks false (deep+1) (HT.out.below B1.out) (F0 _ B1.out) (by omega) (by omega)).mono ?_;rintro e w3 ⟨rfl,hb3⟩;rw [hca];have B3:=hid (B1.out.trans (hb3.mono B1.out.size));have hbk:=bA.out.next hb3;clear xa0 xa1 xa2 xa3 xa4 xa5;have xa5:=hbk.cell 5 _ rfl;clear hb3 hbk;go_wp2_with fail;refine (h2 _ _ cl (deep+1) (HT.out.below B3.out) (F1 _ B3.out) (by omega) (by omega)).mono ?_;rintro e w4 ⟨rfl,hb4⟩;have B4:=hid (B3.out.trans (hb4.mono B3.out.size));clear hb4;go_wp2;go_ret;exact ⟨by simp,B4.out⟩
theorem exp_allI:∀ d,XpC d
 | 0=>λw cs x pat deep _ h _ _=>h.elim
 | d+1=>expI_of (exp_allI d) (expsI_of (exp_allI d)) (casesI_of (clauseI_of (expsI_of (exp_allI d))))
theorem clause_allI (d:Nat):KcC d:=clauseI_of (expsI_of (exp_allI d))
end
end Go.Proofs.YtonpgdfpgpepiaaGreatDoor
