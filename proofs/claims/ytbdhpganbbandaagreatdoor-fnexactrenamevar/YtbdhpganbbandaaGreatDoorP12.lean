/-
  ModOkSpecD ModOkImplA
-/
import Derived.Test.YtbdhpganbbandaaGreatDoorP11
set_option maxHeartbeats 16000000
set_option linter.unusedVariables false
set_option maxRecDepth 100000
namespace Go.Proofs.YtbdhpganbbandaaGreatDoor
open Go.ChangeShapes Go.WideShapes Go.ChangeAt Go.RowKit
section
open Go.Proofs.Tryz
theorem rightS_of {d:Nat} (h1:RgC d) (h2:ClC d):RgC (d+1):=by
 intro w cs x pat deep h hd0 hd1;obtain ⟨kv,cv,rfl,-,-,hts,hms,f0,f1⟩:=h;obtain ⟨kx,nx,tx,mx,ks,cl⟩:=x;simp only [Ex.kind,Ex.n,Ex.text,Ex.mod,Ex.kids,Ex.clauses] at *;obtain ⟨p,cap,rfl,hcl,hcm,hx⟩:=f0;obtain ⟨q,cap',rfl,hcl',hcm',hy⟩:=f1;have hnb:=sqM hcl hcm;have hmb:=sqM hcl' hcm';have hv:=exOk_eq d kx nx tx mx ks cl pat deep;rw [hv];clear hv;generalize hn:ks.length=n at *;generalize hm:cl.length=m at *;have HN:=hid hn;have HM:=hid hm;have HX:=hid hx;have HY:=hid hy;clear hx hy hn hm;by_cases c1:deep<0
 . rw [decide_eq_false (by omega)]
   go_enter func132,ntmps132;go_wp2;go_ret;exact ⟨by simp,(sqN _ _)⟩
 rw [decide_eq_true (by omega:0<=deep)]
 cases hpl:plainB kx nx tx mx n m with
 | false =>
  go_enter func132,ntmps132;go_wp2_with fail;refine (plainS_any _ _ _ _ _ _ _ _ _ _ _ hts hms hnb hmb).mono ?_;rintro e W1 ⟨rfl,hb⟩;rw [hpl];have B1:Hid (Bz w W1):=((sqN _ _)).trans (hb.mono (by simp));have bA:Hid (Blk W1 w.heap.size #[.int .i64 kx,.int .i64 nx,.string tx,.string mx,.slice p n cap,.slice q m cap'] 74):=(Blk.new (w:=w)).next hb;obtain ⟨xa0,xa1,xa2,xa3,xa4,xa5⟩:=sqB6 bA.out;clear hb;go_wp2;go_ret;exact ⟨by simp,B1.out⟩
 | true =>
  obtain ⟨r0,r1⟩:=plainB_range hpl
  cases pat with
  | true =>
   by_cases c6:kx<=6
   . have h6:inB kx 0 6=true:=by simp [inB];omega
     have hpt:patB kx true=true:=(by simp [patB];omega);rw [hpt,Bool.true_or];simp only [Bool.true_and];go_enter func132,ntmps132;go_wp2_with fail;refine (plainS_any _ _ _ _ _ _ _ _ _ _ _ hts hms hnb hmb).mono ?_;rintro e W1 ⟨rfl,hb⟩;rw [hpl];have B1:Hid (Bz w W1):=((sqN _ _)).trans (hb.mono (by simp));have bA:Hid (Blk W1 w.heap.size #[.int .i64 kx,.int .i64 nx,.string tx,.string mx,.slice p n cap,.slice q m cap'] 74):=(Blk.new (w:=w)).next hb;obtain ⟨xa0,xa1,xa2,xa3,xa4,xa5⟩:=sqB6 bA.out;clear hb;go_wp2_with (first | (go_at_call 40;go_must (refine (l01In_any _ _ _ _).mono ?_;rintro e w9 ⟨rfl,hw9⟩;rw [h6,hw9];clear hw9 w9)));clear xa0 xa1 xa2 xa3 xa4 xa5
     go_loopw [7] (λiv wr=>∃ k1:Nat,k1<=n/\iv=.int .i64 k1/\Hid (kidsB (λy q=>exOk d y q (deep - 1)) (ks.take k1) true true=true)/\Hid (SameOn All W1 wr)/\Bz w wr) (λiv _=>n - (intOf iv).toNat)
     case atStart=>exact ⟨0,Nat.zero_le _,rfl,kidsB_nil _ _ _ _,sqS,B1.out⟩
     case round =>
      obtain ⟨k1,hk,rfl,hall,hso,hb⟩:=hrel;have HB:=hid hb;have b1:=bA.out.same_on hso.out;have hlw:=b1.lt;obtain ⟨xa0,xa1,xa2,xa3,xa4,xa5⟩:=sqB6 b1;clear b1;by_cases hlt:k1<n
      . obtain ⟨x,hxk⟩:=sqA (l:=ks) (k:=k1) HN.out hlt
        obtain ⟨g,off,rfl,-,hgl,hat⟩:=HX.out (sqE hxk);obtain ⟨cs,hcsl,hcs,r1⟩:=hat k1 x hxk;have E1:∀ w',SameOn All wr w'->HEx w' All d cs x:=λw' hw=>r1.mono (SameOn.trans (sqO hb) hw) sqj;obtain ⟨c0,c1,c2,c3,c4,c5,rfl⟩:=len6 hcsl;obtain ⟨a0,a1,a2,a3,a4,a5⟩:=sqC6 hcs (by omega);rw [<-hb.cell (p:=⟨g,_,none⟩) hgl] at a0 a1 a2 a3 a4 a5;simp at a0 a1 a2 a3 a4 a5;have hki:(k1:Int)<(n:Int):=(by omega);have hk0:=sqI k1;have hgw:g<wr.heap.size:=Nat.lt_of_lt_of_le hgl hb.size;have qa0:∀ m:Wd (λw'=>SameOn All wr w'/\Bz w w'),m.val.cell? ⟨g,off+k1 * 6,none⟩=some c0:=λm=>(sqK (m.ok.1.2 g trivial hgw)).trans a0;have qa1:∀ m:Wd (λw'=>SameOn All wr w'/\Bz w w'),m.val.cell? ⟨g,off+k1 * 6+1,none⟩=some c1:=λm=>(sqK (m.ok.1.2 g trivial hgw)).trans a1;have qa2:∀ m:Wd (λw'=>SameOn All wr w'/\Bz w w'),m.val.cell? ⟨g,off+k1 * 6+2,none⟩=some c2:=λm=>(sqK (m.ok.1.2 g trivial hgw)).trans a2;have qa3:∀ m:Wd (λw'=>SameOn All wr w'/\Bz w w'),m.val.cell? ⟨g,off+k1 * 6+3,none⟩=some c3:=λm=>(sqK (m.ok.1.2 g trivial hgw)).trans a3;have qa4:∀ m:Wd (λw'=>SameOn All wr w'/\Bz w w'),m.val.cell? ⟨g,off+k1 * 6+4,none⟩=some c4:=λm=>(sqK (m.ok.1.2 g trivial hgw)).trans a4;have qa5:∀ m:Wd (λw'=>SameOn All wr w'/\Bz w w'),m.val.cell? ⟨g,off+k1 * 6+5,none⟩=some c5:=λm=>(sqK (m.ok.1.2 g trivial hgw)).trans a5;have qx0:∀ m:Wd (λw'=>SameOn All wr w'/\Bz w w'),m.val.cell? ⟨w.heap.size,0,none⟩=some (.int .i64 kx):=λm=>(sqK (m.ok.1.2 w.heap.size trivial hlw)).trans xa0;have qx4:∀ m:Wd (λw'=>SameOn All wr w'/\Bz w w'),m.val.cell? ⟨w.heap.size,4,none⟩=some (.slice (some ⟨g,off,none⟩) n cap):=λm=>(sqK (m.ok.1.2 w.heap.size trivial hlw)).trans xa4;clear hb hcs hat hcsl r1;generalize hcv:exOk d x true (deep - 1)=cv;have HCV:=hid hcv;have HC2:Hid (cv=true->kidsB (λy q=>exOk d y q (deep - 1)) (ks.take (k1+1)) true true=true):=λh=>kidsB_succ _ ks _ _ k1 x hxk hall.out (by rw [ite_self];exact hcv.trans h);have HC3:Hid (cv=false->kidsB (λy q=>exOk d y q (deep - 1)) ks true true=false):=λh=>kidsB_at _ ks _ _ k1 x hxk (by rw [ite_self];exact hcv.trans h);clear hcv;go_wp2;have hCne:Nonempty (Wd (λw'=>SameOn All wr w'/\Bz w w')):=⟨⟨wr.drew,⟨sqS,HB.out.drew⟩⟩⟩;refine wp_region_class (λw'=>SameOn All wr w'/\Bz w w') (by kernel_rfl) (by kernel_rfl) ⟨sqS,HB.out.drew⟩ ?_
        repeat (go_big_quiet_step (first | (rename_i m;go_at_call 132;refine (h1 _ _ x true (deep - 1) (E1 _ m.ok.1) (by omega) (by omega)).mono ?_;rintro e w1 ⟨rfl,hb1⟩;exact ⟨by rw [HCV.out],⟨⟨w1,⟨(SameOn.trans m.ok.1 (sqO hb1)),m.ok.2.trans (hb1.mono m.ok.2.size)⟩⟩,rfl⟩⟩)))
        refine wpQuiet_nil ?_;rintro _ ⟨mq,rfl⟩;have HB4:=hid mq.ok.2;have HS4:=hid (hso.out.trans mq.ok.1);generalize mq.val=w4 at HB4 HS4 ⊢;clear HCV
        cases cv with
        | true =>
         have HT':Hid _:=HC2.out rfl;clear HC2 HC3;go_wp2_with fail;exact ⟨⟨k1+1,by omega,by go_num,HT'.out,HS4.out,HB4.out⟩,by simp [intOf];omega⟩
        | false =>
         have HF:Hid _:=HC3.out rfl;clear HC2 HC3;go_wp2;go_ret;exact ⟨by rw [HF.out];simp,HB4.out⟩
      . have HD_ks:Hid (kidsB (λy q=>exOk d y q (deep - 1)) ks true true=true):=by
         have:=hall.out
         rwa [List.take_of_length_le (by rw [HN.out];omega)] at this
        clear hb;go_wp2_with fail;clear xa0 xa1 xa2 xa3 xa4 xa5
        go_loopw [8] (λiv wr=>∃ k2:Nat,k2<=m/\iv=.int .i64 k2/\Hid ((cl.take k2).all (λy=>clB (λz q=>exOk d z q (deep - 1)) y 1)=true)/\Hid (SameOn All W1 wr)/\Bz w wr) (λiv _=>m - (intOf iv).toNat)
        case atStart=>exact ⟨0,Nat.zero_le _,rfl,by show _=_;simp,hso.out,HB.out⟩
        case round =>
         obtain ⟨k2,hk,rfl,hall,hso,hb⟩:=hrel;have HB:=hid hb;have b1:=bA.out.same_on hso.out;obtain ⟨xa0,xa1,xa2,xa3,xa4,xa5⟩:=sqB6 b1;clear b1;by_cases hlt:k2<m
         . obtain ⟨x,hxk⟩:∃ x,cl[k2]?=some x:=⟨cl[k2]'(by rw [HM.out];exact hlt),List.getElem?_eq_getElem _⟩
           obtain ⟨g,off,rfl,-,hgl,hat⟩:=HY.out (sqE hxk);obtain ⟨cs,hcsl,hcs,r1⟩:=hat k2 x hxk;have E1:∀ w',SameOn All wr w'->HCl w' All (HEx w' All d) cs x:=λw' hw=>r1.mono (SameOn.trans (sqO hb) hw) sqj (λ_ _ h=>h.mono (SameOn.trans (sqO hb) hw) sqj);obtain ⟨c0,c1,rfl⟩:=len2 hcsl;obtain ⟨a0,a1⟩:=sqC2 hcs (by omega);rw [<-hb.cell (p:=⟨g,_,none⟩) hgl] at a0 a1;simp at a0 a1;have hki:(k2:Int)<(m:Int):=(by omega);have hk0:=sqI k2;clear hb hcs hat hcsl r1;generalize hcv:(λy=>clB (λz q=>exOk d z q (deep - 1)) y 1) x=cv;have HCV:=hid hcv;have HC2:Hid (cv=true->(cl.take (k2+1)).all (λy=>clB (λz q=>exOk d z q (deep - 1)) y 1)=true):=λh=>allT_succ _ cl k2 x hxk hall.out (hcv.trans h);have HC3:Hid (cv=false->cl.all (λy=>clB (λz q=>exOk d z q (deep - 1)) y 1)=false):=λh=>allT_at _ cl k2 x hxk (hcv.trans h);clear hcv;go_wp2_with fail;refine (h2 _ _ x 1 (deep - 1) (E1 _ sqS) (by omega) (by omega)).mono ?_;rintro e w4 ⟨rfl,hb4⟩;have HB4:=hid (HB.out.trans (hb4.mono HB.out.size));have HS4:=hid (hso.out.trans (sqO hb4));rw [show clB (λz q=>exOk d z q (deep - 1)) x 1=cv from HCV.out];clear hb4
           cases cv with
           | true =>
            have HT:=HC2.out rfl;clear HC2 HC3 HCV;have HT':Hid _:=HT;clear HT;go_wp2_with fail;exact ⟨⟨k2+1,by omega,by go_num,HT'.out,HS4.out,HB4.out⟩,by simp [intOf];omega⟩
           | false =>
            have HF:=hid (HC3.out rfl);clear HC2 HC3 HCV;go_wp2;go_ret;exact ⟨by first | (rw [HF.out];simp) | simp [HF.out],HB4.out⟩
         . have HD_cl:Hid (cl.all (λy=>clB (λz q=>exOk d z q (deep - 1)) y 1)=true):=by
            have:=hall.out
            rwa [List.take_of_length_le (by rw [HM.out];omega)] at this
           clear hb;go_wp2;go_ret;exact ⟨by rw [HD_ks.out,HD_cl.out];simp,HB.out⟩
   . have h6:inB kx 0 6=false:=by simp [inB];omega
     have hpt:patB kx true=false:=(by simp [patB];omega);rw [hpt];go_enter func132,ntmps132;go_wp2_with fail;refine (plainS_any _ _ _ _ _ _ _ _ _ _ _ hts hms hnb hmb).mono ?_;rintro e W1 ⟨rfl,hb⟩;rw [hpl];have B1:Hid (Bz w W1):=((sqN _ _)).trans (hb.mono (by simp));have bA:Hid (Blk W1 w.heap.size #[.int .i64 kx,.int .i64 nx,.string tx,.string mx,.slice p n cap,.slice q m cap'] 74):=(Blk.new (w:=w)).next hb;obtain ⟨xa0,xa1,xa2,xa3,xa4,xa5⟩:=sqB6 bA.out;clear hb;go_wp2_with (first | (go_at_call 40;go_must (refine (l01In_any _ _ _ _).mono ?_;rintro e w9 ⟨rfl,hw9⟩;rw [h6,hw9];clear hw9 w9)));go_ret;exact ⟨by simp,B1.out⟩
  | false =>
   by_cases k3:kx=3
   . subst k3
     have hpt:patB 3 false=false:=(by simp [patB]);rw [hpt];go_enter func132,ntmps132;go_wp2_with fail;refine (plainS_any _ _ _ _ _ _ _ _ _ _ _ hts hms hnb hmb).mono ?_;rintro e W1 ⟨rfl,hb⟩;rw [hpl];have B1:Hid (Bz w W1):=((sqN _ _)).trans (hb.mono (by simp));have bA:Hid (Blk W1 w.heap.size #[.int .i64 3,.int .i64 nx,.string tx,.string mx,.slice p n cap,.slice q m cap'] 74):=(Blk.new (w:=w)).next hb;obtain ⟨xa0,xa1,xa2,xa3,xa4,xa5⟩:=sqB6 bA.out;clear hb;go_wp2;go_ret;exact ⟨by simp,B1.out⟩
   have hpt:patB kx false=true:=(by simp [patB,k3]);rw [hpt];by_cases k9:kx=9
   . subst k9
     have e9:(false || decide ((9:Int)=9))=true:=rfl;rw [e9];simp only [Bool.true_and];go_enter func132,ntmps132;go_wp2_with fail;refine (plainS_any _ _ _ _ _ _ _ _ _ _ _ hts hms hnb hmb).mono ?_;rintro e W1 ⟨rfl,hb⟩;rw [hpl];have B1:Hid (Bz w W1):=((sqN _ _)).trans (hb.mono (by simp));have bA:Hid (Blk W1 w.heap.size #[.int .i64 9,.int .i64 nx,.string tx,.string mx,.slice p n cap,.slice q m cap'] 74):=(Blk.new (w:=w)).next hb;obtain ⟨xa0,xa1,xa2,xa3,xa4,xa5⟩:=sqB6 bA.out;clear hb;go_wp2_with fail;clear xa0 xa1 xa2 xa3 xa4 xa5
     go_loopw [7] (λiv wr=>∃ k1:Nat,k1<=n/\iv=.int .i64 k1/\Hid (kidsB (λy q=>exOk d y q (deep - 1)) (ks.take k1) true false=true)/\Hid (SameOn All W1 wr)/\Bz w wr) (λiv _=>n - (intOf iv).toNat)
     case atStart=>exact ⟨0,Nat.zero_le _,rfl,kidsB_nil _ _ _ _,sqS,B1.out⟩
     case round =>
      obtain ⟨k1,hk,rfl,hall,hso,hb⟩:=hrel;have HB:=hid hb;have b1:=bA.out.same_on hso.out;have hlw:=b1.lt;obtain ⟨xa0,xa1,xa2,xa3,xa4,xa5⟩:=sqB6 b1;clear b1;by_cases hlt:k1<n
      . obtain ⟨x,hxk⟩:=sqA (l:=ks) (k:=k1) HN.out hlt
        obtain ⟨g,off,rfl,-,hgl,hat⟩:=HX.out (sqE hxk);obtain ⟨cs,hcsl,hcs,r1⟩:=hat k1 x hxk;have E1:∀ w',SameOn All wr w'->HEx w' All d cs x:=λw' hw=>r1.mono (SameOn.trans (sqO hb) hw) sqj;obtain ⟨c0,c1,c2,c3,c4,c5,rfl⟩:=len6 hcsl;obtain ⟨a0,a1,a2,a3,a4,a5⟩:=sqC6 hcs (by omega);rw [<-hb.cell (p:=⟨g,_,none⟩) hgl] at a0 a1 a2 a3 a4 a5;simp at a0 a1 a2 a3 a4 a5;have hki:(k1:Int)<(n:Int):=(by omega);have hk0:=sqI k1;have hgw:g<wr.heap.size:=Nat.lt_of_lt_of_le hgl hb.size;have qa0:∀ m:Wd (λw'=>SameOn All wr w'/\Bz w w'),m.val.cell? ⟨g,off+k1 * 6,none⟩=some c0:=λm=>(sqK (m.ok.1.2 g trivial hgw)).trans a0;have qa1:∀ m:Wd (λw'=>SameOn All wr w'/\Bz w w'),m.val.cell? ⟨g,off+k1 * 6+1,none⟩=some c1:=λm=>(sqK (m.ok.1.2 g trivial hgw)).trans a1;have qa2:∀ m:Wd (λw'=>SameOn All wr w'/\Bz w w'),m.val.cell? ⟨g,off+k1 * 6+2,none⟩=some c2:=λm=>(sqK (m.ok.1.2 g trivial hgw)).trans a2;have qa3:∀ m:Wd (λw'=>SameOn All wr w'/\Bz w w'),m.val.cell? ⟨g,off+k1 * 6+3,none⟩=some c3:=λm=>(sqK (m.ok.1.2 g trivial hgw)).trans a3;have qa4:∀ m:Wd (λw'=>SameOn All wr w'/\Bz w w'),m.val.cell? ⟨g,off+k1 * 6+4,none⟩=some c4:=λm=>(sqK (m.ok.1.2 g trivial hgw)).trans a4;have qa5:∀ m:Wd (λw'=>SameOn All wr w'/\Bz w w'),m.val.cell? ⟨g,off+k1 * 6+5,none⟩=some c5:=λm=>(sqK (m.ok.1.2 g trivial hgw)).trans a5;have qx0:∀ m:Wd (λw'=>SameOn All wr w'/\Bz w w'),m.val.cell? ⟨w.heap.size,0,none⟩=some (.int .i64 9):=λm=>(sqK (m.ok.1.2 w.heap.size trivial hlw)).trans xa0;have qx4:∀ m:Wd (λw'=>SameOn All wr w'/\Bz w w'),m.val.cell? ⟨w.heap.size,4,none⟩=some (.slice (some ⟨g,off,none⟩) n cap):=λm=>(sqK (m.ok.1.2 w.heap.size trivial hlw)).trans xa4;clear hb hcs hat hcsl r1;by_cases hz:k1=0
        . have HIF:Hid ((if k1=0 then true else false)=true):=by show _=_;rw [if_pos hz]
          have hz2:((k1:Int) == 0)=true:=(by simp;omega);clear hz;generalize hcv:exOk d x true (deep - 1)=cv;have HCV:=hid hcv;have HC2:Hid (cv=true->kidsB (λy q=>exOk d y q (deep - 1)) (ks.take (k1+1)) true false=true):=λh=>kidsB_succ _ ks _ _ k1 x hxk hall.out (by rw [HIF.out];exact hcv.trans h);have HC3:Hid (cv=false->kidsB (λy q=>exOk d y q (deep - 1)) ks true false=false):=λh=>kidsB_at _ ks _ _ k1 x hxk (by rw [HIF.out];exact hcv.trans h);clear hcv;go_wp2;have hCne:Nonempty (Wd (λw'=>SameOn All wr w'/\Bz w w')):=⟨⟨wr.drew,⟨sqS,HB.out.drew⟩⟩⟩;refine wp_region_class (λw'=>SameOn All wr w'/\Bz w w') (by kernel_rfl) (by kernel_rfl) ⟨sqS,HB.out.drew⟩ ?_
          repeat (go_big_quiet_step (first | (rename_i m;go_at_call 132;refine (h1 _ _ x true (deep - 1) (E1 _ m.ok.1) (by omega) (by omega)).mono ?_;rintro e w1 ⟨rfl,hb1⟩;exact ⟨by rw [HCV.out],⟨⟨w1,⟨(SameOn.trans m.ok.1 (sqO hb1)),m.ok.2.trans (hb1.mono m.ok.2.size)⟩⟩,rfl⟩⟩)))
          refine wpQuiet_nil ?_;rintro _ ⟨mq,rfl⟩;have HB4:=hid mq.ok.2;have HS4:=hid (hso.out.trans mq.ok.1);generalize mq.val=w4 at HB4 HS4 ⊢;clear HCV
          cases cv with
          | true =>
           have HT':Hid _:=HC2.out rfl;clear HC2 HC3;go_wp2_with fail;exact ⟨⟨k1+1,by omega,by go_num,HT'.out,HS4.out,HB4.out⟩,by simp [intOf];omega⟩
          | false =>
           have HF:Hid _:=HC3.out rfl;clear HC2 HC3;go_wp2;go_ret;exact ⟨by rw [HF.out];simp,HB4.out⟩
        . have HIF:Hid ((if k1=0 then true else false)=false):=by show _=_;rw [if_neg hz]
          have hz2:((k1:Int) == 0)=false:=(by simp;omega);clear hz;generalize hcv:exOk d x false (deep - 1)=cv;have HCV:=hid hcv;have HC2:Hid (cv=true->kidsB (λy q=>exOk d y q (deep - 1)) (ks.take (k1+1)) true false=true):=λh=>kidsB_succ _ ks _ _ k1 x hxk hall.out (by rw [HIF.out];exact hcv.trans h);have HC3:Hid (cv=false->kidsB (λy q=>exOk d y q (deep - 1)) ks true false=false):=λh=>kidsB_at _ ks _ _ k1 x hxk (by rw [HIF.out];exact hcv.trans h);clear hcv;go_wp2;have hCne:Nonempty (Wd (λw'=>SameOn All wr w'/\Bz w w')):=⟨⟨wr.drew,⟨sqS,HB.out.drew⟩⟩⟩;refine wp_region_class (λw'=>SameOn All wr w'/\Bz w w') (by kernel_rfl) (by kernel_rfl) ⟨sqS,HB.out.drew⟩ ?_
          repeat (go_big_quiet_step (first | (rename_i m;go_at_call 132;refine (h1 _ _ x false (deep - 1) (E1 _ m.ok.1) (by omega) (by omega)).mono ?_;rintro e w1 ⟨rfl,hb1⟩;exact ⟨by rw [HCV.out],⟨⟨w1,⟨(SameOn.trans m.ok.1 (sqO hb1)),m.ok.2.trans (hb1.mono m.ok.2.size)⟩⟩,rfl⟩⟩)))
          refine wpQuiet_nil ?_;rintro _ ⟨mq,rfl⟩;have HB4:=hid mq.ok.2;have HS4:=hid (hso.out.trans mq.ok.1);generalize mq.val=w4 at HB4 HS4 ⊢;clear HCV
          cases cv with
          | true =>
           have HT':Hid _:=HC2.out rfl;clear HC2 HC3;go_wp2_with fail;exact ⟨⟨k1+1,by omega,by go_num,HT'.out,HS4.out,HB4.out⟩,by simp [intOf];omega⟩
          | false =>
           have HF:Hid _:=HC3.out rfl;clear HC2 HC3;go_wp2;go_ret;exact ⟨by rw [HF.out];simp,HB4.out⟩
      . have HD_ks:Hid (kidsB (λy q=>exOk d y q (deep - 1)) ks true false=true):=by
         have:=hall.out
         rwa [List.take_of_length_le (by rw [HN.out];omega)] at this
        clear hb;go_wp2_with fail;clear xa0 xa1 xa2 xa3 xa4 xa5
        go_loopw [8] (λiv wr=>∃ k2:Nat,k2<=m/\iv=.int .i64 k2/\Hid ((cl.take k2).all (λy=>clB (λz q=>exOk d z q (deep - 1)) y 1)=true)/\Hid (SameOn All W1 wr)/\Bz w wr) (λiv _=>m - (intOf iv).toNat)
        case atStart=>exact ⟨0,Nat.zero_le _,rfl,by show _=_;simp,hso.out,HB.out⟩
        case round =>
         obtain ⟨k2,hk,rfl,hall,hso,hb⟩:=hrel;have HB:=hid hb;have b1:=bA.out.same_on hso.out;obtain ⟨xa0,xa1,xa2,xa3,xa4,xa5⟩:=sqB6 b1;clear b1;by_cases hlt:k2<m
         . obtain ⟨x,hxk⟩:∃ x,cl[k2]?=some x:=⟨cl[k2]'(by rw [HM.out];exact hlt),List.getElem?_eq_getElem _⟩
           obtain ⟨g,off,rfl,-,hgl,hat⟩:=HY.out (sqE hxk);obtain ⟨cs,hcsl,hcs,r1⟩:=hat k2 x hxk;have E1:∀ w',SameOn All wr w'->HCl w' All (HEx w' All d) cs x:=λw' hw=>r1.mono (SameOn.trans (sqO hb) hw) sqj (λ_ _ h=>h.mono (SameOn.trans (sqO hb) hw) sqj);obtain ⟨c0,c1,rfl⟩:=len2 hcsl;obtain ⟨a0,a1⟩:=sqC2 hcs (by omega);rw [<-hb.cell (p:=⟨g,_,none⟩) hgl] at a0 a1;simp at a0 a1;have hki:(k2:Int)<(m:Int):=(by omega);have hk0:=sqI k2;clear hb hcs hat hcsl r1;generalize hcv:(λy=>clB (λz q=>exOk d z q (deep - 1)) y 1) x=cv;have HCV:=hid hcv;have HC2:Hid (cv=true->(cl.take (k2+1)).all (λy=>clB (λz q=>exOk d z q (deep - 1)) y 1)=true):=λh=>allT_succ _ cl k2 x hxk hall.out (hcv.trans h);have HC3:Hid (cv=false->cl.all (λy=>clB (λz q=>exOk d z q (deep - 1)) y 1)=false):=λh=>allT_at _ cl k2 x hxk (hcv.trans h);clear hcv;go_wp2_with fail;refine (h2 _ _ x 1 (deep - 1) (E1 _ sqS) (by omega) (by omega)).mono ?_;rintro e w4 ⟨rfl,hb4⟩;have HB4:=hid (HB.out.trans (hb4.mono HB.out.size));have HS4:=hid (hso.out.trans (sqO hb4));rw [show clB (λz q=>exOk d z q (deep - 1)) x 1=cv from HCV.out];clear hb4
           cases cv with
           | true =>
            have HT:=HC2.out rfl;clear HC2 HC3 HCV;have HT':Hid _:=HT;clear HT;go_wp2_with fail;exact ⟨⟨k2+1,by omega,by go_num,HT'.out,HS4.out,HB4.out⟩,by simp [intOf];omega⟩
           | false =>
            have HF:=hid (HC3.out rfl);clear HC2 HC3 HCV;go_wp2;go_ret;exact ⟨by first | (rw [HF.out];simp) | simp [HF.out],HB4.out⟩
         . have HD_cl:Hid (cl.all (λy=>clB (λz q=>exOk d z q (deep - 1)) y 1)=true):=by
            have:=hall.out
            rwa [List.take_of_length_le (by rw [HM.out];omega)] at this
           clear hb;go_wp2;go_ret;exact ⟨by rw [HD_ks.out,HD_cl.out];simp,HB.out⟩
   . have e9:(false || decide (kx=9))=false:=by simp [k9]
     have k9b:(kx == 9)=false:=(by simpa using k9);have k3b:(kx == 3)=false:=(by simpa using k3);rw [e9];simp only [Bool.true_and];go_enter func132,ntmps132;go_wp2_with fail;refine (plainS_any _ _ _ _ _ _ _ _ _ _ _ hts hms hnb hmb).mono ?_;rintro e W1 ⟨rfl,hb⟩;rw [hpl];have B1:Hid (Bz w W1):=((sqN _ _)).trans (hb.mono (by simp));have bA:Hid (Blk W1 w.heap.size #[.int .i64 kx,.int .i64 nx,.string tx,.string mx,.slice p n cap,.slice q m cap'] 74):=(Blk.new (w:=w)).next hb;obtain ⟨xa0,xa1,xa2,xa3,xa4,xa5⟩:=sqB6 bA.out;clear hb;go_wp2_with fail;clear xa0 xa1 xa2 xa3 xa4 xa5
     go_loopw [7] (λiv wr=>∃ k1:Nat,k1<=n/\iv=.int .i64 k1/\Hid (kidsB (λy q=>exOk d y q (deep - 1)) (ks.take k1) false false=true)/\Hid (SameOn All W1 wr)/\Bz w wr) (λiv _=>n - (intOf iv).toNat)
     case atStart=>exact ⟨0,Nat.zero_le _,rfl,kidsB_nil _ _ _ _,sqS,B1.out⟩
     case round =>
      obtain ⟨k1,hk,rfl,hall,hso,hb⟩:=hrel;have HB:=hid hb;have b1:=bA.out.same_on hso.out;have hlw:=b1.lt;obtain ⟨xa0,xa1,xa2,xa3,xa4,xa5⟩:=sqB6 b1;clear b1;by_cases hlt:k1<n
      . obtain ⟨x,hxk⟩:=sqA (l:=ks) (k:=k1) HN.out hlt
        obtain ⟨g,off,rfl,-,hgl,hat⟩:=HX.out (sqE hxk);obtain ⟨cs,hcsl,hcs,r1⟩:=hat k1 x hxk;have E1:∀ w',SameOn All wr w'->HEx w' All d cs x:=λw' hw=>r1.mono (SameOn.trans (sqO hb) hw) sqj;obtain ⟨c0,c1,c2,c3,c4,c5,rfl⟩:=len6 hcsl;obtain ⟨a0,a1,a2,a3,a4,a5⟩:=sqC6 hcs (by omega);rw [<-hb.cell (p:=⟨g,_,none⟩) hgl] at a0 a1 a2 a3 a4 a5;simp at a0 a1 a2 a3 a4 a5;have hki:(k1:Int)<(n:Int):=(by omega);have hk0:=sqI k1;have hgw:g<wr.heap.size:=Nat.lt_of_lt_of_le hgl hb.size;have qa0:∀ m:Wd (λw'=>SameOn All wr w'/\Bz w w'),m.val.cell? ⟨g,off+k1 * 6,none⟩=some c0:=λm=>(sqK (m.ok.1.2 g trivial hgw)).trans a0;have qa1:∀ m:Wd (λw'=>SameOn All wr w'/\Bz w w'),m.val.cell? ⟨g,off+k1 * 6+1,none⟩=some c1:=λm=>(sqK (m.ok.1.2 g trivial hgw)).trans a1;have qa2:∀ m:Wd (λw'=>SameOn All wr w'/\Bz w w'),m.val.cell? ⟨g,off+k1 * 6+2,none⟩=some c2:=λm=>(sqK (m.ok.1.2 g trivial hgw)).trans a2;have qa3:∀ m:Wd (λw'=>SameOn All wr w'/\Bz w w'),m.val.cell? ⟨g,off+k1 * 6+3,none⟩=some c3:=λm=>(sqK (m.ok.1.2 g trivial hgw)).trans a3;have qa4:∀ m:Wd (λw'=>SameOn All wr w'/\Bz w w'),m.val.cell? ⟨g,off+k1 * 6+4,none⟩=some c4:=λm=>(sqK (m.ok.1.2 g trivial hgw)).trans a4;have qa5:∀ m:Wd (λw'=>SameOn All wr w'/\Bz w w'),m.val.cell? ⟨g,off+k1 * 6+5,none⟩=some c5:=λm=>(sqK (m.ok.1.2 g trivial hgw)).trans a5;have qx0:∀ m:Wd (λw'=>SameOn All wr w'/\Bz w w'),m.val.cell? ⟨w.heap.size,0,none⟩=some (.int .i64 kx):=λm=>(sqK (m.ok.1.2 w.heap.size trivial hlw)).trans xa0;have qx4:∀ m:Wd (λw'=>SameOn All wr w'/\Bz w w'),m.val.cell? ⟨w.heap.size,4,none⟩=some (.slice (some ⟨g,off,none⟩) n cap):=λm=>(sqK (m.ok.1.2 w.heap.size trivial hlw)).trans xa4;clear hb hcs hat hcsl r1;generalize hcv:exOk d x false (deep - 1)=cv;have HCV:=hid hcv;have HC2:Hid (cv=true->kidsB (λy q=>exOk d y q (deep - 1)) (ks.take (k1+1)) false false=true):=λh=>kidsB_succ _ ks _ _ k1 x hxk hall.out (by rw [ite_self];exact hcv.trans h);have HC3:Hid (cv=false->kidsB (λy q=>exOk d y q (deep - 1)) ks false false=false):=λh=>kidsB_at _ ks _ _ k1 x hxk (by rw [ite_self];exact hcv.trans h);clear hcv;go_wp2;have hCne:Nonempty (Wd (λw'=>SameOn All wr w'/\Bz w w')):=⟨⟨wr.drew,⟨sqS,HB.out.drew⟩⟩⟩;refine wp_region_class (λw'=>SameOn All wr w'/\Bz w w') (by kernel_rfl) (by kernel_rfl) ⟨sqS,HB.out.drew⟩ ?_
        repeat (go_big_quiet_step (first | (rename_i m;go_at_call 132;refine (h1 _ _ x false (deep - 1) (E1 _ m.ok.1) (by omega) (by omega)).mono ?_;rintro e w1 ⟨rfl,hb1⟩;exact ⟨by rw [HCV.out],⟨⟨w1,⟨(SameOn.trans m.ok.1 (sqO hb1)),m.ok.2.trans (hb1.mono m.ok.2.size)⟩⟩,rfl⟩⟩)))
        refine wpQuiet_nil ?_;rintro _ ⟨mq,rfl⟩;have HB4:=hid mq.ok.2;have HS4:=hid (hso.out.trans mq.ok.1);generalize mq.val=w4 at HB4 HS4 ⊢;clear HCV
        cases cv with
        | true =>
         have HT':Hid _:=HC2.out rfl;clear HC2 HC3;go_wp2_with fail;exact ⟨⟨k1+1,by omega,by go_num,HT'.out,HS4.out,HB4.out⟩,by simp [intOf];omega⟩
        | false =>
         have HF:Hid _:=HC3.out rfl;clear HC2 HC3;go_wp2;go_ret;exact ⟨by rw [HF.out];simp,HB4.out⟩
      . have HD_ks:Hid (kidsB (λy q=>exOk d y q (deep - 1)) ks false false=true):=by
         have:=hall.out
         rwa [List.take_of_length_le (by rw [HN.out];omega)] at this
        clear hb;go_wp2_with fail;clear xa0 xa1 xa2 xa3 xa4 xa5
        go_loopw [8] (λiv wr=>∃ k2:Nat,k2<=m/\iv=.int .i64 k2/\Hid ((cl.take k2).all (λy=>clB (λz q=>exOk d z q (deep - 1)) y 1)=true)/\Hid (SameOn All W1 wr)/\Bz w wr) (λiv _=>m - (intOf iv).toNat)
        case atStart=>exact ⟨0,Nat.zero_le _,rfl,by show _=_;simp,hso.out,HB.out⟩
        case round =>
         obtain ⟨k2,hk,rfl,hall,hso,hb⟩:=hrel;have HB:=hid hb;have b1:=bA.out.same_on hso.out;obtain ⟨xa0,xa1,xa2,xa3,xa4,xa5⟩:=sqB6 b1;clear b1;by_cases hlt:k2<m
         . obtain ⟨x,hxk⟩:∃ x,cl[k2]?=some x:=⟨cl[k2]'(by rw [HM.out];exact hlt),List.getElem?_eq_getElem _⟩
           obtain ⟨g,off,rfl,-,hgl,hat⟩:=HY.out (sqE hxk);obtain ⟨cs,hcsl,hcs,r1⟩:=hat k2 x hxk;have E1:∀ w',SameOn All wr w'->HCl w' All (HEx w' All d) cs x:=λw' hw=>r1.mono (SameOn.trans (sqO hb) hw) sqj (λ_ _ h=>h.mono (SameOn.trans (sqO hb) hw) sqj);obtain ⟨c0,c1,rfl⟩:=len2 hcsl;obtain ⟨a0,a1⟩:=sqC2 hcs (by omega);rw [<-hb.cell (p:=⟨g,_,none⟩) hgl] at a0 a1;simp at a0 a1;have hki:(k2:Int)<(m:Int):=(by omega);have hk0:=sqI k2;clear hb hcs hat hcsl r1;generalize hcv:(λy=>clB (λz q=>exOk d z q (deep - 1)) y 1) x=cv;have HCV:=hid hcv;have HC2:Hid (cv=true->(cl.take (k2+1)).all (λy=>clB (λz q=>exOk d z q (deep - 1)) y 1)=true):=λh=>allT_succ _ cl k2 x hxk hall.out (hcv.trans h);have HC3:Hid (cv=false->cl.all (λy=>clB (λz q=>exOk d z q (deep - 1)) y 1)=false):=λh=>allT_at _ cl k2 x hxk (hcv.trans h);clear hcv;go_wp2_with fail;refine (h2 _ _ x 1 (deep - 1) (E1 _ sqS) (by omega) (by omega)).mono ?_;rintro e w4 ⟨rfl,hb4⟩;have HB4:=hid (HB.out.trans (hb4.mono HB.out.size));have HS4:=hid (hso.out.trans (sqO hb4));rw [show clB (λz q=>exOk d z q (deep - 1)) x 1=cv from HCV.out];clear hb4
           cases cv with
           | true =>
            have HT:=HC2.out rfl;clear HC2 HC3 HCV;have HT':Hid _:=HT;clear HT;go_wp2_with fail;exact ⟨⟨k2+1,by omega,by go_num,HT'.out,HS4.out,HB4.out⟩,by simp [intOf];omega⟩
           | false =>
            have HF:=hid (HC3.out rfl);clear HC2 HC3 HCV;go_wp2;go_ret;exact ⟨by first | (rw [HF.out];simp) | simp [HF.out],HB4.out⟩
         . have HD_cl:Hid (cl.all (λy=>clB (λz q=>exOk d z q (deep - 1)) y 1)=true):=by
            have:=hall.out
            rwa [List.take_of_length_le (by rw [HM.out];omega)] at this
           clear hb;go_wp2;go_ret;exact ⟨by rw [HD_ks.out,HD_cl.out];simp,HB.out⟩
theorem right_allS:∀ d,RgC d
 | 0=>λw cs x pat deep h _ _=>h.elim
 | d+1=>rightS_of (right_allS d) (clauseS_of (right_allS d))
theorem clause_allS (d:Nat):ClC d:=clauseS_of (right_allS d)
def ShapesAt (w:World):Prop :=
 ∀ k:Nat,k<11->w.cell? ⟨8,k * 5,none⟩=some (.int .i64 (txtK k))/\w.cell? ⟨8,k * 5+1,none⟩=some (.int .i64 (kidLo k))/\w.cell? ⟨8,k * 5+2,none⟩=some (.int .i64 (kidHi k)) /\
  w.cell? ⟨8,k * 5+3,none⟩=some (.int .i64 (clsLo k))/\w.cell? ⟨8,k * 5+4,none⟩=some (.int .i64 (clsHi k))
structure Tabs (w:World):Prop where
 keys:KeysAt w
 shapes:ShapesAt w
theorem Tabs.below {w w':World} (h:Tabs w) (hb:Bz w w'):Tabs w' :=
 ⟨⟨cell_next hb h.keys.1,cell_next hb h.keys.2.1,cell_next hb h.keys.2.2⟩,λk hk=>by
  obtain ⟨a,b,c,d,e⟩:=h.shapes k hk
  exact ⟨cell_next hb a,cell_next hb b,cell_next hb c,cell_next hb d,cell_next hb e⟩⟩
theorem withinM_any (a b c:Int) (w:World):Calls prog 61 #[.int .i64 a,.int .i64 b,.int .i64 c] w λe w'=>e=.returned (.bool (inB a b c))/\w'=w:=by
 by_cases h1:b<=a <;> by_cases h2:a<=c
 all_goals
  go_enter func61,ntmps61;go_wp2;go_ret;exact ⟨by simp [inB,h1,h2],rfl⟩
theorem isOp_any (t:ByteArray) (w:World):Calls prog 236 #[.string t] w λe w'=>e=.returned (.bool (opB t))/\w'=w:=by
 cases h0:(t.toList == [61,61]) <;> cases h1:(t.toList == [60]) <;> cases h2:(t.toList == [43]) <;> cases h3:(t.toList == [45]) <;> cases h4:(t.toList == [42])
 all_goals
  go_enter func236,ntmps236;go_wp2;go_ret;exact ⟨by simp [opB,h0,h1,h2,h3,h4],rfl⟩
theorem textOk_any (k:Int) (t:ByteArray) (w:World) (hts:t.size<=maxLen) (hk:KeysAt w):Calls prog 233 #[.int .i64 k,.string t] w λe w'=>e=.returned (.bool (tkB k t))/\w'=w:=by
 have HK:=hid hk;clear hk;by_cases k1:k=1
 . subst k1
   go_enter func233,ntmps233;go_wp2_with (go_at_call 137;go_must (refine (implAtomOk_any _ _ hts HK.out).mono ?_;rintro e w' ⟨rfl,rfl⟩));go_ret;exact ⟨by simp [tkB],rfl⟩
 by_cases k2:k=2
 . subst k2
   go_enter func233,ntmps233;go_wp2_with (go_at_call 56;go_must (refine (implVarOk_any _ _ hts).mono ?_;rintro e w' ⟨rfl,rfl⟩));go_ret;exact ⟨by simp [tkB],rfl⟩
 by_cases k3:k=3
 . subst k3
   go_enter func233,ntmps233;go_wp2_with (go_at_call 236;go_must (refine (isOp_any _ _).mono ?_;rintro e w' ⟨rfl,rfl⟩));go_ret;exact ⟨by simp [tkB],rfl⟩
 . have HS:Hid (tkB k t=t.toList.isEmpty):=by show _=_;rw [Bool.eq_iff_iff];simp [tkB,k1,k2,k3]
   go_enter func233,ntmps233;go_wp2;go_ret;exact ⟨by rw [HS.out];rfl,rfl⟩
theorem numberOk_any (k n:Int) (t m:ByteArray) (p q:Option Addr) (nk c nc c':Nat) (w:World):Calls prog 231 #[.agg #[.int .i64 k,.int .i64 n,.string t,.string m,.slice p nk c,.slice q nc c']] w λe w'=>e=.returned (.bool (numB k n))/\Bz w w':=by
 have BL:Hid (Bz w (w.alloc (.cells #[.int .i64 k,.int .i64 n,.string t,.string m,.slice p nk c,.slice q nc c'] 74))):=(sqN _ _);by_cases k0:k=0
 . subst k0
   go_enter func231,ntmps231;go_wp2_with (go_at_call 61;go_must (refine (withinM_any _ _ _ _).mono ?_;rintro e w' ⟨rfl,rfl⟩));go_ret;exact ⟨by simp [numB],BL.out⟩
 . have HS:Hid (numB k n=(n == 0)):=by show _=_;rw [Bool.eq_iff_iff];simp [numB,k0]
   go_enter func231,ntmps231;go_wp2;go_ret;exact ⟨by rw [HS.out];rfl,BL.out⟩
theorem modOk_any (k n:Int) (t m:ByteArray) (p q:Option Addr) (nk c nc c':Nat) (w:World) (hms:m.size<=maxLen) (hk:KeysAt w):Calls prog 232 #[.agg #[.int .i64 k,.int .i64 n,.string t,.string m,.slice p nk c,.slice q nc c']] w λe w'=>e=.returned (.bool (modB k m))/\Bz w w':=by
 have BL:Hid (Bz w (w.alloc (.cells #[.int .i64 k,.int .i64 n,.string t,.string m,.slice p nk c,.slice q nc c'] 74))):=(sqN _ _);have HK:Hid (KeysAt (w.alloc (.cells #[.int .i64 k,.int .i64 n,.string t,.string m,.slice p nk c,.slice q nc c'] 74))):=⟨cell_next BL.out hk.1,cell_next BL.out hk.2.1,cell_next BL.out hk.2.2⟩;clear hk;by_cases hm:m.toList = []
 . have hm2:(m.toList == [])=true:=by simpa using hm
   have HS:Hid (modB k m=true):=(by show _=_;simp [modB,hm]);clear hm;go_enter func232,ntmps232;go_wp2;go_ret;exact ⟨by rw [HS.out];rfl,BL.out⟩
 . have hm2:(m.toList == [])=false:=by simpa using hm
   by_cases k8:k=8
   . subst k8
     have HS:Hid (modB 8 m=atomB m):=(by show _=_;simp [modB,hm]);clear hm;go_enter func232,ntmps232;go_wp2_with (go_at_call 137;go_must (refine (implAtomOk_any _ _ hms HK.out).mono ?_;rintro e w' ⟨rfl,rfl⟩));go_ret;exact ⟨by rw [HS.out];rfl,BL.out⟩
   . have HS:Hid (modB k m=false):=by show _=_;simp [modB,hm,k8]
     clear hm;go_enter func232,ntmps232;go_wp2;go_ret;exact ⟨by rw [HS.out];rfl,BL.out⟩
theorem partsOk_any (k n:Int) (t m:ByteArray) (p q:Option Addr) (nk c nc c':Nat) (w:World) (hts:t.size<=maxLen) (hms:m.size<=maxLen) (hnk:nk<=9223372036854775807) (hnc:nc<=9223372036854775807) (hT:Tabs w) :
 Calls prog 221 #[.agg #[.int .i64 k,.int .i64 n,.string t,.string m,.slice p nk c,.slice q nc c']] w λe w'=>e=.returned (.bool (plainB k n t m nk nc))/\Bz w w':=by
 have HT:=hid hT;clear hT;by_cases hr:0<=k/\k<=10
 . obtain ⟨kn,rfl⟩:∃ kn:Nat,k=kn:=⟨k.toNat,by omega⟩
   have hkn:kn<11:=(by omega);have hki:(kn:Int)<11:=(by omega);have hk0:=sqI kn;have hin:inB (kn:Int) 0 10=true:=(by simp [inB];omega);clear hr;have BL:Hid (Bz w (w.alloc (.cells #[.int .i64 (kn:Int),.int .i64 n,.string t,.string m,.slice p nk c,.slice q nc c'] 74))):=(sqN _ _);have BM:Hid (Bz w ((w.alloc (.cells #[.int .i64 (kn:Int),.int .i64 n,.string t,.string m,.slice p nk c,.slice q nc c'] 74)).alloc (.cells #[.int .i64 (txtK kn),.int .i64 (kidLo kn),.int .i64 (kidHi kn),.int .i64 (clsLo kn),.int .i64 (clsHi kn)] 289))):=BL.out.alloc BL.out.size _;obtain ⟨s0,s1,s2,s3,s4⟩:=(HT.out.below BL.out).shapes kn hkn;have HP:Hid (plainB kn n t m nk nc=(numB kn n && (modB kn m && (tkB (txtK kn) t && (inB nk (kidLo kn) (kidHi kn) && inB nc (clsLo kn) (clsHi kn)))))):=(by show _=_;simp [plainB,hin,txtB])
   cases h1:numB kn n with
   | false =>
    go_enter func221,ntmps221;go_wp2_with (first | (go_at_call 61;go_must (refine (withinM_any _ _ _ _).mono ?_;rintro e w9 ⟨rfl,rfl⟩;rw [hin])));refine (numberOk_any _ _ _ _ _ _ _ _ _ _ _).mono ?_;rintro e w2 ⟨rfl,hb2⟩;rw [h1];have B2:=hid (BM.out.trans (hb2.mono BM.out.size));go_wp2;go_ret;exact ⟨by rw [HP.out,h1];simp,B2.out⟩
   | true =>
    cases h2:modB kn m with
    | false =>
     go_enter func221,ntmps221;go_wp2_with (first | (go_at_call 61;go_must (refine (withinM_any _ _ _ _).mono ?_;rintro e w9 ⟨rfl,rfl⟩;rw [hin])));refine (numberOk_any _ _ _ _ _ _ _ _ _ _ _).mono ?_;rintro e w2 ⟨rfl,hb2⟩;rw [h1];have B2:=hid (BM.out.trans (hb2.mono BM.out.size));have g1:Hid (Blk w2 w.heap.size #[.int .i64 (kn:Int),.int .i64 n,.string t,.string m,.slice p nk c,.slice q nc c'] 74):=((Blk.new (w:=w)).alloc).next hb2
     have g2:Hid (Blk w2 (w.heap.size+1) #[.int .i64 (txtK kn),.int .i64 (kidLo kn),.int .i64 (kidHi kn),.int .i64 (clsLo kn),.int .i64 (clsHi kn)] 289):=by
      have:=(Blk.new (w:=(w.alloc (.cells #[.int .i64 (kn:Int),.int .i64 n,.string t,.string m,.slice p nk c,.slice q nc c'] 74))) (cs:=#[.int .i64 (txtK kn),.int .i64 (kidLo kn),.int .i64 (kidHi kn),.int .i64 (clsLo kn),.int .i64 (clsHi kn)]) (t:=289)).next hb2;simp only [alloc_hs] at this;exact this
     obtain ⟨a0,a1,a2,a3,a4,a5⟩:=sqB6 g1.out;clear hb2 s0 s1 s2 s3 s4;go_wp2_with fail;refine (modOk_any _ _ _ _ _ _ _ _ _ _ _ hms (HT.out.below B2.out).keys).mono ?_;rintro e w3 ⟨rfl,hb3⟩;rw [h2];have B3:=hid (B2.out.trans (hb3.mono B2.out.size));go_wp2;go_ret;exact ⟨by rw [HP.out,h1,h2];simp,B3.out⟩
    | true =>
     cases h3:tkB (txtK kn) t with
     | false =>
      go_enter func221,ntmps221;go_wp2_with (first | (go_at_call 61;go_must (refine (withinM_any _ _ _ _).mono ?_;rintro e w9 ⟨rfl,rfl⟩;rw [hin])));refine (numberOk_any _ _ _ _ _ _ _ _ _ _ _).mono ?_;rintro e w2 ⟨rfl,hb2⟩;rw [h1];have B2:=hid (BM.out.trans (hb2.mono BM.out.size));have g1:Hid (Blk w2 w.heap.size #[.int .i64 (kn:Int),.int .i64 n,.string t,.string m,.slice p nk c,.slice q nc c'] 74):=((Blk.new (w:=w)).alloc).next hb2
      have g2:Hid (Blk w2 (w.heap.size+1) #[.int .i64 (txtK kn),.int .i64 (kidLo kn),.int .i64 (kidHi kn),.int .i64 (clsLo kn),.int .i64 (clsHi kn)] 289):=by
       have:=(Blk.new (w:=(w.alloc (.cells #[.int .i64 (kn:Int),.int .i64 n,.string t,.string m,.slice p nk c,.slice q nc c'] 74))) (cs:=#[.int .i64 (txtK kn),.int .i64 (kidLo kn),.int .i64 (kidHi kn),.int .i64 (clsLo kn),.int .i64 (clsHi kn)]) (t:=289)).next hb2;simp only [alloc_hs] at this;exact this
      obtain ⟨a0,a1,a2,a3,a4,a5⟩:=sqB6 g1.out;clear hb2 s0 s1 s2 s3 s4;go_wp2_with fail;refine (modOk_any _ _ _ _ _ _ _ _ _ _ _ hms (HT.out.below B2.out).keys).mono ?_;rintro e w3 ⟨rfl,hb3⟩;rw [h2];have B3:=hid (B2.out.trans (hb3.mono B2.out.size));have g3:=g1.out.next hb3;have g4:=g2.out.next hb3;clear a0 a1 a2 a3 a4 a5;obtain ⟨a0,a1,a2,a3,a4,a5⟩:=sqB6 g3;have b0:=g4.cell 0 _ rfl;have b1:=g4.cell 1 _ rfl;have b2:=g4.cell 2 _ rfl;have b3:=g4.cell 3 _ rfl;have b4:=g4.cell 4 _ rfl;clear hb3 g3 g4;go_wp2_with (first | (go_at_call 233;go_must (refine (textOk_any _ _ _ hts (HT.out.below B3.out).keys).mono ?_;rintro e w9 ⟨rfl,rfl⟩;rw [h3])));go_ret;exact ⟨by rw [HP.out,h1,h2,h3];simp,B3.out⟩
     | true =>
      cases h4:inB nk (kidLo kn) (kidHi kn) with
      | false =>
       go_enter func221,ntmps221;go_wp2_with (first | (go_at_call 61;go_must (refine (withinM_any _ _ _ _).mono ?_;rintro e w9 ⟨rfl,rfl⟩;rw [hin])));refine (numberOk_any _ _ _ _ _ _ _ _ _ _ _).mono ?_;rintro e w2 ⟨rfl,hb2⟩;rw [h1];have B2:=hid (BM.out.trans (hb2.mono BM.out.size));have g1:Hid (Blk w2 w.heap.size #[.int .i64 (kn:Int),.int .i64 n,.string t,.string m,.slice p nk c,.slice q nc c'] 74):=((Blk.new (w:=w)).alloc).next hb2
       have g2:Hid (Blk w2 (w.heap.size+1) #[.int .i64 (txtK kn),.int .i64 (kidLo kn),.int .i64 (kidHi kn),.int .i64 (clsLo kn),.int .i64 (clsHi kn)] 289):=by
        have:=(Blk.new (w:=(w.alloc (.cells #[.int .i64 (kn:Int),.int .i64 n,.string t,.string m,.slice p nk c,.slice q nc c'] 74))) (cs:=#[.int .i64 (txtK kn),.int .i64 (kidLo kn),.int .i64 (kidHi kn),.int .i64 (clsLo kn),.int .i64 (clsHi kn)]) (t:=289)).next hb2;simp only [alloc_hs] at this;exact this
       obtain ⟨a0,a1,a2,a3,a4,a5⟩:=sqB6 g1.out;clear hb2 s0 s1 s2 s3 s4;go_wp2_with fail;refine (modOk_any _ _ _ _ _ _ _ _ _ _ _ hms (HT.out.below B2.out).keys).mono ?_;rintro e w3 ⟨rfl,hb3⟩;rw [h2];have B3:=hid (B2.out.trans (hb3.mono B2.out.size));have g3:=g1.out.next hb3;have g4:=g2.out.next hb3;clear a0 a1 a2 a3 a4 a5;obtain ⟨a0,a1,a2,a3,a4,a5⟩:=sqB6 g3;have b0:=g4.cell 0 _ rfl;have b1:=g4.cell 1 _ rfl;have b2:=g4.cell 2 _ rfl;have b3:=g4.cell 3 _ rfl;have b4:=g4.cell 4 _ rfl;clear hb3 g3 g4;go_wp2_with (first | (go_at_call 233;go_must (refine (textOk_any _ _ _ hts (HT.out.below B3.out).keys).mono ?_;rintro e w9 ⟨rfl,rfl⟩;rw [h3])) | (go_at_call_of 61 (kidLo kn);go_must (refine (withinM_any _ _ _ _).mono ?_;rintro e w9 ⟨rfl,rfl⟩;rw [h4])));go_ret;exact ⟨by rw [HP.out,h1,h2,h3,h4];simp,B3.out⟩
      | true =>
       go_enter func221,ntmps221;go_wp2_with (first | (go_at_call 61;go_must (refine (withinM_any _ _ _ _).mono ?_;rintro e w9 ⟨rfl,rfl⟩;rw [hin])));refine (numberOk_any _ _ _ _ _ _ _ _ _ _ _).mono ?_;rintro e w2 ⟨rfl,hb2⟩;rw [h1];have B2:=hid (BM.out.trans (hb2.mono BM.out.size));have g1:Hid (Blk w2 w.heap.size #[.int .i64 (kn:Int),.int .i64 n,.string t,.string m,.slice p nk c,.slice q nc c'] 74):=((Blk.new (w:=w)).alloc).next hb2
       have g2:Hid (Blk w2 (w.heap.size+1) #[.int .i64 (txtK kn),.int .i64 (kidLo kn),.int .i64 (kidHi kn),.int .i64 (clsLo kn),.int .i64 (clsHi kn)] 289):=by
        have:=(Blk.new (w:=(w.alloc (.cells #[.int .i64 (kn:Int),.int .i64 n,.string t,.string m,.slice p nk c,.slice q nc c'] 74))) (cs:=#[.int .i64 (txtK kn),.int .i64 (kidLo kn),.int .i64 (kidHi kn),.int .i64 (clsLo kn),.int .i64 (clsHi kn)]) (t:=289)).next hb2;simp only [alloc_hs] at this;exact this
       obtain ⟨a0,a1,a2,a3,a4,a5⟩:=sqB6 g1.out;clear hb2 s0 s1 s2 s3 s4;go_wp2_with fail;refine (modOk_any _ _ _ _ _ _ _ _ _ _ _ hms (HT.out.below B2.out).keys).mono ?_;rintro e w3 ⟨rfl,hb3⟩;rw [h2];have B3:=hid (B2.out.trans (hb3.mono B2.out.size));have g3:=g1.out.next hb3;have g4:=g2.out.next hb3;clear a0 a1 a2 a3 a4 a5;obtain ⟨a0,a1,a2,a3,a4,a5⟩:=sqB6 g3;have b0:=g4.cell 0 _ rfl;have b1:=g4.cell 1 _ rfl;have b2:=g4.cell 2 _ rfl;have b3:=g4.cell 3 _ rfl;have b4:=g4.cell 4 _ rfl;clear hb3 g3 g4;go_wp2_with (first | (go_at_call 233;go_must (refine (textOk_any _ _ _ hts (HT.out.below B3.out).keys).mono ?_;rintro e w9 ⟨rfl,rfl⟩;rw [h3])) | (go_at_call_of 61 (kidLo kn);go_must (refine (withinM_any _ _ _ _).mono ?_;rintro e w9 ⟨rfl,rfl⟩;rw [h4])) | (go_at_call_of 61 (clsLo kn);go_must (refine (withinM_any _ _ _ _).mono ?_;rintro e w9 ⟨rfl,rfl⟩)));go_ret;exact ⟨by rw [HP.out,h1,h2,h3,h4];simp,B3.out⟩
 . have hin:inB k 0 10=false:=by simp [inB];omega
   have BL:Hid (Bz w (w.alloc (.cells #[.int .i64 k,.int .i64 n,.string t,.string m,.slice p nk c,.slice q nc c'] 74))):=(sqN _ _);clear hr;go_enter func221,ntmps221;go_wp2_with (first | (go_at_call 61;go_must (refine (withinM_any _ _ _ _).mono ?_;rintro e w9 ⟨rfl,rfl⟩;rw [hin])));go_ret;exact ⟨by simp [plainB,hin],BL.out⟩
end
end Go.Proofs.YtbdhpganbbandaaGreatDoor
