/-
  Size ModsSz Eq ModsEq
-/
import Derived.Test.YtonpgdfpgpepiaaGreatDoorP06
set_option maxHeartbeats 16000000
set_option linter.unusedVariables false
set_option maxRecDepth 100000
namespace Go.Proofs.YtonpgdfpgpepiaaGreatDoor
open Go.ChangeShapes Go.WideShapes Go.ChangeAt Go.RowKit
section
open Go.Proofs.Tryz
variable {N:Nat}
theorem szExpS_of {d:Nat} (hE:SzC 183 (λw v e=>∃ cs,v=.agg cs.toArray/\HEx w (λg=>g<N) d cs e) (wtEx d)) :
 SzC 155 (λw v es=>Rows w (λg=>g<N) 6 (HEx w (λg=>g<N) d) v es) (wtS (wtEx d)):=by
 intro w v es left h hl;obtain ⟨p,cap,rfl,hcl,hcm,hx⟩:=h;generalize hn:es.length=n at *;have HN:=hid hn;have HX:Hid _:=hx;have hnb:=sqM hcl hcm;clear hx hn;by_cases h0:left<n
 . have hr:leftOf left (wtS (wtEx d) es) = -1:=leftOf_lt (by unfold wtS;rw [HN.out];omega)
   have HR:Hid (leftOf left (wtS (wtEx d) es) = -1):=hr;clear hr;go_enter func155,ntmps155;go_wp2;go_ret;exact ⟨by rw [HR.out];rfl,Below.refl _ _⟩
 . go_enter func155,ntmps155
   go_wp2
   go_loopw [1,5] (λlv iv wr=>∃ k r:Nat,k<=n/\iv=.int .i64 k/\lv=.int .i64 r/\Hid (r+n+((es.take k).map (wtEx d)).sum=left)/\Bz w wr) (λ_ iv _=>n - (intOf iv).toNat)
   case atStart=>exact ⟨0,left - n,Nat.zero_le _,rfl,by go_num,(by show left - n+n+_=left;simp;omega),Below.refl _ _⟩
   case round =>
    obtain ⟨k,r,hk,rfl,rfl,hrs,hb⟩:=hrel;have HB:=hid hb;by_cases hlt:k<n
    . obtain ⟨x,hxk⟩:=sqA (l:=es) (k:=k) HN.out hlt
      obtain ⟨g,off,rfl,hg,hgl,hat⟩:=HX.out (sqE hxk);obtain ⟨cs,hcl6,hcs,hex⟩:=hat k x hxk;have hex':HEx wr (λg=>g<N) d cs x:=hex.mono (sqO hb) sqj;obtain ⟨c0,c1,c2,c3,c4,c5,rfl⟩:=len6 hcl6;obtain ⟨a0,a1,a2,a3,a4,a5⟩:=sqC6 hcs (by omega);rw [<-hb.cell (p:=⟨g,_,none⟩) hgl] at a0 a1 a2 a3 a4 a5;simp at a0 a1 a2 a3 a4 a5;clear hb hcs hat hex hcl6;have hrb:r<=1048576:=(by have:=hrs.out;omega);have hst:=sum_take_succ (wtEx d) es k x hxk;have HST:=hid hst;have hle:=sum_take_le (wtEx d) es (k+1);have HLE:=hid hle;clear hst hle;generalize hwx:wtEx d x=y at *;have HY:=hid hwx;by_cases hy:r<y
      . have hr:leftOf left (wtS (wtEx d) es) = -1:=leftOf_lt (by unfold wtS;have:=hrs.out;have:=HLE.out;have:=HST.out;rw [HN.out];omega)
        have HR:Hid (leftOf left (wtS (wtEx d) es) = -1):=hr;have hr2:leftOf r y = -1:=leftOf_lt hy;clear hr hwx;go_wp2_with (go_at_call 183;go_must (refine (hE _ _ x r ⟨_,rfl,hex'⟩ hrb).mono ?_;rintro e w1 ⟨rfl,hb1⟩;rw [HY.out,hr2];have HB1:Hid _:=hb1;clear hb1));go_ret;exact ⟨by rw [HR.out];rfl,HB.out.trans (HB1.out.mono HB.out.size)⟩
      . have hr2:leftOf r y=((r - y:Nat):Int):=leftOf_ge (by omega)
        clear hwx;go_wp2_with (go_at_call 183;go_must (refine (hE _ _ x r ⟨_,rfl,hex'⟩ hrb).mono ?_;rintro e w1 ⟨rfl,hb1⟩;rw [HY.out,hr2];have HB1:Hid _:=hb1;clear hb1));exact ⟨⟨k+1,r - y,by omega,by go_num,rfl,(by have:=hrs.out;have:=HST.out;show r - y+n+_=left;omega),HB.out.trans (HB1.out.mono HB.out.size)⟩,by simp [intOf];omega⟩
    . have hr:leftOf left (wtS (wtEx d) es)=(r:Int):=by
       have h1:=hrs.out;rw [List.take_of_length_le (by rw [HN.out];omega)] at h1;rw [leftOf_ge (by unfold wtS;rw [HN.out];omega)];unfold wtS;rw [HN.out];omega
      have HR:Hid (leftOf left (wtS (wtEx d) es)=(r:Int)):=hr;clear hr;go_wp2;go_ret;exact ⟨by rw [HR.out];rfl,HB.out⟩
theorem szClauseS_of {d:Nat} (hE:SzC 124 (λw v e=>∃ cs,v=.agg cs.toArray/\HCl w (λg=>g<N) (HEx w (λg=>g<N) d) cs e) (wtCl (wtEx d))) :
 SzC 88 (λw v es=>Rows w (λg=>g<N) 2 (HCl w (λg=>g<N) (HEx w (λg=>g<N) d)) v es) (wtS (wtCl (wtEx d))):=by
 intro w v es left h hl;obtain ⟨p,cap,rfl,hcl,hcm,hx⟩:=h;generalize hn:es.length=n at *;have HN:=hid hn;have HX:Hid _:=hx;have hnb:=sqM hcl hcm;clear hx hn;by_cases h0:left<n
 . have hr:leftOf left (wtS (wtCl (wtEx d)) es) = -1:=leftOf_lt (by unfold wtS;rw [HN.out];omega)
   have HR:Hid (leftOf left (wtS (wtCl (wtEx d)) es) = -1):=hr;clear hr;go_enter func88,ntmps88;go_wp2;go_ret;exact ⟨by rw [HR.out];rfl,Below.refl _ _⟩
 . go_enter func88,ntmps88
   go_wp2
   go_loopw [1,5] (λlv iv wr=>∃ k r:Nat,k<=n/\iv=.int .i64 k/\lv=.int .i64 r/\Hid (r+n+((es.take k).map (wtCl (wtEx d))).sum=left)/\Bz w wr) (λ_ iv _=>n - (intOf iv).toNat)
   case atStart=>exact ⟨0,left - n,Nat.zero_le _,rfl,by go_num,(by show left - n+n+_=left;simp;omega),Below.refl _ _⟩
   case round =>
    obtain ⟨k,r,hk,rfl,rfl,hrs,hb⟩:=hrel;have HB:=hid hb;by_cases hlt:k<n
    . obtain ⟨x,hxk⟩:=sqA (l:=es) (k:=k) HN.out hlt
      obtain ⟨g,off,rfl,hg,hgl,hat⟩:=HX.out (sqE hxk);obtain ⟨cs,hcl6,hcs,hex⟩:=hat k x hxk;have hex':HCl wr (λg=>g<N) (HEx wr (λg=>g<N) d) cs x:=hex.mono (sqO hb) sqj (λ_ _=>HEx.mono (sqO hb) sqj);obtain ⟨c0,c1,rfl⟩:=len2 hcl6;obtain ⟨a0,a1⟩:=sqC2 hcs (by omega);rw [<-hb.cell (p:=⟨g,_,none⟩) hgl] at a0 a1;simp at a0 a1;clear hb hcs hat hex hcl6;have hrb:r<=1048576:=(by have:=hrs.out;omega);have hst:=sum_take_succ (wtCl (wtEx d)) es k x hxk;have HST:=hid hst;have hle:=sum_take_le (wtCl (wtEx d)) es (k+1);have HLE:=hid hle;clear hst hle;generalize hwx:wtCl (wtEx d) x=y at *;have HY:=hid hwx;by_cases hy:r<y
      . have hr:leftOf left (wtS (wtCl (wtEx d)) es) = -1:=leftOf_lt (by unfold wtS;have:=hrs.out;have:=HLE.out;have:=HST.out;rw [HN.out];omega)
        have HR:Hid (leftOf left (wtS (wtCl (wtEx d)) es) = -1):=hr;have hr2:leftOf r y = -1:=leftOf_lt hy;clear hr hwx;go_wp2_with (go_at_call 124;go_must (refine (hE _ _ x r ⟨_,rfl,hex'⟩ hrb).mono ?_;rintro e w1 ⟨rfl,hb1⟩;rw [HY.out,hr2];have HB1:Hid _:=hb1;clear hb1));go_ret;exact ⟨by rw [HR.out];rfl,HB.out.trans (HB1.out.mono HB.out.size)⟩
      . have hr2:leftOf r y=((r - y:Nat):Int):=leftOf_ge (by omega)
        clear hwx;go_wp2_with (go_at_call 124;go_must (refine (hE _ _ x r ⟨_,rfl,hex'⟩ hrb).mono ?_;rintro e w1 ⟨rfl,hb1⟩;rw [HY.out,hr2];have HB1:Hid _:=hb1;clear hb1));exact ⟨⟨k+1,r - y,by omega,by go_num,rfl,(by have:=hrs.out;have:=HST.out;show r - y+n+_=left;omega),HB.out.trans (HB1.out.mono HB.out.size)⟩,by simp [intOf];omega⟩
    . have hr:leftOf left (wtS (wtCl (wtEx d)) es)=(r:Int):=by
       have h1:=hrs.out;rw [List.take_of_length_le (by rw [HN.out];omega)] at h1;rw [leftOf_ge (by unfold wtS;rw [HN.out];omega)];unfold wtS;rw [HN.out];omega
      have HR:Hid (leftOf left (wtS (wtCl (wtEx d)) es)=(r:Int)):=hr;clear hr;go_wp2;go_ret;exact ⟨by rw [HR.out];rfl,HB.out⟩
theorem szFunS_of {d:Nat} (hE:SzC 55 (λw v e=>∃ cs,v=.agg cs.toArray/\HFn w (λg=>g<N) d cs e) (wtFn d)) :
 SzC 32 (λw v es=>Rows w (λg=>g<N) 3 (HFn w (λg=>g<N) d) v es) (wtS (wtFn d)):=by
 intro w v es left h hl;obtain ⟨p,cap,rfl,hcl,hcm,hx⟩:=h;generalize hn:es.length=n at *;have HN:=hid hn;have HX:Hid _:=hx;have hnb:=sqM hcl hcm;clear hx hn;by_cases h0:left<n
 . have hr:leftOf left (wtS (wtFn d) es) = -1:=leftOf_lt (by unfold wtS;rw [HN.out];omega)
   have HR:Hid (leftOf left (wtS (wtFn d) es) = -1):=hr;clear hr;go_enter func32,ntmps32;go_wp2;go_ret;exact ⟨by rw [HR.out];rfl,Below.refl _ _⟩
 . go_enter func32,ntmps32
   go_wp2
   go_loopw [1,5] (λlv iv wr=>∃ k r:Nat,k<=n/\iv=.int .i64 k/\lv=.int .i64 r/\Hid (r+n+((es.take k).map (wtFn d)).sum=left)/\Bz w wr) (λ_ iv _=>n - (intOf iv).toNat)
   case atStart=>exact ⟨0,left - n,Nat.zero_le _,rfl,by go_num,(by show left - n+n+_=left;simp;omega),Below.refl _ _⟩
   case round =>
    obtain ⟨k,r,hk,rfl,rfl,hrs,hb⟩:=hrel;have HB:=hid hb;by_cases hlt:k<n
    . obtain ⟨x,hxk⟩:=sqA (l:=es) (k:=k) HN.out hlt
      obtain ⟨g,off,rfl,hg,hgl,hat⟩:=HX.out (sqE hxk);obtain ⟨cs,hcl6,hcs,hex⟩:=hat k x hxk;have hex':HFn wr (λg=>g<N) d cs x:=hex.mono (sqO hb) sqj;obtain ⟨c0,c1,c2,rfl⟩:=len3 hcl6;obtain ⟨a0,a1,a2⟩:=sqC3 hcs (by omega);rw [<-hb.cell (p:=⟨g,_,none⟩) hgl] at a0 a1 a2;simp at a0 a1 a2;clear hb hcs hat hex hcl6;have hrb:r<=1048576:=(by have:=hrs.out;omega);have hst:=sum_take_succ (wtFn d) es k x hxk;have HST:=hid hst;have hle:=sum_take_le (wtFn d) es (k+1);have HLE:=hid hle;clear hst hle;generalize hwx:wtFn d x=y at *;have HY:=hid hwx;by_cases hy:r<y
      . have hr:leftOf left (wtS (wtFn d) es) = -1:=leftOf_lt (by unfold wtS;have:=hrs.out;have:=HLE.out;have:=HST.out;rw [HN.out];omega)
        have HR:Hid (leftOf left (wtS (wtFn d) es) = -1):=hr;have hr2:leftOf r y = -1:=leftOf_lt hy;clear hr hwx;go_wp2_with (go_at_call 55;go_must (refine (hE _ _ x r ⟨_,rfl,hex'⟩ hrb).mono ?_;rintro e w1 ⟨rfl,hb1⟩;rw [HY.out,hr2];have HB1:Hid _:=hb1;clear hb1));go_ret;exact ⟨by rw [HR.out];rfl,HB.out.trans (HB1.out.mono HB.out.size)⟩
      . have hr2:leftOf r y=((r - y:Nat):Int):=leftOf_ge (by omega)
        clear hwx;go_wp2_with (go_at_call 55;go_must (refine (hE _ _ x r ⟨_,rfl,hex'⟩ hrb).mono ?_;rintro e w1 ⟨rfl,hb1⟩;rw [HY.out,hr2];have HB1:Hid _:=hb1;clear hb1));exact ⟨⟨k+1,r - y,by omega,by go_num,rfl,(by have:=hrs.out;have:=HST.out;show r - y+n+_=left;omega),HB.out.trans (HB1.out.mono HB.out.size)⟩,by simp [intOf];omega⟩
    . have hr:leftOf left (wtS (wtFn d) es)=(r:Int):=by
       have h1:=hrs.out;rw [List.take_of_length_le (by rw [HN.out];omega)] at h1;rw [leftOf_ge (by unfold wtS;rw [HN.out];omega)];unfold wtS;rw [HN.out];omega
      have HR:Hid (leftOf left (wtS (wtFn d) es)=(r:Int)):=hr;clear hr;go_wp2;go_ret;exact ⟨by rw [HR.out];rfl,HB.out⟩
theorem szRefS_of {d:Nat} (hE:SzC 54 (λw v e=>∃ cs,v=.agg cs.toArray/\HRf cs e) (wtRf)) :
 SzC 31 (λw v es=>Rows w (λg=>g<N) 2 (HRf) v es) (wtS (wtRf)):=by
 intro w v es left h hl;obtain ⟨p,cap,rfl,hcl,hcm,hx⟩:=h;generalize hn:es.length=n at *;have HN:=hid hn;have HX:Hid _:=hx;have hnb:=sqM hcl hcm;clear hx hn;by_cases h0:left<n
 . have hr:leftOf left (wtS (wtRf) es) = -1:=leftOf_lt (by unfold wtS;rw [HN.out];omega)
   have HR:Hid (leftOf left (wtS (wtRf) es) = -1):=hr;clear hr;go_enter func31,ntmps31;go_wp2;go_ret;exact ⟨by rw [HR.out];rfl,Below.refl _ _⟩
 . go_enter func31,ntmps31
   go_wp2
   go_loopw [1,5] (λlv iv wr=>∃ k r:Nat,k<=n/\iv=.int .i64 k/\lv=.int .i64 r/\Hid (r+n+((es.take k).map (wtRf)).sum=left)/\Bz w wr) (λ_ iv _=>n - (intOf iv).toNat)
   case atStart=>exact ⟨0,left - n,Nat.zero_le _,rfl,by go_num,(by show left - n+n+_=left;simp;omega),Below.refl _ _⟩
   case round =>
    obtain ⟨k,r,hk,rfl,rfl,hrs,hb⟩:=hrel;have HB:=hid hb;by_cases hlt:k<n
    . obtain ⟨x,hxk⟩:=sqA (l:=es) (k:=k) HN.out hlt
      obtain ⟨g,off,rfl,hg,hgl,hat⟩:=HX.out (sqE hxk);obtain ⟨cs,hcl6,hcs,hex⟩:=hat k x hxk;have hex':HRf cs x:=hex;obtain ⟨c0,c1,rfl⟩:=len2 hcl6;obtain ⟨a0,a1⟩:=sqC2 hcs (by omega);rw [<-hb.cell (p:=⟨g,_,none⟩) hgl] at a0 a1;simp at a0 a1;clear hb hcs hat hex hcl6;have hrb:r<=1048576:=(by have:=hrs.out;omega);have hst:=sum_take_succ (wtRf) es k x hxk;have HST:=hid hst;have hle:=sum_take_le (wtRf) es (k+1);have HLE:=hid hle;clear hst hle;generalize hwx:wtRf x=y at *;have HY:=hid hwx;by_cases hy:r<y
      . have hr:leftOf left (wtS (wtRf) es) = -1:=leftOf_lt (by unfold wtS;have:=hrs.out;have:=HLE.out;have:=HST.out;rw [HN.out];omega)
        have HR:Hid (leftOf left (wtS (wtRf) es) = -1):=hr;have hr2:leftOf r y = -1:=leftOf_lt hy;clear hr hwx;go_wp2_with (go_at_call 54;go_must (refine (hE _ _ x r ⟨_,rfl,hex'⟩ hrb).mono ?_;rintro e w1 ⟨rfl,hb1⟩;rw [HY.out,hr2];have HB1:Hid _:=hb1;clear hb1));go_ret;exact ⟨by rw [HR.out];rfl,HB.out.trans (HB1.out.mono HB.out.size)⟩
      . have hr2:leftOf r y=((r - y:Nat):Int):=leftOf_ge (by omega)
        clear hwx;go_wp2_with (go_at_call 54;go_must (refine (hE _ _ x r ⟨_,rfl,hex'⟩ hrb).mono ?_;rintro e w1 ⟨rfl,hb1⟩;rw [HY.out,hr2];have HB1:Hid _:=hb1;clear hb1));exact ⟨⟨k+1,r - y,by omega,by go_num,rfl,(by have:=hrs.out;have:=HST.out;show r - y+n+_=left;omega),HB.out.trans (HB1.out.mono HB.out.size)⟩,by simp [intOf];omega⟩
    . have hr:leftOf left (wtS (wtRf) es)=(r:Int):=by
       have h1:=hrs.out;rw [List.take_of_length_le (by rw [HN.out];omega)] at h1;rw [leftOf_ge (by unfold wtS;rw [HN.out];omega)];unfold wtS;rw [HN.out];omega
      have HR:Hid (leftOf left (wtS (wtRf) es)=(r:Int)):=hr;clear hr;go_wp2;go_ret;exact ⟨by rw [HR.out];rfl,HB.out⟩
theorem szExp_of {d:Nat} (h1:SzC 155 (λw v es=>Rows w (λg=>g<N) 6 (HEx w (λg=>g<N) d) v es) (wtS (wtEx d))) (h2:SzC 88 (λw v es=>Rows w (λg=>g<N) 2 (HCl w (λg=>g<N) (HEx w (λg=>g<N) d)) v es) (wtS (wtCl (wtEx d)))) :
 SzC 183 (λw v e=>∃ cs,v=.agg cs.toArray/\HEx w (λg=>g<N) (d+1) cs e) (wtEx (d+1)):=by
 intro w v e left h hl;obtain ⟨cs,rfl,kv,cv,rfl,hk,hn,ht,hm,hks,hcs⟩:=h;have hb0:e.text.size<=9223372036854775807:=(by have:=ht;unfold okS maxLen at this;omega);have hb1:e.mod.size<=9223372036854775807:=(by have:=hm;unfold okS maxLen at this;omega);have hal:SameOn (λg=>g<N) w (w.alloc (.cells #[.int .i64 e.kind,.int .i64 e.n,.string e.text,.string e.mod,kv,cv] 232)):=sqO ((sqN _ _))
 replace hks:=hks.mono hal sqj (λ_ _ _=>HEx.mono hal sqj)
 replace hcs:=hcs.mono hal sqj (λ_ _ _ h=>h.mono hal sqj (λ_ _=>HEx.mono hal sqj))
 have HW:Hid (wtEx (d+1) e=e.text.size+e.mod.size+wtS (wtEx d) e.kids+wtS (wtCl (wtEx d)) e.clauses):=rfl;generalize wtEx (d+1) e=W at *;have hx0:∃ x0:Nat,e.text.size=x0:=⟨_,rfl⟩;obtain ⟨x0,hx0⟩:=hx0;rw [hx0] at hb0;have hx1:∃ x1:Nat,e.mod.size=x1:=⟨_,rfl⟩;obtain ⟨x1,hx1⟩:=hx1;rw [hx1] at hb1;generalize hx2:wtS (wtEx d) e.kids=x2 at *;have HX2:=hid hx2;clear hx2;generalize hx3:wtS (wtCl (wtEx d)) e.clauses=x3 at *;have HX3:=hid hx3;clear hx3;by_cases t0:left<x0
 . have HR:Hid (leftOf left W = -1):=by
    have:=HW.out;show leftOf left W=_;exact leftOf_lt (by omega)
   clear HW;go_enter func183,ntmps183;go_wp2;go_ret;exact ⟨by rw [HR.out];first | rfl | (congr 2;omega) | (simp;omega),((sqN _ _))⟩
 by_cases t1:left - x0<x1
 . have HR:Hid (leftOf left W = -1):=by
    have:=HW.out;show leftOf left W=_;exact leftOf_lt (by omega)
   clear HW;go_enter func183,ntmps183;go_wp2;go_ret;exact ⟨by rw [HR.out];first | rfl | (congr 2;omega) | (simp;omega),((sqN _ _))⟩
 by_cases t2:left - x0 - x1<x2
 . have HR:Hid (leftOf left W = -1):=by
    have:=HW.out;show leftOf left W=_;exact leftOf_lt (by omega)
   have hr2:leftOf (left - x0 - x1) x2 = -1:=leftOf_lt t2;clear HW;go_enter func183,ntmps183;go_wp2_with (first | (go_at_call 155;go_must (refine (h1.at (w:=_) (v:=_) e.kids _ (left - x0 - x1) (by omega) hks (by omega)).mono ?_;rintro e w2 ⟨rfl,hb2⟩;rw [HX2.out,hr2];have HB2:Hid _:=hb2;have hk2:=(hb2.cell (p:=⟨w.heap.size,5,none⟩) (by simp)).trans (cell_new _ _ _ 5 cv rfl);clear hb2)) );go_ret;exact ⟨by rw [HR.out];first | rfl | (congr 2;omega) | (simp;omega),(((sqN _ _)).trans (HB2.out.mono ((sqN _ _)).size))⟩
 by_cases t3:left - x0 - x1 - x2<x3
 . have HR:Hid (leftOf left W = -1):=by
    have:=HW.out;show leftOf left W=_;exact leftOf_lt (by omega)
   have hr2:leftOf (left - x0 - x1) x2=((left - x0 - x1 - x2:Nat):Int):=(by rw [leftOf_ge (by omega)]);have hr3:leftOf (left - x0 - x1 - x2) x3 = -1:=leftOf_lt t3;clear HW;go_enter func183,ntmps183;go_wp2_with (first | (go_at_call 88;go_must (refine (h2.at (w:=_) (v:=_) e.clauses _ (left - x0 - x1 - x2) (by omega) (hcs.mono (sqO HB2.out) sqj (λ_ _ _ h=>h.mono (sqO HB2.out) sqj (λ_ _=>HEx.mono (sqO HB2.out) sqj))) (by omega)).mono ?_;rintro e w3 ⟨rfl,hb3⟩;rw [HX3.out,hr3];have HB3:Hid _:=hb3;clear hb3)) | (go_at_call 155;go_must (refine (h1.at (w:=_) (v:=_) e.kids _ (left - x0 - x1) (by omega) hks (by omega)).mono ?_;rintro e w2 ⟨rfl,hb2⟩;rw [HX2.out,hr2];have HB2:Hid _:=hb2;have hk2:=(hb2.cell (p:=⟨w.heap.size,5,none⟩) (by simp)).trans (cell_new _ _ _ 5 cv rfl);clear hb2)) );go_ret;exact ⟨by rw [HR.out];first | rfl | (congr 2;omega) | (simp;omega),((((sqN _ _)).trans (HB2.out.mono ((sqN _ _)).size)).trans (HB3.out.mono (((sqN _ _)).trans (HB2.out.mono ((sqN _ _)).size)).size))⟩
 have HR:Hid (leftOf left W=((left - x0 - x1 - x2 - x3:Nat):Int)):=by
  have:=HW.out;show leftOf left W=_;rw [leftOf_ge (by omega)];omega
 have hr2:leftOf (left - x0 - x1) x2=((left - x0 - x1 - x2:Nat):Int):=(by rw [leftOf_ge (by omega)]);have hr3:leftOf (left - x0 - x1 - x2) x3=((left - x0 - x1 - x2 - x3:Nat):Int):=(by rw [leftOf_ge (by omega)]);clear HW;go_enter func183,ntmps183;go_wp2_with (first | (go_at_call 88;go_must (refine (h2.at (w:=_) (v:=_) e.clauses _ (left - x0 - x1 - x2) (by omega) (hcs.mono (sqO HB2.out) sqj (λ_ _ _ h=>h.mono (sqO HB2.out) sqj (λ_ _=>HEx.mono (sqO HB2.out) sqj))) (by omega)).mono ?_;rintro e w3 ⟨rfl,hb3⟩;rw [HX3.out,hr3];have HB3:Hid _:=hb3;clear hb3)) | (go_at_call 155;go_must (refine (h1.at (w:=_) (v:=_) e.kids _ (left - x0 - x1) (by omega) hks (by omega)).mono ?_;rintro e w2 ⟨rfl,hb2⟩;rw [HX2.out,hr2];have HB2:Hid _:=hb2;have hk2:=(hb2.cell (p:=⟨w.heap.size,5,none⟩) (by simp)).trans (cell_new _ _ _ 5 cv rfl);clear hb2)) );go_ret;exact ⟨by rw [HR.out];first | rfl | (congr 2;omega) | (simp;omega),((((sqN _ _)).trans (HB2.out.mono ((sqN _ _)).size)).trans (HB3.out.mono (((sqN _ _)).trans (HB2.out.mono ((sqN _ _)).size)).size))⟩
theorem szClause_of {d:Nat} (h1:SzC 155 (λw v es=>Rows w (λg=>g<N) 6 (HEx w (λg=>g<N) d) v es) (wtS (wtEx d))) (h2:SzC 155 (λw v es=>Rows w (λg=>g<N) 6 (HEx w (λg=>g<N) d) v es) (wtS (wtEx d))) :
 SzC 124 (λw v e=>∃ cs,v=.agg cs.toArray/\HCl w (λg=>g<N) (HEx w (λg=>g<N) d) cs e) (wtCl (wtEx d)):=by
 intro w v e left h hl;obtain ⟨cs,rfl,kv,cv,rfl,hks,hcs⟩:=h;have hal:SameOn (λg=>g<N) w (w.alloc (.cells #[kv,cv] 181)):=sqO ((sqN _ _))
 replace hks:=hks.mono hal sqj (λ_ _ _=>HEx.mono hal sqj)
 replace hcs:=hcs.mono hal sqj (λ_ _ _=>HEx.mono hal sqj)
 have HW:Hid (wtCl (wtEx d) e=wtS (wtEx d) e.1+wtS (wtEx d) e.2):=rfl;generalize wtCl (wtEx d) e=W at *;generalize hx0:wtS (wtEx d) e.1=x0 at *;have HX0:=hid hx0;clear hx0;generalize hx1:wtS (wtEx d) e.2=x1 at *;have HX1:=hid hx1;clear hx1;by_cases t0:left<x0
 . have HR:Hid (leftOf left W = -1):=by
    have:=HW.out;show leftOf left W=_;exact leftOf_lt (by omega)
   have hr0:leftOf (left) x0 = -1:=leftOf_lt t0;clear HW;go_enter func124,ntmps124;go_wp2_with (first | (go_at_call 155;(refine (h1.at (w:=_) (v:=_) e.1 _ (left) (by omega) hks (by omega)).mono ?_;rintro e w0 ⟨rfl,hb0⟩;rw [HX0.out,hr0];have HB0:Hid _:=hb0;have hk0:=(hb0.cell (p:=⟨w.heap.size,1,none⟩) (by simp)).trans (cell_new _ _ _ 1 cv rfl);clear hb0)) );go_ret;exact ⟨by rw [HR.out];first | rfl | (congr 2;omega) | (simp;omega),(((sqN _ _)).trans (HB0.out.mono ((sqN _ _)).size))⟩
 by_cases t1:left - x0<x1
 . have HR:Hid (leftOf left W = -1):=by
    have:=HW.out;show leftOf left W=_;exact leftOf_lt (by omega)
   have hr0:leftOf (left) x0=((left - x0:Nat):Int):=(by rw [leftOf_ge (by omega)]);have hr1:leftOf (left - x0) x1 = -1:=leftOf_lt t1;clear HW;go_enter func124,ntmps124;go_wp2_with (first | (go_at_call 155;(refine (h2.at (w:=_) (v:=_) e.2 _ (left - x0) (by omega) (hcs.mono (sqO HB0.out) sqj (λ_ _ _=>HEx.mono (sqO HB0.out) sqj)) (by omega)).mono ?_;rintro e w1 ⟨rfl,hb1⟩;rw [HX1.out,hr1];have HB1:Hid _:=hb1;clear hb1)) | (go_at_call 155;(refine (h1.at (w:=_) (v:=_) e.1 _ (left) (by omega) hks (by omega)).mono ?_;rintro e w0 ⟨rfl,hb0⟩;rw [HX0.out,hr0];have HB0:Hid _:=hb0;have hk0:=(hb0.cell (p:=⟨w.heap.size,1,none⟩) (by simp)).trans (cell_new _ _ _ 1 cv rfl);clear hb0)) );go_ret;exact ⟨by rw [HR.out];first | rfl | (congr 2;omega) | (simp;omega),((((sqN _ _)).trans (HB0.out.mono ((sqN _ _)).size)).trans (HB1.out.mono (((sqN _ _)).trans (HB0.out.mono ((sqN _ _)).size)).size))⟩
 have HR:Hid (leftOf left W=((left - x0 - x1:Nat):Int)):=by
  have:=HW.out;show leftOf left W=_;rw [leftOf_ge (by omega)];omega
 have hr0:leftOf (left) x0=((left - x0:Nat):Int):=(by rw [leftOf_ge (by omega)]);have hr1:leftOf (left - x0) x1=((left - x0 - x1:Nat):Int):=(by rw [leftOf_ge (by omega)]);clear HW;go_enter func124,ntmps124;go_wp2_with (first | (go_at_call 155;(refine (h2.at (w:=_) (v:=_) e.2 _ (left - x0) (by omega) (hcs.mono (sqO HB0.out) sqj (λ_ _ _=>HEx.mono (sqO HB0.out) sqj)) (by omega)).mono ?_;rintro e w1 ⟨rfl,hb1⟩;rw [HX1.out,hr1];have HB1:Hid _:=hb1;clear hb1)) | (go_at_call 155;(refine (h1.at (w:=_) (v:=_) e.1 _ (left) (by omega) hks (by omega)).mono ?_;rintro e w0 ⟨rfl,hb0⟩;rw [HX0.out,hr0];have HB0:Hid _:=hb0;have hk0:=(hb0.cell (p:=⟨w.heap.size,1,none⟩) (by simp)).trans (cell_new _ _ _ 1 cv rfl);clear hb0)) );go_ret;exact ⟨by rw [HR.out];first | rfl | (congr 2;omega) | (simp;omega),((((sqN _ _)).trans (HB0.out.mono ((sqN _ _)).size)).trans (HB1.out.mono (((sqN _ _)).trans (HB0.out.mono ((sqN _ _)).size)).size))⟩
theorem szFun_of {d:Nat} (h1:SzC 88 (λw v es=>Rows w (λg=>g<N) 2 (HCl w (λg=>g<N) (HEx w (λg=>g<N) d)) v es) (wtS (wtCl (wtEx d)))) :
 SzC 55 (λw v e=>∃ cs,v=.agg cs.toArray/\HFn w (λg=>g<N) d cs e) (wtFn d):=by
 intro w v e left h hl;obtain ⟨cs,rfl,cv,rfl,ht,hn,hcs⟩:=h;have hb0:e.name.size<=9223372036854775807:=(by have:=ht;unfold okS maxLen at this;omega);have hal:SameOn (λg=>g<N) w (w.alloc (.cells #[.string e.name,.int .i64 e.arity,cv] 94)):=sqO ((sqN _ _))
 replace hcs:=hcs.mono hal sqj (λ_ _ _ h=>h.mono hal sqj (λ_ _=>HEx.mono hal sqj))
 have HW:Hid (wtFn d e=e.name.size+wtS (wtCl (wtEx d)) e.clauses):=rfl;generalize wtFn d e=W at *;have hx0:∃ x0:Nat,e.name.size=x0:=⟨_,rfl⟩;obtain ⟨x0,hx0⟩:=hx0;rw [hx0] at hb0;generalize hx1:wtS (wtCl (wtEx d)) e.clauses=x1 at *;have HX1:=hid hx1;clear hx1;by_cases t0:left<x0
 . have HR:Hid (leftOf left W = -1):=by
    have:=HW.out;show leftOf left W=_;exact leftOf_lt (by omega)
   clear HW;go_enter func55,ntmps55;go_wp2;go_ret;exact ⟨by rw [HR.out];first | rfl | (congr 2;omega) | (simp;omega),((sqN _ _))⟩
 by_cases t1:left - x0<x1
 . have HR:Hid (leftOf left W = -1):=by
    have:=HW.out;show leftOf left W=_;exact leftOf_lt (by omega)
   have hr1:leftOf (left - x0) x1 = -1:=leftOf_lt t1;clear HW;go_enter func55,ntmps55;go_wp2_with (first | (go_at_call 88;go_must (refine (h1.at (w:=_) (v:=_) e.clauses _ (left - x0) (by omega) hcs (by omega)).mono ?_;rintro e w1 ⟨rfl,hb1⟩;rw [HX1.out,hr1];have HB1:Hid _:=hb1;clear hb1)) );go_ret;exact ⟨by rw [HR.out];first | rfl | (congr 2;omega) | (simp;omega),(((sqN _ _)).trans (HB1.out.mono ((sqN _ _)).size))⟩
 have HR:Hid (leftOf left W=((left - x0 - x1:Nat):Int)):=by
  have:=HW.out;show leftOf left W=_;rw [leftOf_ge (by omega)];omega
 have hr1:leftOf (left - x0) x1=((left - x0 - x1:Nat):Int):=(by rw [leftOf_ge (by omega)]);clear HW;go_enter func55,ntmps55;go_wp2_with (first | (go_at_call 88;go_must (refine (h1.at (w:=_) (v:=_) e.clauses _ (left - x0) (by omega) hcs (by omega)).mono ?_;rintro e w1 ⟨rfl,hb1⟩;rw [HX1.out,hr1];have HB1:Hid _:=hb1;clear hb1)) );go_ret;exact ⟨by rw [HR.out];first | rfl | (congr 2;omega) | (simp;omega),(((sqN _ _)).trans (HB1.out.mono ((sqN _ _)).size))⟩
theorem szRef_of {d:Nat}  :
 SzC 54 (λw v e=>∃ cs,v=.agg cs.toArray/\HRf cs e) (wtRf):=by
 intro w v e left h hl;obtain ⟨cs,rfl,rfl,ht,hn⟩:=h;have hb0:e.name.size<=9223372036854775807:=(by have:=ht;unfold okS maxLen at this;omega);have HW:Hid (wtRf e=e.name.size):=rfl;generalize wtRf e=W at *;have hx0:∃ x0:Nat,e.name.size=x0:=⟨_,rfl⟩;obtain ⟨x0,hx0⟩:=hx0;rw [hx0] at hb0;by_cases t0:left<x0
 . have HR:Hid (leftOf left W = -1):=by
    have:=HW.out;show leftOf left W=_;exact leftOf_lt (by omega)
   clear HW;go_enter func54,ntmps54;go_wp2;go_ret;exact ⟨by rw [HR.out];first | rfl | (congr 2;omega) | (simp;omega),((sqN _ _))⟩
 have HR:Hid (leftOf left W=((left - x0:Nat):Int)):=by
  have:=HW.out;show leftOf left W=_;rw [leftOf_ge (by omega)];omega
 clear HW;go_enter func54,ntmps54;go_wp2;go_ret;exact ⟨by rw [HR.out];first | rfl | (congr 2;omega) | (simp;omega),((sqN _ _))⟩
theorem szModule_of {d:Nat} (h1:SzC 31 (λw v es=>Rows w (λg=>g<N) 2 (HRf) v es) (wtS (wtRf))) (h2:SzC 32 (λw v es=>Rows w (λg=>g<N) 3 (HFn w (λg=>g<N) d) v es) (wtS (wtFn d))) :
 SzC 13 (λw v e=>∃ cs,v=.agg cs.toArray/\HMd w (λg=>g<N) d cs e) (wtMd d):=by
 intro w v e left h hl;obtain ⟨cs,rfl,kv,cv,rfl,ht,hks,hcs⟩:=h;have hb0:e.name.size<=9223372036854775807:=(by have:=ht;unfold okS maxLen at this;omega);have hal:SameOn (λg=>g<N) w (w.alloc (.cells #[.string e.name,kv,cv] 37)):=sqO ((sqN _ _))
 replace hks:=hks.mono hal sqj (λ_ _ _ h=>h)
 replace hcs:=hcs.mono hal sqj (λ_ _ _ h=>h.mono hal sqj)
 have HW:Hid (wtMd d e=e.name.size+wtS wtRf e.exports+wtS (wtFn d) e.funs):=rfl;generalize wtMd d e=W at *;have hx0:∃ x0:Nat,e.name.size=x0:=⟨_,rfl⟩;obtain ⟨x0,hx0⟩:=hx0;rw [hx0] at hb0;generalize hx1:wtS wtRf e.exports=x1 at *;have HX1:=hid hx1;clear hx1;generalize hx2:wtS (wtFn d) e.funs=x2 at *;have HX2:=hid hx2;clear hx2;by_cases t0:left<x0
 . have HR:Hid (leftOf left W = -1):=by
    have:=HW.out;show leftOf left W=_;exact leftOf_lt (by omega)
   clear HW;go_enter func13,ntmps13;go_wp2;go_ret;exact ⟨by rw [HR.out];first | rfl | (congr 2;omega) | (simp;omega),((sqN _ _))⟩
 by_cases t1:left - x0<x1
 . have HR:Hid (leftOf left W = -1):=by
    have:=HW.out;show leftOf left W=_;exact leftOf_lt (by omega)
   have hr1:leftOf (left - x0) x1 = -1:=leftOf_lt t1;clear HW;go_enter func13,ntmps13;go_wp2_with (first | (go_at_call 31;go_must (refine (h1.at (w:=_) (v:=_) e.exports _ (left - x0) (by omega) hks (by omega)).mono ?_;rintro e w1 ⟨rfl,hb1⟩;rw [HX1.out,hr1];have HB1:Hid _:=hb1;have hk1:=(hb1.cell (p:=⟨w.heap.size,2,none⟩) (by simp)).trans (cell_new _ _ _ 2 cv rfl);clear hb1)) );go_ret;exact ⟨by rw [HR.out];first | rfl | (congr 2;omega) | (simp;omega),(((sqN _ _)).trans (HB1.out.mono ((sqN _ _)).size))⟩
 by_cases t2:left - x0 - x1<x2
 . have HR:Hid (leftOf left W = -1):=by
    have:=HW.out;show leftOf left W=_;exact leftOf_lt (by omega)
   have hr1:leftOf (left - x0) x1=((left - x0 - x1:Nat):Int):=(by rw [leftOf_ge (by omega)]);have hr2:leftOf (left - x0 - x1) x2 = -1:=leftOf_lt t2;clear HW;go_enter func13,ntmps13;go_wp2_with (first | (go_at_call 32;go_must (refine (h2.at (w:=_) (v:=_) e.funs _ (left - x0 - x1) (by omega) (hcs.mono (sqO HB1.out) sqj (λ_ _ _ h=>h.mono (sqO HB1.out) sqj)) (by omega)).mono ?_;rintro e w2 ⟨rfl,hb2⟩;rw [HX2.out,hr2];have HB2:Hid _:=hb2;clear hb2)) | (go_at_call 31;go_must (refine (h1.at (w:=_) (v:=_) e.exports _ (left - x0) (by omega) hks (by omega)).mono ?_;rintro e w1 ⟨rfl,hb1⟩;rw [HX1.out,hr1];have HB1:Hid _:=hb1;have hk1:=(hb1.cell (p:=⟨w.heap.size,2,none⟩) (by simp)).trans (cell_new _ _ _ 2 cv rfl);clear hb1)) );go_ret;exact ⟨by rw [HR.out];first | rfl | (congr 2;omega) | (simp;omega),((((sqN _ _)).trans (HB1.out.mono ((sqN _ _)).size)).trans (HB2.out.mono (((sqN _ _)).trans (HB1.out.mono ((sqN _ _)).size)).size))⟩
 have HR:Hid (leftOf left W=((left - x0 - x1 - x2:Nat):Int)):=by
  have:=HW.out;show leftOf left W=_;rw [leftOf_ge (by omega)];omega
 have hr1:leftOf (left - x0) x1=((left - x0 - x1:Nat):Int):=(by rw [leftOf_ge (by omega)]);have hr2:leftOf (left - x0 - x1) x2=((left - x0 - x1 - x2:Nat):Int):=(by rw [leftOf_ge (by omega)]);clear HW;go_enter func13,ntmps13;go_wp2_with (first | (go_at_call 32;go_must (refine (h2.at (w:=_) (v:=_) e.funs _ (left - x0 - x1) (by omega) (hcs.mono (sqO HB1.out) sqj (λ_ _ _ h=>h.mono (sqO HB1.out) sqj)) (by omega)).mono ?_;rintro e w2 ⟨rfl,hb2⟩;rw [HX2.out,hr2];have HB2:Hid _:=hb2;clear hb2)) | (go_at_call 31;go_must (refine (h1.at (w:=_) (v:=_) e.exports _ (left - x0) (by omega) hks (by omega)).mono ?_;rintro e w1 ⟨rfl,hb1⟩;rw [HX1.out,hr1];have HB1:Hid _:=hb1;have hk1:=(hb1.cell (p:=⟨w.heap.size,2,none⟩) (by simp)).trans (cell_new _ _ _ 2 cv rfl);clear hb1)) );go_ret;exact ⟨by rw [HR.out];first | rfl | (congr 2;omega) | (simp;omega),((((sqN _ _)).trans (HB1.out.mono ((sqN _ _)).size)).trans (HB2.out.mono (((sqN _ _)).trans (HB1.out.mono ((sqN _ _)).size)).size))⟩
theorem szExp_all:∀ d,SzC 183 (λw v e=>∃ cs,v=.agg cs.toArray/\HEx w (λg=>g<N) d cs e) (wtEx d)
 | 0=>λw v x left ⟨_,_,h⟩ _=>h.elim
 | d+1=>szExp_of (szExpS_of (szExp_all d)) (szClauseS_of (szClause_of (szExpS_of (szExp_all d)) (szExpS_of (szExp_all d))))
theorem szClauseS_all (d:Nat):SzC 88 (λw v es=>Rows w (λg=>g<N) 2 (HCl w (λg=>g<N) (HEx w (λg=>g<N) d)) v es) (wtS (wtCl (wtEx d))) :=
 szClauseS_of (szClause_of (szExpS_of (szExp_all d)) (szExpS_of (szExp_all d)))
theorem szModule_all (d:Nat):SzC 13 (λw v m=>∃ cs,v=.agg cs.toArray/\HMd w (λg=>g<N) d cs m) (wtMd d) :=
 szModule_of (szRefS_of (d:=0) (szRef_of (d:=0))) (szFunS_of (szFun_of (szClauseS_all d)))
end
section
open Go.Proofs.Tryz
section
variable {N:Nat}
theorem szModuleS_of {d:Nat} (hE:SzC 13 (λw v e=>∃ cs,v=.agg cs.toArray/\HMd w (λg=>g<N) d cs e) (wtMd d)) :
 SzC 4 (λw v es=>Rows w (λg=>g<N) 3 (HMd w (λg=>g<N) d) v es) (wtS (wtMd d)):=by
 intro w v es left h hl;obtain ⟨p,cap,rfl,hcl,hcm,hx⟩:=h;generalize hn:es.length=n at *;have HN:=hid hn;have HX:Hid _:=hx;have hnb:=sqM hcl hcm;clear hx hn;by_cases h0:left<n
 . have hr:leftOf left (wtS (wtMd d) es) = -1:=leftOf_lt (by unfold wtS;rw [HN.out];omega)
   have HR:=hid hr;clear hr;go_enter func4,ntmps4;go_wp2;go_ret;exact ⟨by rw [HR.out];rfl,Below.refl _ _⟩
 . go_enter func4,ntmps4
   go_wp2
   go_loopw [1,5] (λlv iv wr=>∃ k r:Nat,k<=n/\iv=.int .i64 k/\lv=.int .i64 r/\Hid (r+n+((es.take k).map (wtMd d)).sum=left)/\Bz w wr) (λ_ iv _=>n - (intOf iv).toNat)
   case atStart=>exact ⟨0,left - n,Nat.zero_le _,rfl,by go_num,(by show left - n+n+_=left;simp;omega),Below.refl _ _⟩
   case round =>
    obtain ⟨k,r,hk,rfl,rfl,hrs,hb⟩:=hrel;have HB:=hid hb;by_cases hlt:k<n
    . obtain ⟨x,hxk⟩:=sqA (l:=es) (k:=k) HN.out hlt
      obtain ⟨g,off,rfl,hg,hgl,hat⟩:=HX.out (sqE hxk);obtain ⟨cs,hcl6,hcs,hex⟩:=hat k x hxk;have hex':HMd wr (λg=>g<N) d cs x:=hex.mono (sqO hb) sqj;obtain ⟨c0,c1,c2,rfl⟩:=len3 hcl6;obtain ⟨a0,a1,a2⟩:=sqC3 hcs (by omega);rw [<-hb.cell (p:=⟨g,_,none⟩) hgl] at a0 a1 a2;simp at a0 a1 a2;clear hb hcs hat hex hcl6;have hrb:r<=1048576:=(by have:=hrs.out;omega);have hst:=sum_take_succ (wtMd d) es k x hxk;have HST:=hid hst;have hle:=sum_take_le (wtMd d) es (k+1);have HLE:=hid hle;clear hst hle;generalize hwx:wtMd d x=y at *;have HY:=hid hwx;by_cases hy:r<y
      . have hr:leftOf left (wtS (wtMd d) es) = -1:=leftOf_lt (by unfold wtS;have:=hrs.out;have:=HLE.out;have:=HST.out;rw [HN.out];omega)
        have HR:=hid hr;have hr2:leftOf r y = -1:=leftOf_lt hy;clear hr hwx;go_wp2_with (go_at_call 13;go_must (refine (hE _ _ x r ⟨_,rfl,hex'⟩ hrb).mono ?_;rintro e w1 ⟨rfl,hb1⟩;rw [HY.out,hr2];have HB1:Hid _:=hb1;clear hb1));go_ret;exact ⟨by rw [HR.out];rfl,HB.out.trans (HB1.out.mono HB.out.size)⟩
      . have hr2:leftOf r y=((r - y:Nat):Int):=leftOf_ge (by omega)
        clear hwx;go_wp2_with (go_at_call 13;go_must (refine (hE _ _ x r ⟨_,rfl,hex'⟩ hrb).mono ?_;rintro e w1 ⟨rfl,hb1⟩;rw [HY.out,hr2];have HB1:Hid _:=hb1;clear hb1));exact ⟨⟨k+1,r - y,by omega,by go_num,rfl,(by have:=hrs.out;have:=HST.out;show r - y+n+_=left;omega),HB.out.trans (HB1.out.mono HB.out.size)⟩,by simp [intOf];omega⟩
    . have hr:leftOf left (wtS (wtMd d) es)=(r:Int):=by
       have h1:=hrs.out;rw [List.take_of_length_le (by rw [HN.out];omega)] at h1;rw [leftOf_ge (by unfold wtS;rw [HN.out];omega)];unfold wtS;rw [HN.out];omega
      have HR:=hid hr;clear hr;go_wp2;go_ret;exact ⟨by rw [HR.out];rfl,HB.out⟩
theorem szModuleS_all (d:Nat):SzC 4 (λw v es=>Rows w (λg=>g<N) 3 (HMd w (λg=>g<N) d) v es) (wtS (wtMd d)):=szModuleS_of (szModule_all d)
end
end
section
open Go.Proofs.Tryz
theorem eqExpS_of {d:Nat} (hE:EqC 203 (λw v e=>∃ cs,v=.agg cs.toArray/\HEx w All d cs e)) :
 EqC 182 (λw v es=>Rows w All 6 (HEx w All d) v es):=by
 intro w v1 v2 es h1 h2;obtain ⟨p,cap,rfl,hcl,hcm,hx⟩:=h1;obtain ⟨q,cap',rfl,hcl',hcm',hy⟩:=h2;generalize hn:es.length=n at *;have HN:=hid hn;have HX:Hid _:=hx;have HY:Hid _:=hy;have hnb:=sqM hcl hcm;clear hx hy hn;go_enter func182,ntmps182;go_wp2
 go_loopw [5] (λiv wr=>∃ k:Nat,k<=n/\iv=.int .i64 k/\Bz w wr) (λiv _=>n - (intOf iv).toNat)
 case atStart=>exact ⟨0,Nat.zero_le _,rfl,Below.refl _ _⟩
 case round =>
  obtain ⟨k,hk,rfl,hb⟩:=hrel;have HB:=hid hb;by_cases hlt:k<n
  . obtain ⟨x,hxk⟩:=sqA (l:=es) (k:=k) HN.out hlt
    have hne:es≠[]:=(sqE hxk);obtain ⟨g,off,rfl,_,hgl,hat⟩:=HX.out hne;obtain ⟨g',off',rfl,_,hgl',hat'⟩:=HY.out hne;obtain ⟨cs,hcl6,hcs,hex⟩:=hat k x hxk;obtain ⟨cs',hcl6',hcs',hex'⟩:=hat' k x hxk;have E1:∀ w',SameOn All wr w'->HEx w' All d cs x:=λw' hw=>hex.mono (SameOn.trans (sqO hb) hw) sqj;have E2:∀ w',SameOn All wr w'->HEx w' All d cs' x:=λw' hw=>hex'.mono (SameOn.trans (sqO hb) hw) sqj;obtain ⟨c0,c1,c2,c3,c4,c5,rfl⟩:=len6 hcl6;obtain ⟨d0,d1,d2,d3,d4,d5,rfl⟩:=len6 hcl6';have a0:=hcs 0 (by omega);have b0:=hcs' 0 (by omega);have a1:=hcs 1 (by omega);have b1:=hcs' 1 (by omega);have a2:=hcs 2 (by omega);have b2:=hcs' 2 (by omega);have a3:=hcs 3 (by omega);have b3:=hcs' 3 (by omega);have a4:=hcs 4 (by omega);have b4:=hcs' 4 (by omega);have a5:=hcs 5 (by omega);have b5:=hcs' 5 (by omega);rw [<-hb.cell (p:=⟨g,_,none⟩) hgl] at a0 a1 a2 a3 a4 a5;rw [<-hb.cell (p:=⟨g',_,none⟩) hgl'] at b0 b1 b2 b3 b4 b5;simp at a0 a1 a2 a3 a4 a5 b0 b1 b2 b3 b4 b5;clear hb hcs hat hex hcl6 hcs' hat' hex' hcl6' hne;go_wp2
    go_region_with ((go_at_call 203;refine (hE _ _ _ x ⟨_,rfl,E1 _ (by exact sqS)⟩ ⟨_,rfl,E2 _ (by exact sqS)⟩).mono ?_;rintro e w1 ⟨rfl,hb1⟩;have HB1:Hid _:=hb1;clear hb1))
    all_goals go_wp2
    all_goals
     have hbe:Bz w w1:=by
      refine Below.trans ?_ (HB1.out.mono (by exact HB.out.size))
      repeat (first | exact HB.out | apply Below.drew)
     exact ⟨⟨k+1,by omega,by go_num,hbe⟩,by simp [intOf];omega⟩
  . go_wp2
    go_ret;exact ⟨rfl,HB.out⟩
theorem eqClauseS_of {d:Nat} (hE:EqC 154 (λw v e=>∃ cs,v=.agg cs.toArray/\HCl w All (HEx w All d) cs e)) :
 EqC 123 (λw v es=>Rows w All 2 (HCl w All (HEx w All d)) v es):=by
 intro w v1 v2 es h1 h2;obtain ⟨p,cap,rfl,hcl,hcm,hx⟩:=h1;obtain ⟨q,cap',rfl,hcl',hcm',hy⟩:=h2;generalize hn:es.length=n at *;have HN:=hid hn;have HX:Hid _:=hx;have HY:Hid _:=hy;have hnb:=sqM hcl hcm;clear hx hy hn;go_enter func123,ntmps123;go_wp2
 go_loopw [5] (λiv wr=>∃ k:Nat,k<=n/\iv=.int .i64 k/\Bz w wr) (λiv _=>n - (intOf iv).toNat)
 case atStart=>exact ⟨0,Nat.zero_le _,rfl,Below.refl _ _⟩
 case round =>
  obtain ⟨k,hk,rfl,hb⟩:=hrel;have HB:=hid hb;by_cases hlt:k<n
  . obtain ⟨x,hxk⟩:=sqA (l:=es) (k:=k) HN.out hlt
    have hne:es≠[]:=(sqE hxk);obtain ⟨g,off,rfl,_,hgl,hat⟩:=HX.out hne;obtain ⟨g',off',rfl,_,hgl',hat'⟩:=HY.out hne;obtain ⟨cs,hcl6,hcs,hex⟩:=hat k x hxk;obtain ⟨cs',hcl6',hcs',hex'⟩:=hat' k x hxk;have E1:∀ w',SameOn All wr w'->HCl w' All (HEx w' All d) cs x:=λw' hw=>hex.mono (SameOn.trans (sqO hb) hw) sqj (λ_ _=>HEx.mono (SameOn.trans (sqO hb) hw) sqj);have E2:∀ w',SameOn All wr w'->HCl w' All (HEx w' All d) cs' x:=λw' hw=>hex'.mono (SameOn.trans (sqO hb) hw) sqj (λ_ _=>HEx.mono (SameOn.trans (sqO hb) hw) sqj);obtain ⟨c0,c1,rfl⟩:=len2 hcl6;obtain ⟨d0,d1,rfl⟩:=len2 hcl6';have a0:=hcs 0 (by omega);have b0:=hcs' 0 (by omega);have a1:=hcs 1 (by omega);have b1:=hcs' 1 (by omega);rw [<-hb.cell (p:=⟨g,_,none⟩) hgl] at a0 a1;rw [<-hb.cell (p:=⟨g',_,none⟩) hgl'] at b0 b1;simp at a0 a1 b0 b1;clear hb hcs hat hex hcl6 hcs' hat' hex' hcl6' hne;go_wp2
    go_region_with ((go_at_call 154;refine (hE _ _ _ x ⟨_,rfl,E1 _ (by exact sqS)⟩ ⟨_,rfl,E2 _ (by exact sqS)⟩).mono ?_;rintro e w1 ⟨rfl,hb1⟩;have HB1:Hid _:=hb1;clear hb1))
    all_goals go_wp2
    all_goals
     have hbe:Bz w w1:=by
      refine Below.trans ?_ (HB1.out.mono (by exact HB.out.size))
      repeat (first | exact HB.out | apply Below.drew)
     exact ⟨⟨k+1,by omega,by go_num,hbe⟩,by simp [intOf];omega⟩
  . go_wp2
    go_ret;exact ⟨rfl,HB.out⟩
theorem eqFunS_of {d:Nat} (hE:EqC 86 (λw v e=>∃ cs,v=.agg cs.toArray/\HFn w All d cs e)) :
 EqC 52 (λw v es=>Rows w All 3 (HFn w All d) v es):=by
 intro w v1 v2 es h1 h2;obtain ⟨p,cap,rfl,hcl,hcm,hx⟩:=h1;obtain ⟨q,cap',rfl,hcl',hcm',hy⟩:=h2;generalize hn:es.length=n at *;have HN:=hid hn;have HX:Hid _:=hx;have HY:Hid _:=hy;have hnb:=sqM hcl hcm;clear hx hy hn;go_enter func52,ntmps52;go_wp2
 go_loopw [5] (λiv wr=>∃ k:Nat,k<=n/\iv=.int .i64 k/\Bz w wr) (λiv _=>n - (intOf iv).toNat)
 case atStart=>exact ⟨0,Nat.zero_le _,rfl,Below.refl _ _⟩
 case round =>
  obtain ⟨k,hk,rfl,hb⟩:=hrel;have HB:=hid hb;by_cases hlt:k<n
  . obtain ⟨x,hxk⟩:=sqA (l:=es) (k:=k) HN.out hlt
    have hne:es≠[]:=(sqE hxk);obtain ⟨g,off,rfl,_,hgl,hat⟩:=HX.out hne;obtain ⟨g',off',rfl,_,hgl',hat'⟩:=HY.out hne;obtain ⟨cs,hcl6,hcs,hex⟩:=hat k x hxk;obtain ⟨cs',hcl6',hcs',hex'⟩:=hat' k x hxk;have E1:∀ w',SameOn All wr w'->HFn w' All d cs x:=λw' hw=>hex.mono (SameOn.trans (sqO hb) hw) sqj;have E2:∀ w',SameOn All wr w'->HFn w' All d cs' x:=λw' hw=>hex'.mono (SameOn.trans (sqO hb) hw) sqj;obtain ⟨c0,c1,c2,rfl⟩:=len3 hcl6;obtain ⟨d0,d1,d2,rfl⟩:=len3 hcl6';have a0:=hcs 0 (by omega);have b0:=hcs' 0 (by omega);have a1:=hcs 1 (by omega);have b1:=hcs' 1 (by omega);have a2:=hcs 2 (by omega);have b2:=hcs' 2 (by omega);rw [<-hb.cell (p:=⟨g,_,none⟩) hgl] at a0 a1 a2;rw [<-hb.cell (p:=⟨g',_,none⟩) hgl'] at b0 b1 b2;simp at a0 a1 a2 b0 b1 b2;clear hb hcs hat hex hcl6 hcs' hat' hex' hcl6' hne;go_wp2
    go_region_with ((go_at_call 86;refine (hE _ _ _ x ⟨_,rfl,E1 _ (by exact sqS)⟩ ⟨_,rfl,E2 _ (by exact sqS)⟩).mono ?_;rintro e w1 ⟨rfl,hb1⟩;have HB1:Hid _:=hb1;clear hb1))
    all_goals go_wp2
    all_goals
     have hbe:Bz w w1:=by
      refine Below.trans ?_ (HB1.out.mono (by exact HB.out.size))
      repeat (first | exact HB.out | apply Below.drew)
     exact ⟨⟨k+1,by omega,by go_num,hbe⟩,by simp [intOf];omega⟩
  . go_wp2
    go_ret;exact ⟨rfl,HB.out⟩
theorem eqRefS_of {d:Nat} (hE:EqC 85 (λw v e=>∃ cs,v=.agg cs.toArray/\HRf cs e)) :
 EqC 51 (λw v es=>Rows w All 2 (HRf) v es):=by
 intro w v1 v2 es h1 h2;obtain ⟨p,cap,rfl,hcl,hcm,hx⟩:=h1;obtain ⟨q,cap',rfl,hcl',hcm',hy⟩:=h2;generalize hn:es.length=n at *;have HN:=hid hn;have HX:Hid _:=hx;have HY:Hid _:=hy;have hnb:=sqM hcl hcm;clear hx hy hn;go_enter func51,ntmps51;go_wp2
 go_loopw [5] (λiv wr=>∃ k:Nat,k<=n/\iv=.int .i64 k/\Bz w wr) (λiv _=>n - (intOf iv).toNat)
 case atStart=>exact ⟨0,Nat.zero_le _,rfl,Below.refl _ _⟩
 case round =>
  obtain ⟨k,hk,rfl,hb⟩:=hrel;have HB:=hid hb;by_cases hlt:k<n
  . obtain ⟨x,hxk⟩:=sqA (l:=es) (k:=k) HN.out hlt
    have hne:es≠[]:=(sqE hxk);obtain ⟨g,off,rfl,_,hgl,hat⟩:=HX.out hne;obtain ⟨g',off',rfl,_,hgl',hat'⟩:=HY.out hne;obtain ⟨cs,hcl6,hcs,hex⟩:=hat k x hxk;obtain ⟨cs',hcl6',hcs',hex'⟩:=hat' k x hxk;have E1:∀ w',SameOn All wr w'->HRf cs x:=λw' hw=>hex;have E2:∀ w',SameOn All wr w'->HRf cs' x:=λw' hw=>hex';obtain ⟨c0,c1,rfl⟩:=len2 hcl6;obtain ⟨d0,d1,rfl⟩:=len2 hcl6';have a0:=hcs 0 (by omega);have b0:=hcs' 0 (by omega);have a1:=hcs 1 (by omega);have b1:=hcs' 1 (by omega);rw [<-hb.cell (p:=⟨g,_,none⟩) hgl] at a0 a1;rw [<-hb.cell (p:=⟨g',_,none⟩) hgl'] at b0 b1;simp at a0 a1 b0 b1;clear hb hcs hat hex hcl6 hcs' hat' hex' hcl6' hne;go_wp2
    go_region_with ((go_at_call 85;refine (hE _ _ _ x ⟨_,rfl,E1 _ (by exact sqS)⟩ ⟨_,rfl,E2 _ (by exact sqS)⟩).mono ?_;rintro e w1 ⟨rfl,hb1⟩;have HB1:Hid _:=hb1;clear hb1))
    all_goals go_wp2
    all_goals
     have hbe:Bz w w1:=by
      refine Below.trans ?_ (HB1.out.mono (by exact HB.out.size))
      repeat (first | exact HB.out | apply Below.drew)
     exact ⟨⟨k+1,by omega,by go_num,hbe⟩,by simp [intOf];omega⟩
  . go_wp2
    go_ret;exact ⟨rfl,HB.out⟩
theorem eqExp_of {d:Nat} (h0:EqC 182 (λw v es=>Rows w All 6 (HEx w All d) v es)) (h1:EqC 123 (λw v es=>Rows w All 2 (HCl w All (HEx w All d)) v es)) :
 EqC 203 (λw v e=>∃ cs,v=.agg cs.toArray/\HEx w All (d+1) cs e):=by
 intro w v1 v2 e i1 i2;obtain ⟨cs,rfl,kv,cv,rfl,p1,p2,p3,p4,f0,f1⟩:=i1;obtain ⟨cs,rfl,kv',cv',rfl,p1',p2',p3',p4',f0',f1'⟩:=i2;have hal:Bz w ((w.alloc (.cells #[.int .i64 e.kind,.int .i64 e.n,.string e.text,.string e.mod,kv,cv] 147)).alloc (.cells #[.int .i64 e.kind,.int .i64 e.n,.string e.text,.string e.mod,kv',cv'] 147)):=((sqN _ _)).alloc (by simp) _;have HA:=hid hal;have g0:∀ w',SameOn All w w'->Rows w' All 6 (HEx w' All d) kv e.kids:=λw' hw=>f0.mono (hw) sqj (λ_ _ _=>HEx.mono (hw) sqj);have g0':∀ w',SameOn All w w'->Rows w' All 6 (HEx w' All d) kv' e.kids:=λw' hw=>f0'.mono (hw) sqj (λ_ _ _=>HEx.mono (hw) sqj);have g1:∀ w',SameOn All w w'->Rows w' All 2 (HCl w' All (HEx w' All d)) cv e.clauses:=λw' hw=>f1.mono (hw) sqj (λ_ _ _ h=>h.mono (hw) sqj (λ_ _=>HEx.mono (hw) sqj));have g1':∀ w',SameOn All w w'->Rows w' All 2 (HCl w' All (HEx w' All d)) cv' e.clauses:=λw' hw=>f1'.mono (hw) sqj (λ_ _ _ h=>h.mono (hw) sqj (λ_ _=>HEx.mono (hw) sqj));clear hal f0 f0' f1 f1';go_enter func203,ntmps203;go_wp2_with (first | (go_at_call 123;(refine (h1 _ _ _ e.clauses (g1 _ (sqO (HA.out.trans (HB0.out.mono HA.out.size)))) (g1' _ (sqO (HA.out.trans (HB0.out.mono HA.out.size))))).mono ?_;rintro e w1 ⟨rfl,hb1⟩;have HB1:Hid _:=hb1;clear hb1)) | (go_at_call 182;(refine (h0 _ _ _ e.kids (g0 _ (sqO HA.out)) (g0' _ (sqO HA.out))).mono ?_;rintro e w0 ⟨rfl,hb0⟩;have HB0:Hid _:=hb0;have k0:=(hb0.cell (p:=⟨w.heap.size,5,none⟩) (by simp only [alloc_hs];omega)).trans ((sqK (a:=⟨w.heap.size,5,none⟩) (Below.heap_alloc _ _ _ (by simp))).trans (cell_new _ _ _ 5 cv rfl));have m0:=(hb0.cell (p:=⟨(w.alloc (.cells #[.int .i64 e.kind,.int .i64 e.n,.string e.text,.string e.mod,kv,cv] 147)).heap.size,5,none⟩) (by simp)).trans (cell_new _ _ _ 5 cv' rfl);simp only [alloc_hs] at m0;clear hb0)));go_ret;exact ⟨rfl,((HA.out.trans (HB0.out.mono HA.out.size)).trans (HB1.out.mono (HA.out.trans (HB0.out.mono HA.out.size)).size))⟩
theorem eqClause_of {d:Nat} (h0:EqC 182 (λw v es=>Rows w All 6 (HEx w All d) v es)) (h1:EqC 182 (λw v es=>Rows w All 6 (HEx w All d) v es)) :
 EqC 154 (λw v e=>∃ cs,v=.agg cs.toArray/\HCl w All (HEx w All d) cs e):=by
 intro w v1 v2 e i1 i2;obtain ⟨cs,rfl,kv,cv,rfl,f0,f1⟩:=i1;obtain ⟨cs,rfl,kv',cv',rfl,f0',f1'⟩:=i2;have hal:Bz w ((w.alloc (.cells #[kv,cv] 139)).alloc (.cells #[kv',cv'] 139)):=((sqN _ _)).alloc (by simp) _;have HA:=hid hal;have g0:∀ w',SameOn All w w'->Rows w' All 6 (HEx w' All d) kv e.1:=λw' hw=>f0.mono (hw) sqj (λ_ _ _=>HEx.mono (hw) sqj);have g0':∀ w',SameOn All w w'->Rows w' All 6 (HEx w' All d) kv' e.1:=λw' hw=>f0'.mono (hw) sqj (λ_ _ _=>HEx.mono (hw) sqj);have g1:∀ w',SameOn All w w'->Rows w' All 6 (HEx w' All d) cv e.2:=λw' hw=>f1.mono (hw) sqj (λ_ _ _=>HEx.mono (hw) sqj);have g1':∀ w',SameOn All w w'->Rows w' All 6 (HEx w' All d) cv' e.2:=λw' hw=>f1'.mono (hw) sqj (λ_ _ _=>HEx.mono (hw) sqj);clear hal f0 f0' f1 f1';go_enter func154,ntmps154;go_wp2_with (first | (go_at_call 182;(refine (h1 _ _ _ e.2 (g1 _ (sqO (HA.out.trans (HB0.out.mono HA.out.size)))) (g1' _ (sqO (HA.out.trans (HB0.out.mono HA.out.size))))).mono ?_;rintro e w1 ⟨rfl,hb1⟩;have HB1:Hid _:=hb1;clear hb1)) | (go_at_call 182;(refine (h0 _ _ _ e.1 (g0 _ (sqO HA.out)) (g0' _ (sqO HA.out))).mono ?_;rintro e w0 ⟨rfl,hb0⟩;have HB0:Hid _:=hb0;have k0:=(hb0.cell (p:=⟨w.heap.size,1,none⟩) (by simp only [alloc_hs];omega)).trans ((sqK (a:=⟨w.heap.size,1,none⟩) (Below.heap_alloc _ _ _ (by simp))).trans (cell_new _ _ _ 1 cv rfl));have m0:=(hb0.cell (p:=⟨(w.alloc (.cells #[kv,cv] 139)).heap.size,1,none⟩) (by simp)).trans (cell_new _ _ _ 1 cv' rfl);simp only [alloc_hs] at m0;clear hb0)));go_ret;exact ⟨rfl,((HA.out.trans (HB0.out.mono HA.out.size)).trans (HB1.out.mono (HA.out.trans (HB0.out.mono HA.out.size)).size))⟩
theorem eqFun_of {d:Nat} (h0:EqC 123 (λw v es=>Rows w All 2 (HCl w All (HEx w All d)) v es)) :
 EqC 86 (λw v e=>∃ cs,v=.agg cs.toArray/\HFn w All d cs e):=by
 intro w v1 v2 e i1 i2;obtain ⟨cs,rfl,cv,rfl,p1,p2,f0⟩:=i1;obtain ⟨cs,rfl,cv',rfl,p1',p2',f0'⟩:=i2;have hal:Bz w ((w.alloc (.cells #[.string e.name,.int .i64 e.arity,cv] 46)).alloc (.cells #[.string e.name,.int .i64 e.arity,cv'] 46)):=((sqN _ _)).alloc (by simp) _;have HA:=hid hal;have g0:∀ w',SameOn All w w'->Rows w' All 2 (HCl w' All (HEx w' All d)) cv e.clauses:=λw' hw=>f0.mono (hw) sqj (λ_ _ _ h=>h.mono (hw) sqj (λ_ _=>HEx.mono (hw) sqj));have g0':∀ w',SameOn All w w'->Rows w' All 2 (HCl w' All (HEx w' All d)) cv' e.clauses:=λw' hw=>f0'.mono (hw) sqj (λ_ _ _ h=>h.mono (hw) sqj (λ_ _=>HEx.mono (hw) sqj));clear hal f0 f0';go_enter func86,ntmps86;go_wp2_with (first | (go_at_call 123;(refine (h0 _ _ _ e.clauses (g0 _ (sqO HA.out)) (g0' _ (sqO HA.out))).mono ?_;rintro e w0 ⟨rfl,hb0⟩;have HB0:Hid _:=hb0;clear hb0)));go_ret;exact ⟨rfl,(HA.out.trans (HB0.out.mono HA.out.size))⟩
theorem eqRef_of {d:Nat}  :
 EqC 85 (λw v e=>∃ cs,v=.agg cs.toArray/\HRf cs e):=by
 intro w v1 v2 e i1 i2;obtain ⟨cs,rfl,rfl,p1,p2⟩:=i1;obtain ⟨cs,rfl,rfl,p1',p2'⟩:=i2;go_enter func85,ntmps85;go_wp2;go_ret;exact ⟨rfl,((sqN _ _)).alloc (by simp) _⟩
theorem eqModule_of {d:Nat} (h0:EqC 51 (λw v es=>Rows w All 2 (HRf) v es)) (h1:EqC 52 (λw v es=>Rows w All 3 (HFn w All d) v es)) :
 EqC 27 (λw v e=>∃ cs,v=.agg cs.toArray/\HMd w All d cs e):=by
 intro w v1 v2 e i1 i2;obtain ⟨cs,rfl,kv,cv,rfl,p1,f0,f1⟩:=i1;obtain ⟨cs,rfl,kv',cv',rfl,p1',f0',f1'⟩:=i2;have hal:Bz w ((w.alloc (.cells #[.string e.name,kv,cv] 42)).alloc (.cells #[.string e.name,kv',cv'] 42)):=((sqN _ _)).alloc (by simp) _;have HA:=hid hal;have g0:∀ w',SameOn All w w'->Rows w' All 2 HRf kv e.exports:=λw' hw=>f0.mono (hw) sqj (λ_ _ _ h=>h);have g0':∀ w',SameOn All w w'->Rows w' All 2 HRf kv' e.exports:=λw' hw=>f0'.mono (hw) sqj (λ_ _ _ h=>h);have g1:∀ w',SameOn All w w'->Rows w' All 3 (HFn w' All d) cv e.funs:=λw' hw=>f1.mono (hw) sqj (λ_ _ _ h=>h.mono (hw) sqj);have g1':∀ w',SameOn All w w'->Rows w' All 3 (HFn w' All d) cv' e.funs:=λw' hw=>f1'.mono (hw) sqj (λ_ _ _ h=>h.mono (hw) sqj);clear hal f0 f0' f1 f1';go_enter func27,ntmps27;go_wp2_with (first | (go_at_call 52;(refine (h1 _ _ _ e.funs (g1 _ (sqO (HA.out.trans (HB0.out.mono HA.out.size)))) (g1' _ (sqO (HA.out.trans (HB0.out.mono HA.out.size))))).mono ?_;rintro e w1 ⟨rfl,hb1⟩;have HB1:Hid _:=hb1;clear hb1)) | (go_at_call 51;(refine (h0 _ _ _ e.exports (g0 _ (sqO HA.out)) (g0' _ (sqO HA.out))).mono ?_;rintro e w0 ⟨rfl,hb0⟩;have HB0:Hid _:=hb0;have k0:=(hb0.cell (p:=⟨w.heap.size,2,none⟩) (by simp only [alloc_hs];omega)).trans ((sqK (a:=⟨w.heap.size,2,none⟩) (Below.heap_alloc _ _ _ (by simp))).trans (cell_new _ _ _ 2 cv rfl));have m0:=(hb0.cell (p:=⟨(w.alloc (.cells #[.string e.name,kv,cv] 42)).heap.size,2,none⟩) (by simp)).trans (cell_new _ _ _ 2 cv' rfl);simp only [alloc_hs] at m0;clear hb0)));go_ret;exact ⟨rfl,((HA.out.trans (HB0.out.mono HA.out.size)).trans (HB1.out.mono (HA.out.trans (HB0.out.mono HA.out.size)).size))⟩
theorem eqExp_all:∀ d,EqC 203 (λw v e=>∃ cs,v=.agg cs.toArray/\HEx w All d cs e)
 | 0=>λw v v' x ⟨_,_,h⟩ _=>h.elim
 | d+1=>eqExp_of (eqExpS_of (eqExp_all d)) (eqClauseS_of (eqClause_of (eqExpS_of (eqExp_all d)) (eqExpS_of (eqExp_all d))))
theorem eqClauseS_all (d:Nat):EqC 123 (λw v es=>Rows w All 2 (HCl w All (HEx w All d)) v es) :=
 eqClauseS_of (eqClause_of (eqExpS_of (eqExp_all d)) (eqExpS_of (eqExp_all d)))
theorem eqModule_all (d:Nat):EqC 27 (λw v m=>∃ cs,v=.agg cs.toArray/\HMd w All d cs m) :=
 eqModule_of (eqRefS_of (d:=0) (eqRef_of (d:=0))) (eqFunS_of (eqFun_of (eqClauseS_all d)))
theorem eqModuleS_of {d:Nat} (hE:EqC 27 (λw v e=>∃ cs,v=.agg cs.toArray/\HMd w All d cs e)) :
 EqC 9 (λw v es=>Rows w All 3 (HMd w All d) v es):=by
 intro w v1 v2 es h1 h2;obtain ⟨p,cap,rfl,hcl,hcm,hx⟩:=h1;obtain ⟨q,cap',rfl,hcl',hcm',hy⟩:=h2;generalize hn:es.length=n at *;have HN:=hid hn;have HX:Hid _:=hx;have HY:Hid _:=hy;have hnb:=sqM hcl hcm;clear hx hy hn;go_enter func9,ntmps9;go_wp2
 go_loopw [5] (λiv wr=>∃ k:Nat,k<=n/\iv=.int .i64 k/\Bz w wr) (λiv _=>n - (intOf iv).toNat)
 case atStart=>exact ⟨0,Nat.zero_le _,rfl,Below.refl _ _⟩
 case round =>
  obtain ⟨k,hk,rfl,hb⟩:=hrel;have HB:=hid hb;by_cases hlt:k<n
  . obtain ⟨x,hxk⟩:=sqA (l:=es) (k:=k) HN.out hlt
    have hne:es≠[]:=(sqE hxk);obtain ⟨g,off,rfl,_,hgl,hat⟩:=HX.out hne;obtain ⟨g',off',rfl,_,hgl',hat'⟩:=HY.out hne;obtain ⟨cs,hcl6,hcs,hex⟩:=hat k x hxk;obtain ⟨cs',hcl6',hcs',hex'⟩:=hat' k x hxk;have E1:∀ w',SameOn All wr w'->HMd w' All d cs x:=λw' hw=>hex.mono (SameOn.trans (sqO hb) hw) sqj;have E2:∀ w',SameOn All wr w'->HMd w' All d cs' x:=λw' hw=>hex'.mono (SameOn.trans (sqO hb) hw) sqj;obtain ⟨c0,c1,c2,rfl⟩:=len3 hcl6;obtain ⟨d0,d1,d2,rfl⟩:=len3 hcl6';have a0:=hcs 0 (by omega);have b0:=hcs' 0 (by omega);have a1:=hcs 1 (by omega);have b1:=hcs' 1 (by omega);have a2:=hcs 2 (by omega);have b2:=hcs' 2 (by omega);rw [<-hb.cell (p:=⟨g,_,none⟩) hgl] at a0 a1 a2;rw [<-hb.cell (p:=⟨g',_,none⟩) hgl'] at b0 b1 b2;simp at a0 a1 a2 b0 b1 b2;clear hb hcs hat hex hcl6 hcs' hat' hex' hcl6' hne;go_wp2
    go_region_with ((go_at_call 27;refine (hE _ _ _ x ⟨_,rfl,E1 _ (by exact sqS)⟩ ⟨_,rfl,E2 _ (by exact sqS)⟩).mono ?_;rintro e w1 ⟨rfl,hb1⟩;have HB1:Hid _:=hb1;clear hb1))
    all_goals go_wp2
    all_goals
     have hbe:Bz w w1:=by
      refine Below.trans ?_ (HB1.out.mono (by exact HB.out.size))
      repeat (first | exact HB.out | apply Below.drew)
     exact ⟨⟨k+1,by omega,by go_num,hbe⟩,by simp [intOf];omega⟩
  . go_wp2
    go_ret;exact ⟨rfl,HB.out⟩
theorem eqModuleS_all (d:Nat):EqC 9 (λw v es=>Rows w All 3 (HMd w All d) v es):=eqModuleS_of (eqModule_all d)
end
end Go.Proofs.YtonpgdfpgpepiaaGreatDoor
