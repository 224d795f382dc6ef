/-
  NameSpecD NameSpecC NameMath4 NameSpecH
-/
import Derived.Test.YtbdhpganbbandaaGreatDoorP15
set_option maxHeartbeats 16000000
set_option linter.unusedVariables false
set_option maxRecDepth 100000
namespace Go.Proofs.YtbdhpganbbandaaGreatDoor
open Go.ChangeShapes Go.WideShapes Go.ChangeAt Go.RowKit
section
open Go.Proofs.Tryz
theorem Got.once {d:Nat} {x:Ex} {l m:List ByteArray} (h:Got d x l) (hs:∀ s ∈ m,keyS s ∈ varL d x∧okS s):Got d x (onceS l m) :=
 ⟨onceS_nd _ _ h.nd,fun s hs'=>by rcases onceS_mem _ _ s hs' with h1 | h1;exact h.sub s h1;exact (hs s h1).1,fun s hs'=>by rcases onceS_mem _ _ s hs' with h1 | h1;exact h.ok s h1;exact (hs s h1).2⟩
def ExAt (w:World) (d:Nat) (p:Option Addr) (ks:List Ex):Prop:=ks≠[]→∃ g off,p=some ⟨g,off,none⟩∧All g∧g<w.heap.size∧∀ i x,ks[i]?=some x→∃ cs,cs.length=6∧(∀ j,j<6→w.cell? ⟨g,off+i * 6+j,none⟩=cs[j]?)∧HEx w All d cs x
theorem foldC_snoc (f:Ex→List ByteArray) (l:List ByteArray) (cs:List Cl) (k:Nat) (c:Cl) (h:cs[k]?=some c):(cs.take (k+1)).foldl (allC f) l=foldV f (foldV f ((cs.take k).foldl (allC f) l) c.1) c.2:=by
 rw [List.take_add_one,h];simp [allC]
theorem all_of {d:Nat} (hE:NmC 44 d (allV d)):NmC 44 (d+1) (allV (d+1)):=by
 intro w cs x h hwt;have hok:=h.txts;have HEX:=hid h;obtain ⟨kv,cv,rfl,-,-,hts,hms,f0,f1⟩:=h;obtain ⟨kx,nx,tx,mx,ks,cl⟩:=x;simp only [Ex.kind,Ex.n,Ex.text,Ex.mod,Ex.kids,Ex.clauses] at *;have hw:wtEx (d+1) (.mk kx nx tx mx ks cl)=tx.size+mx.size+wtS (wtEx d) ks+wtS (wtCl (wtEx d)) cl:=rfl;have wks:wtS (wtEx d) ks≤16777216:=(by omega);have wcl:wtS (wtCl (wtEx d)) cl≤16777216:=(by omega);obtain ⟨p,cap,rfl,hcl,hcm,hx⟩:=f0;obtain ⟨pc,capc,rfl,hcl',hcm',hxc⟩:=f1;have hnb:=sqM hcl hcm;have hnc:=sqM hcl' hcm';have HX:=hid hx;have HXC:=hid hxc;have HW:=hid hwt;have HOK:=hid hok
 -- how the kids and the clauses' expressions are bounded
 have BK:Hid (∀ (j:Nat) y,ks[j]?=some y→wtEx d y≤16777216∧(∀ s ∈ allV d y,keyS s ∈ varL (d+1) (.mk kx nx tx mx ks cl)∧okS s)∧exS d y):=fun j y hj=>by
  have h1:=sum_take_succ (wtEx d) ks j y hj;have h2:=sum_take_le (wtEx d) ks (j+1);have hm:=List.mem_of_getElem? hj;exact ⟨by unfold wtS at wks;omega,fun s hs=>⟨varL_kid hm (allV_sub d y s hs),allV_ok d y (hok.2.1 y hm) s hs⟩,hok.2.1 y hm⟩
 have BC:Hid (∀ (i:Nat) c,cl[i]?=some c→∀ y,(y ∈ c.1∨y ∈ c.2)→wtEx d y≤16777216∧(∀ s ∈ allV d y,keyS s ∈ varL (d+1) (.mk kx nx tx mx ks cl)∧okS s)∧exS d y):=fun i c hi y hy=>by
  have h1:=sum_take_succ (wtCl (wtEx d)) cl i c hi;have h2:=sum_take_le (wtCl (wtEx d)) cl (i+1);have hm:=List.mem_of_getElem? hi;have hc:wtCl (wtEx d) c=wtS (wtEx d) c.1+wtS (wtEx d) c.2:=rfl
  have hy':wtEx d y≤wtCl (wtEx d) c:=by
   rcases hy with hy | hy
   · obtain ⟨q,hq⟩:=List.mem_iff_getElem?.1 hy
     have g1:=sum_take_succ (wtEx d) c.1 q y hq;have g2:=sum_take_le (wtEx d) c.1 (q+1);unfold wtS at hc;omega
   · obtain ⟨q,hq⟩:=List.mem_iff_getElem?.1 hy
     have g1:=sum_take_succ (wtEx d) c.2 q y hq;have g2:=sum_take_le (wtEx d) c.2 (q+1);unfold wtS at hc;omega
  have he:exS d y:=by
   rcases hy with hy | hy
   · exact (hok.2.2 c hm).1 y hy
   · exact (hok.2.2 c hm).2 y hy
  exact ⟨by unfold wtS at wcl;omega,fun s hs=>⟨varL_cl hm hy (allV_sub d y s hs),allV_ok d y he s hs⟩,he⟩
 have G0:Hid (Got (d+1) (.mk kx nx tx mx ks cl) (patV (d+1) (.mk kx nx tx mx ks cl))):=⟨patV_nd _ _,patV_sub _ _,patV_ok _ _ hok⟩;have hall:allV (d+1) (.mk kx nx tx mx ks cl)=cl.foldl (allC (allV d)) (foldV (allV d) (patV (d+1) (.mk kx nx tx mx ks cl)) ks):=rfl;rw [hall];generalize hP0:patV (d+1) (.mk kx nx tx mx ks cl)=P0 at *;have HP0:=hid hP0;clear hx hxc hwt hok hall hP0 hw;generalize hn:ks.length=n at *;have HN:=hid hn;generalize hm:cl.length=nc at *;have HNC:=hid hm;clear hn hm;have bA:Hid (Blk (w.alloc (.cells #[.int .i64 kx,.int .i64 nx,.string tx,.string mx,.slice p n cap,.slice pc nc capc] 74)) w.heap.size #[.int .i64 kx,.int .i64 nx,.string tx,.string mx,.slice p n cap,.slice pc nc capc] 74):=Blk.new;have BA:Hid (Bz w (w.alloc (.cells #[.int .i64 kx,.int .i64 nx,.string tx,.string mx,.slice p n cap,.slice pc nc capc] 74))):=(sqN _ _);have EA:=hid (HEX.out.mono (sqO BA.out) (fun _ h=>h));go_enter func44,ntmps44;go_wp2_with fail;have q0:=patVars_all (d+1) _ _ _ EA.out HW.out;rw [HP0.out] at q0;refine q0.mono ?_;rintro e w1 ⟨u1,rfl,ho1,hb1⟩;have O1:=hid (ho1.base BA.out.size);have B1:=hid (BA.out.trans (hb1.mono BA.out.size));have b1:=hid (bA.out.next hb1);clear q0 ho1 hb1 EA bA BA HEX;go_wp2_with fail
 go_loopw [3,4] (fun ov iv wr=>∃ k:Nat,k≤n∧iv=.int .i64 k∧Hid (OwnS wr w.heap.size ov (foldV (allV d) P0 (ks.take k)))∧Hid (Got (d+1) (.mk kx nx tx mx ks cl) (foldV (allV d) P0 (ks.take k)))∧Hid (Blk wr w.heap.size #[.int .i64 kx,.int .i64 nx,.string tx,.string mx,.slice p n cap,.slice pc nc capc] 74)∧Hid (Bz w wr)) (fun _ iv _=>n - (intOf iv).toNat)
 case atStart=>exact ⟨0,Nat.zero_le _,rfl,O1.out,G0.out,b1.out,B1.out⟩
 case round =>
  obtain ⟨k,hk,rfl,ho,hg,hbk,HB⟩:=hrel;clear O1 b1 B1;have xa4:=hbk.out.cell 4 _ rfl;have xa5:=hbk.out.cell 5 _ rfl;by_cases hlt:k<n
  · obtain ⟨x,hxk⟩:=sqA (l:=ks) (k:=k) HN.out hlt
    obtain ⟨g,off,rfl,-,hgl,hat⟩:=HX.out (sqE hxk);obtain ⟨cs,hcsl,hcs,r1⟩:=hat k x hxk;have E1:∀ w',Bz w w'→HEx w' All d cs x:=fun w' hw=>r1.mono (sqO hw) (fun _ h=>h);obtain ⟨c0,c1,c2,c3,c4,c5,rfl⟩:=len6 hcsl;obtain ⟨a0,a1,a2,a3,a4,a5⟩:=sqC6 hcs (by omega);rw [← HB.out.cell (p:=⟨g,_,none⟩) hgl] at a0 a1 a2 a3 a4 a5;simp at a0 a1 a2 a3 a4 a5;have hki:(k:Int)<(n:Int):=(by omega);have hk0:=sqI k;obtain ⟨wx,sx,ex⟩:=BK.out k x hxk;have GX:=hid (hg.out.once sx);have HJ:Hid (foldV (allV d) P0 (ks.take (k+1))=onceS (foldV (allV d) P0 (ks.take k)) (allV d x)):=foldV_snoc _ _ ks k x hxk;have lq:=hg.out.len HW.out;have lx:=(allV_got ex).len wx;have OX:Hid (∀ s ∈ allV d x,okS s):=fun s hs=>(sx s hs).2;have OJ:=hid hg.out.ok;generalize hJ0:foldV (allV d) P0 (ks.take k)=J at *;clear hcs hat hcsl r1 hJ0 hg sx;go_wp2_with fail;refine (hE _ _ x (E1 _ HB.out) wx).mono ?_;rintro e w4 ⟨u4,rfl,ho4,hb4⟩;have HB4:=hid (HB.out.trans (hb4.mono HB.out.size));have SV:Hid (StrV w4 u3 J):=(ho.out.next hb4).strV OJ.out;have SR:=hid (ho4.strR OX.out);have bk4:=hid (hbk.out.next hb4);clear hb4 ho4 xa4 xa5 a0 a1 a2 a3 a4 a5;go_wp2_with fail;refine (once_any _ _ _ J (allV d x) SV.out SR.out (by omega)).mono ?_;rintro e w5 ⟨u5,rfl,ho5,hb5⟩;have HB5:=hid (HB4.out.trans (hb5.mono HB4.out.size));have HO5:=hid (ho5.base HB4.out.size);have bk5:=hid (bk4.out.next hb5);clear hb5 ho5;go_wp2_with fail;exact ⟨⟨k+1,by omega,by go_num,by show OwnS _ _ _ _;rw [HJ.out];exact HO5.out,by show Got _ _ _;rw [HJ.out];exact GX.out,bk5.out,HB5.out⟩,by simp [intOf];omega⟩
  · have HS:Hid (OwnS wr w.heap.size u3 (foldV (allV d) P0 ks)):=by
     have:=ho.out
     rwa [List.take_of_length_le (by rw [HN.out];omega)] at this
    have GS:Hid (Got (d+1) (.mk kx nx tx mx ks cl) (foldV (allV d) P0 ks)):=by
     have:=hg.out
     rwa [List.take_of_length_le (by rw [HN.out];omega)] at this
    generalize hP1:foldV (allV d) P0 ks=P1 at HS GS;have HP1:=hid hP1;clear hP1;clear ho hg;go_wp2_with fail
    go_loopw [3,5] (fun ov iv wr=>∃ i:Nat,i≤nc∧iv=.int .i64 i∧Hid (OwnS wr w.heap.size ov ((cl.take i).foldl (allC (allV d)) P1))∧Hid (Got (d+1) (.mk kx nx tx mx ks cl) ((cl.take i).foldl (allC (allV d)) P1))∧Hid (Blk wr w.heap.size #[.int .i64 kx,.int .i64 nx,.string tx,.string mx,.slice p n cap,.slice pc nc capc] 74)∧Hid (Bz w wr)) (fun _ iv _=>nc - (intOf iv).toNat)
    case atStart=>exact ⟨0,Nat.zero_le _,rfl,HS.out,GS.out,hbk.out,HB.out⟩
    case round =>
     clear HS GS hbk HB xa4 xa5;obtain ⟨i,hi,rfl,hoI,hgI,hbI,HBI⟩:=hrel;have xa5:=hbI.out.cell 5 _ rfl;by_cases hlt:i<nc
     · obtain ⟨c,hci⟩:∃ c,cl[i]?=some c:=⟨cl[i]'(by rw [HNC.out];exact hlt),List.getElem?_eq_getElem _⟩
       obtain ⟨gc,oc,rfl,-,hgcl,hat⟩:=HXC.out (sqE hci);obtain ⟨cs,hcsl,hcs,pv,bv,rfl,rp,rb⟩:=hat i c hci;obtain ⟨pp,capp,rfl,hp1,hp2,hxp⟩:=rp;obtain ⟨pb,capb,rfl,hb1,hb2,hxb⟩:=rb;obtain ⟨y0,y1⟩:=sqC2 hcs (by omega);simp at y0 y1;have hnp:c.1.length≤9223372036854775807:=(by unfold maxLen at hp2;omega);have hnb':c.2.length≤9223372036854775807:=(by unfold maxLen at hb2;omega);generalize hnp0:c.1.length=np at *;generalize hnb0:c.2.length=nb at *;have HN0:=hid hnp0;have HN1:=hid hnb0;have HXP0:=hid hxp;have HXP1:=hid hxb;have HP0c:=hid y0;have HP1c:=hid y1;have HJC:Hid ((cl.take (i+1)).foldl (allC (allV d)) P1=foldV (allV d) (foldV (allV d) ((cl.take i).foldl (allC (allV d)) P1) c.1) c.2):=foldC_snoc _ _ cl i c hci;have hii:(i:Int)<(nc:Int):=(by omega);have hi0:=sqI i;generalize (cl.take i).foldl (allC (allV d)) P1=J at *;clear hat hcs hcsl hxp hxb y0 y1 hnp0 hnb0;go_wp2_with fail
       go_loopw [3,6] (fun ov iv wr=>∃ k:Nat,k≤np∧iv=.int .i64 k∧Hid (OwnS wr w.heap.size ov (foldV (allV d) J (c.1.take k)))∧Hid (Got (d+1) (.mk kx nx tx mx ks cl) (foldV (allV d) J (c.1.take k)))∧Hid (Blk wr w.heap.size #[.int .i64 kx,.int .i64 nx,.string tx,.string mx,.slice p n cap,.slice (some ⟨gc,oc,none⟩) nc capc] 74)∧Hid (Bz w wr)) (fun _ iv _=>np - (intOf iv).toNat)
       case atStart=>exact ⟨0,Nat.zero_le _,rfl,hoI.out,hgI.out,hbI.out,HBI.out⟩
       case round =>
        obtain ⟨k,hk,rfl,ho,hg,hbk,HB⟩:=hrel;have xa5:=hbk.out.cell 5 _ rfl;have xp0:=(HB.out.cell (p:=⟨gc,oc+i * 2,none⟩) hgcl).trans HP0c.out;have xp1:=(HB.out.cell (p:=⟨gc,oc+i * 2+1,none⟩) hgcl).trans HP1c.out;by_cases hlk:k<np
        · obtain ⟨x,hxk⟩:∃ x,c.1[k]?=some x:=⟨c.1[k]'(by rw [HN0.out];exact hlk),List.getElem?_eq_getElem _⟩
          obtain ⟨g,off,rfl,-,hgl,hat⟩:=HXP0.out (sqE hxk);obtain ⟨cs,hcsl,hcs,r1⟩:=hat k x hxk;have E1:∀ w',Bz w w'→HEx w' All d cs x:=fun w' hw=>r1.mono (sqO hw) (fun _ h=>h);obtain ⟨c0,c1,c2,c3,c4,c5,rfl⟩:=len6 hcsl;obtain ⟨a0,a1,a2,a3,a4,a5⟩:=sqC6 hcs (by omega);rw [← HB.out.cell (p:=⟨g,_,none⟩) hgl] at a0 a1 a2 a3 a4 a5;simp at a0 a1 a2 a3 a4 a5;have hki:(k:Int)<(np:Int):=(by omega);have hk0:=sqI k;obtain ⟨wx,sx,ex⟩:=BC.out i c hci x (.inl (List.mem_of_getElem? hxk));have GX:=hid (hg.out.once sx);have HJ:Hid (foldV (allV d) J (c.1.take (k+1))=onceS (foldV (allV d) J (c.1.take k)) (allV d x)):=foldV_snoc _ _ c.1 k x hxk;have lq:=hg.out.len HW.out;have lx:=(allV_got ex).len wx;have OX:Hid (∀ s ∈ allV d x,okS s):=fun s hs=>(sx s hs).2;have OJ:=hid hg.out.ok;generalize hJ0:foldV (allV d) J (c.1.take k)=J at *;clear hcs hat hcsl r1 hJ0 hg sx;go_wp2_with fail;refine (hE _ _ x (E1 _ HB.out) wx).mono ?_;rintro e w4 ⟨u4,rfl,ho4,hb4⟩;have HB4:=hid (HB.out.trans (hb4.mono HB.out.size));have SV:Hid (StrV w4 u3 J):=(ho.out.next hb4).strV OJ.out;have SR:=hid (ho4.strR OX.out);have bk4:=hid (hbk.out.next hb4);clear hb4 ho4 xa5 xp0 xp1 a0 a1 a2 a3 a4 a5;go_wp2_with fail;refine (once_any _ _ _ J (allV d x) SV.out SR.out (by omega)).mono ?_;rintro e w5 ⟨u5,rfl,ho5,hb5⟩;have HB5:=hid (HB4.out.trans (hb5.mono HB4.out.size));have HO5:=hid (ho5.base HB4.out.size);have bk5:=hid (bk4.out.next hb5);clear hb5 ho5;go_wp2_with fail;exact ⟨⟨k+1,by omega,by go_num,by show OwnS _ _ _ _;rw [HJ.out];exact HO5.out,by show Got _ _ _;rw [HJ.out];exact GX.out,bk5.out,HB5.out⟩,by simp [intOf];omega⟩
        · have HS0:Hid (OwnS wr w.heap.size u3 (foldV (allV d) J c.1)):=by
           have:=ho.out
           rwa [List.take_of_length_le (by rw [HN0.out];omega)] at this
          have GS0:Hid (Got (d+1) (.mk kx nx tx mx ks cl) (foldV (allV d) J c.1)):=by
           have:=hg.out
           rwa [List.take_of_length_le (by rw [HN0.out];omega)] at this
          clear ho hg;have HBq:=hid HB.out;have hbq:=hid hbk.out;clear HB hbk;go_wp2_with fail
          go_loopw [3,7] (fun ov iv wr=>∃ k:Nat,k≤nb∧iv=.int .i64 k∧Hid (OwnS wr w.heap.size ov (foldV (allV d) (foldV (allV d) J c.1) (c.2.take k)))∧Hid (Got (d+1) (.mk kx nx tx mx ks cl) (foldV (allV d) (foldV (allV d) J c.1) (c.2.take k)))∧Hid (Blk wr w.heap.size #[.int .i64 kx,.int .i64 nx,.string tx,.string mx,.slice p n cap,.slice (some ⟨gc,oc,none⟩) nc capc] 74)∧Hid (Bz w wr)) (fun _ iv _=>nb - (intOf iv).toNat)
          case atStart=>exact ⟨0,Nat.zero_le _,rfl,HS0.out,GS0.out,hbq.out,HBq.out⟩
          case round =>
           obtain ⟨k,hk,rfl,ho,hg,hbk,HB⟩:=hrel;have xa5:=hbk.out.cell 5 _ rfl;have xp0:=(HB.out.cell (p:=⟨gc,oc+i * 2,none⟩) hgcl).trans HP0c.out;have xp1:=(HB.out.cell (p:=⟨gc,oc+i * 2+1,none⟩) hgcl).trans HP1c.out;by_cases hlk:k<nb
           · obtain ⟨x,hxk⟩:∃ x,c.2[k]?=some x:=⟨c.2[k]'(by rw [HN1.out];exact hlk),List.getElem?_eq_getElem _⟩
             obtain ⟨g,off,rfl,-,hgl,hat⟩:=HXP1.out (sqE hxk);obtain ⟨cs,hcsl,hcs,r1⟩:=hat k x hxk;have E1:∀ w',Bz w w'→HEx w' All d cs x:=fun w' hw=>r1.mono (sqO hw) (fun _ h=>h);obtain ⟨c0,c1,c2,c3,c4,c5,rfl⟩:=len6 hcsl;obtain ⟨a0,a1,a2,a3,a4,a5⟩:=sqC6 hcs (by omega);rw [← HB.out.cell (p:=⟨g,_,none⟩) hgl] at a0 a1 a2 a3 a4 a5;simp at a0 a1 a2 a3 a4 a5;have hki:(k:Int)<(nb:Int):=(by omega);have hk0:=sqI k;obtain ⟨wx,sx,ex⟩:=BC.out i c hci x (.inr (List.mem_of_getElem? hxk));have GX:=hid (hg.out.once sx);have HJ:Hid (foldV (allV d) (foldV (allV d) J c.1) (c.2.take (k+1))=onceS (foldV (allV d) (foldV (allV d) J c.1) (c.2.take k)) (allV d x)):=foldV_snoc _ _ c.2 k x hxk;have lq:=hg.out.len HW.out;have lx:=(allV_got ex).len wx;have OX:Hid (∀ s ∈ allV d x,okS s):=fun s hs=>(sx s hs).2;have OJ:=hid hg.out.ok;generalize hJ0:foldV (allV d) (foldV (allV d) J c.1) (c.2.take k)=J at *;clear hcs hat hcsl r1 hJ0 hg sx;go_wp2_with fail;refine (hE _ _ x (E1 _ HB.out) wx).mono ?_;rintro e w4 ⟨u4,rfl,ho4,hb4⟩;have HB4:=hid (HB.out.trans (hb4.mono HB.out.size));have SV:Hid (StrV w4 u3 J):=(ho.out.next hb4).strV OJ.out;have SR:=hid (ho4.strR OX.out);have bk4:=hid (hbk.out.next hb4);clear hb4 ho4 xa5 xp0 xp1 a0 a1 a2 a3 a4 a5;go_wp2_with fail;refine (once_any _ _ _ J (allV d x) SV.out SR.out (by omega)).mono ?_;rintro e w5 ⟨u5,rfl,ho5,hb5⟩;have HB5:=hid (HB4.out.trans (hb5.mono HB4.out.size));have HO5:=hid (ho5.base HB4.out.size);have bk5:=hid (bk4.out.next hb5);clear hb5 ho5;go_wp2_with fail;exact ⟨⟨k+1,by omega,by go_num,by show OwnS _ _ _ _;rw [HJ.out];exact HO5.out,by show Got _ _ _;rw [HJ.out];exact GX.out,bk5.out,HB5.out⟩,by simp [intOf];omega⟩
           · have HS1:Hid (OwnS wr w.heap.size u3 (foldV (allV d) (foldV (allV d) J c.1) c.2)):=by
              have:=ho.out
              rwa [List.take_of_length_le (by rw [HN1.out];omega)] at this
             have GS1:Hid (Got (d+1) (.mk kx nx tx mx ks cl) (foldV (allV d) (foldV (allV d) J c.1) c.2)):=by
              have:=hg.out
              rwa [List.take_of_length_le (by rw [HN1.out];omega)] at this
             clear ho hg;go_wp2_with fail;exact ⟨⟨i+1,by omega,by go_num,by show OwnS _ _ _ _;rw [HJC.out];exact HS1.out,by show Got _ _ _;rw [HJC.out];exact GS1.out,hbk.out,HB.out⟩,by simp [intOf];omega⟩
     · have HS2:Hid (OwnS wr w.heap.size u3 (cl.foldl (allC (allV d)) P1)):=by
        have:=hoI.out
        rwa [List.take_of_length_le (by rw [HNC.out];omega)] at this
       clear hoI hgI;go_wp2_with fail;go_ret;exact ⟨u3,rfl,by show OwnS _ _ _ _;rw [HP1.out];exact HS2.out,HBI.out⟩
theorem all_all:∀ d,NmC 44 d (allV d)
 | 0=>fun w cs x h _=>h.elim
 | d+1=>all_of (all_all d)
theorem bndV_two (d:Nat) (n:Int) (t m:ByteArray) (a b:Ex) (cs:List Cl):bndV (d+1) (.mk 9 n t m [a,b] cs)=onceS (bndV d b) (patV d a):=rfl
theorem bndV_else (d:Nat) (k n:Int) (t m:ByteArray) (ks:List Ex) (cs:List Cl) (h:¬ (k=9/\ks.length=2)):bndV (d+1) (.mk k n t m ks cs)=foldV (bndV d) [] ks:=by
 unfold bndV
 split
 . simp at h
 . rfl
theorem bndV_len:∀ (d:Nat) (x:Ex),(bndV d x).length<=1+wtEx d x
 | 0,_=>by simp [bndV]
 | d+1,.mk k n t m ks cs=>by
  have hw:wtEx (d+1) (.mk k n t m ks cs)=t.size+m.size+wtS (wtEx d) ks+wtS (wtCl (wtEx d)) cs:=rfl;by_cases h:k=9/\ks.length=2
  . obtain ⟨rfl,h2⟩:=h
    match ks,h2 with
    | [a,b],_ =>
     have h3:=onceS_length (bndV d b) (patV d a);have h4:=bndV_len d b;have h5:=patV_len d a;have h6:wtS (wtEx d) [a,b]=2+(wtEx d a+wtEx d b):=(by simp [wtS]);rw [bndV_two,hw];omega
  . have h1:=foldV_len (bndV d) (wtEx d) ks [] (λy _=>bndV_len d y)
    rw [bndV_else d k n t m ks cs h,hw];simp only [List.length_nil] at h1;omega
theorem bndV_ok:∀ (d:Nat) (x:Ex),exS d x->∀ s ∈ bndV d x,okS s
 | 0,_,h,_,_=>h.elim
 | d+1,.mk k n t m ks cs,hx,s,hs=>by
  by_cases h:k=9/\ks.length=2
  . obtain ⟨rfl,h2⟩:=h
    match ks,h2 with
    | [a,b],_ =>
     rw [bndV_two] at hs
     rcases onceS_mem _ _ s hs with h1 | h1
     . exact bndV_ok d b (hx.2.1 b (by simp)) s h1
     . exact patV_ok d a (hx.2.1 a (by simp)) s h1
  . rw [bndV_else d k n t m ks cs h] at hs
    rcases foldV_mem _ _ _ s hs with h1 | ⟨y,hy,h1⟩
    . simp at h1
    . exact bndV_ok d y (hx.2.1 y hy) s h1
theorem bound_of {d:Nat} (hE:NmC 162 d (bndV d)):NmC 162 (d+1) (bndV (d+1)):=by
 intro w cs x h hwt;have hok:=h.txts;obtain ⟨kv,cv,rfl,-,-,hts,hms,f0,-⟩:=h;obtain ⟨kx,nx,tx,mx,ks,cl⟩:=x;simp only [Ex.kind,Ex.n,Ex.text,Ex.mod,Ex.kids] at *;have hw:wtEx (d+1) (.mk kx nx tx mx ks cl)=tx.size+mx.size+wtS (wtEx d) ks+wtS (wtCl (wtEx d)) cl:=rfl;have wks:wtS (wtEx d) ks<=16777216:=(by omega);obtain ⟨p,cap,rfl,hcl,hcm,hx⟩:=f0;have hnb:=sqM hcl hcm;obtain ⟨i,hi,hz0,hz1,hz2⟩:=info_parts info_str
 have LQ:Hid (∀ k,(foldV (bndV d) [] (ks.take k)).length<=16777217):=λk=>by
  have h1:=foldV_len (bndV d) (wtEx d) (ks.take k) [] (λy _=>bndV_len d y)
  have h2:wtS (wtEx d) (ks.take k)<=wtS (wtEx d) ks:=by
   have h3:=sum_take_le (wtEx d) ks k;have h4:(ks.take k).length<=ks.length:=(by rw [List.length_take];omega);unfold wtS;omega
  simp only [List.length_nil] at h1;omega
 have OQ:Hid (∀ k,∀ s ∈ foldV (bndV d) [] (ks.take k),okS s):=λk s hs=>by
  rcases foldV_mem _ _ _ s hs with h | ⟨y,hy,h⟩
  . simp at h
  . exact bndV_ok d y (hok.2.1 y (List.mem_of_mem_take hy)) s h
 have BX:Hid (∀ k x,ks[k]?=some x->wtEx d x<=16777216/\exS d x/\(bndV d x).length<=16777217):=λk x hk=>by
  have h1:=sum_take_succ (wtEx d) ks k x hk;have h2:=sum_take_le (wtEx d) ks (k+1);have h3:=bndV_len d x;have h4:wtEx d x<=16777216:=(by unfold wtS at wks;omega);exact ⟨h4,hok.2.1 x (List.mem_of_getElem? hk),by omega⟩
 by_cases h92:kx=9/\ks.length=2
 . obtain ⟨rfl,hn2⟩:=h92
   obtain ⟨ya,yb,rfl⟩:∃ a b,ks = [a,b]:=by
    match ks,hn2 with
    | [a,b],_=>exact ⟨a,b,rfl⟩
   rw [bndV_two];obtain ⟨wa,sa,-⟩:=BX.out 0 ya rfl;obtain ⟨wb,sb,lb⟩:=BX.out 1 yb rfl;have la:(patV d ya).length<=16777217:=(by have:=patV_len d ya;omega);obtain ⟨g,off,rfl,-,hgl,hat⟩:=hx (by simp);obtain ⟨cs,hcsl,hcs,ra⟩:=hat 0 ya rfl;obtain ⟨cs',hcsl',hcs',rb⟩:=hat 1 yb rfl;simp only [List.length_cons,List.length_nil] at *;obtain ⟨W1,hW1⟩:∃ W1,W1=w.alloc (.cells #[.int .i64 9,.int .i64 nx,.string tx,.string mx,.slice (some ⟨g,off,none⟩) 2 cap,cv] 74):=⟨_,rfl⟩;have bA:Hid (Blk W1 w.heap.size #[.int .i64 9,.int .i64 nx,.string tx,.string mx,.slice (some ⟨g,off,none⟩) 2 cap,cv] 74):=(by show Blk _ _ _ _;rw [hW1];exact Blk.new);have B1:Hid (Bz w W1):=(by show Below _ _ _;rw [hW1];exact (sqN _ _));have HW1:=hid hW1;have EA:∀ w',Bz w w'->HEx w' All d cs ya:=λw' hw=>ra.mono (sqO hw) sqj;have EB:∀ w',Bz w w'->HEx w' All d cs' yb:=λw' hw=>rb.mono (sqO hw) sqj;obtain ⟨c0,c1,c2,c3,c4,c5,rfl⟩:=len6 hcsl;obtain ⟨e0,e1,e2,e3,e4,e5,rfl⟩:=len6 hcsl';have ca0:=hcs 0 (by omega);have cb0:=hcs' 0 (by omega);have ca1:=hcs 1 (by omega);have cb1:=hcs' 1 (by omega);have ca2:=hcs 2 (by omega);have cb2:=hcs' 2 (by omega);have ca3:=hcs 3 (by omega);have cb3:=hcs' 3 (by omega);have ca4:=hcs 4 (by omega);have cb4:=hcs' 4 (by omega);have ca5:=hcs 5 (by omega);have cb5:=hcs' 5 (by omega);rw [<-B1.out.cell (p:=⟨g,_,none⟩) hgl] at ca0 cb0 ca1 cb1 ca2 cb2 ca3 cb3 ca4 cb4 ca5 cb5;simp at ca0 cb0 ca1 cb1 ca2 cb2 ca3 cb3 ca4 cb4 ca5 cb5;have x4:=bA.out.cell 4 _ rfl;clear hx hat hcs hcs' hcsl hcsl' ra rb LQ OQ BX hok hw hwt hW1;go_enter func162,ntmps162;go_wp2_with fail;rw [<-HW1.out]
   go_region_held3 (λw'=>w'.cell? ⟨w.heap.size,4,none⟩=some (.slice (some ⟨g,off,none⟩) 2 cap)/\w'.cell? ⟨g,off,none⟩=some c0/\w'.cell? ⟨g,off+1,none⟩=some c1/\w'.cell? ⟨g,off+2,none⟩=some c2/\w'.cell? ⟨g,off+3,none⟩=some c3/\w'.cell? ⟨g,off+4,none⟩=some c4/\w'.cell? ⟨g,off+5,none⟩=some c5/\w'.cell? ⟨g,off+6,none⟩=some e0/\w'.cell? ⟨g,off+6+1,none⟩=some e1/\w'.cell? ⟨g,off+6+2,none⟩=some e2/\w'.cell? ⟨g,off+6+3,none⟩=some e3/\w'.cell? ⟨g,off+6+4,none⟩=some e4/\w'.cell? ⟨g,off+6+5,none⟩=some e5)
    (first | go_keep | (go_split_ands;refine ⟨?_,?_,?_,?_,?_,?_,?_,?_,?_,?_,?_,?_,?_⟩ <;> exact cell_next hb (by assumption)))
    (first
     | (go_at_call 162;refine (hE _ _ yb (EB _ (by exact B1.out.drew)) wb).mono ?_;rintro e w4 ⟨u4,rfl,ho4,hb⟩;have K4:Hid (Bz W1 w4):=⟨hb.os,hb.tape,hb.output,hb.size,hb.block⟩;have G4:=hid ho4;clear ho4)
     | (go_at_call 74;refine (patVars_all d _ _ ya (EA _ (by exact B1.out.trans (K4.out.mono B1.out.size))) wa).mono ?_;rintro e w5 ⟨u5,rfl,ho5,hb⟩;have K5:=hid hb;have G5:=hid (ho5.strR (patV_ok d ya sa));have G4b:Hid (StrV w5 u4 (bndV d yb)):=(G4.out.next hb).strV (bndV_ok d yb sb);clear ho5)
     | (go_at_call 43;refine (once_any _ _ _ _ _ G4b.out G5.out (by omega)).mono ?_;rintro e w6 ⟨u6,rfl,ho6,hb⟩;have K6:=hid hb;have G6:=hid ho6;clear ho6))
   go_split_ands;have BZ:Hid (Bz w w5):=(B1.out.trans (K4.out.mono B1.out.size)).trans (K5.out.mono (B1.out.trans (K4.out.mono B1.out.size)).size);have BY:=hid (BZ.out.trans (K6.out.mono BZ.out.size));go_wp2;go_ret;exact ⟨u6,rfl,G6.out.base BZ.out.size,BY.out⟩
 . rw [bndV_else d kx nx tx mx ks cl h92]
   generalize hn:ks.length=n at *;have HN:=hid hn;have HX:=hid hx;obtain ⟨W1,hW1⟩:∃ W1,W1=w.alloc (.cells #[.int .i64 kx,.int .i64 nx,.string tx,.string mx,.slice p n cap,cv] 74):=⟨_,rfl⟩;have bA:Hid (Blk W1 w.heap.size #[.int .i64 kx,.int .i64 nx,.string tx,.string mx,.slice p n cap,cv] 74):=(by show Blk _ _ _ _;rw [hW1];exact Blk.new);have B1:Hid (Bz w W1):=(by show Below _ _ _;rw [hW1];exact (sqN _ _));have hs1:W1.heap.size=w.heap.size+1:=(by rw [hW1];simp);have HW1:=hid hW1
   have O9:Hid (OwnS (W1.alloc (.cells #[] 9)) w.heap.size (.slice (some ⟨w.heap.size+1,0,none⟩) 0 0) []):=by
    have:=(OwnS.fresh (w:=W1)).base B1.out.size
    rwa [hs1] at this
   have BBB:Hid (Bz w (W1.alloc (.cells #[] 9))):=B1.out.alloc B1.out.size _;have bB:Hid (Blk (W1.alloc (.cells #[] 9)) w.heap.size #[.int .i64 kx,.int .i64 nx,.string tx,.string mx,.slice p n cap,cv] 74):=bA.out.alloc;clear hx hn hok hw hwt hW1;by_cases k9:kx=9
   . subst k9
     have hn2:¬ n=2:=λh=>h92 ⟨rfl,h⟩;have hn2b:((n:Int) == 2)=false:=(by simp;omega);clear h92;go_enter func162,ntmps162;go_wp2_with fail;rw [<-HW1.out]
     go_loopw [3,4] (λov iv wr=>∃ k:Nat,k<=n/\iv=.int .i64 k/\Hid (OwnS wr w.heap.size ov (foldV (bndV d) [] (ks.take k)))/\Hid (Blk wr w.heap.size #[.int .i64 9,.int .i64 nx,.string tx,.string mx,.slice p n cap,cv] 74)/\Bz w wr) (λ_ iv _=>n - (intOf iv).toNat)
     case atStart=>exact ⟨0,Nat.zero_le _,rfl,O9.out,bB.out,BBB.out⟩
     case round =>
      obtain ⟨k,hk,rfl,ho,hbk,hb⟩:=hrel;have HB:=hid hb;have xa4:=hbk.out.cell 4 _ rfl;by_cases hlt:k<n
      . obtain ⟨x,hxk⟩:=sqA (l:=ks) (k:=k) HN.out hlt
        obtain ⟨g,off,rfl,-,hgl,hat⟩:=HX.out (sqE hxk);obtain ⟨cs,hcsl,hcs,r1⟩:=hat k x hxk;have E1:∀ w',Bz w w'->HEx w' All d cs x:=λw' hw=>r1.mono (sqO hw) sqj;obtain ⟨c0,c1,c2,c3,c4,c5,rfl⟩:=len6 hcsl;obtain ⟨a0,a1,a2,a3,a4,a5⟩:=sqC6 hcs (by omega);rw [<-hb.cell (p:=⟨g,_,none⟩) hgl] at a0 a1 a2 a3 a4 a5;simp at a0 a1 a2 a3 a4 a5;have hki:(k:Int)<(n:Int):=(by omega);have hk0:=sqI k;obtain ⟨wx,sx,lx⟩:=BX.out k x hxk;have HJ:Hid (foldV (bndV d) [] (ks.take (k+1))=onceS (foldV (bndV d) [] (ks.take k)) (bndV d x)):=foldV_snoc _ _ ks k x hxk;have lq:=LQ.out k;have oq:=OQ.out k;generalize hJ0:foldV (bndV d) [] (ks.take k)=J at *;clear hb hcs hat hcsl r1 hJ0;go_wp2_with fail;refine (hE _ _ x (E1 _ HB.out) wx).mono ?_;rintro e w4 ⟨u4,rfl,ho4,hb4⟩;have HB4:=hid (HB.out.trans (hb4.mono HB.out.size));have SV:Hid (StrV w4 u3 J):=(ho.out.next hb4).strV oq;have SR:=hid (ho4.strR (bndV_ok d x sx));have bk4:=hid (hbk.out.next hb4);clear hb4 ho4 xa4 a0 a1 a2 a3 a4 a5;go_wp2_with fail;refine (once_any _ _ _ J (bndV d x) SV.out SR.out (by omega)).mono ?_;rintro e w5 ⟨u5,rfl,ho5,hb5⟩;have HB5:=hid (HB4.out.trans (hb5.mono HB4.out.size));have HO5:=hid (ho5.base HB4.out.size);have bk5:=hid (bk4.out.next hb5);clear hb5 ho5;go_wp2_with fail;exact ⟨⟨k+1,by omega,by go_num,by show OwnS _ _ _ _;rw [HJ.out];exact HO5.out,bk5.out,HB5.out⟩,by simp [intOf];omega⟩
      . have HS:Hid (OwnS wr w.heap.size u3 (foldV (bndV d) [] ks)):=by
         have:=ho.out
         rwa [List.take_of_length_le (by rw [HN.out];omega)] at this
        clear hb;go_wp2;go_ret;exact ⟨u3,rfl,HS.out,HB.out⟩
   . have k9b:(kx == 9)=false:=by simpa using k9
     clear h92;go_enter func162,ntmps162;go_wp2_with fail;rw [<-HW1.out]
     go_loopw [3,4] (λov iv wr=>∃ k:Nat,k<=n/\iv=.int .i64 k/\Hid (OwnS wr w.heap.size ov (foldV (bndV d) [] (ks.take k)))/\Hid (Blk wr w.heap.size #[.int .i64 kx,.int .i64 nx,.string tx,.string mx,.slice p n cap,cv] 74)/\Bz w wr) (λ_ iv _=>n - (intOf iv).toNat)
     case atStart=>exact ⟨0,Nat.zero_le _,rfl,O9.out,bB.out,BBB.out⟩
     case round =>
      obtain ⟨k,hk,rfl,ho,hbk,hb⟩:=hrel;have HB:=hid hb;have xa4:=hbk.out.cell 4 _ rfl;by_cases hlt:k<n
      . obtain ⟨x,hxk⟩:=sqA (l:=ks) (k:=k) HN.out hlt
        obtain ⟨g,off,rfl,-,hgl,hat⟩:=HX.out (sqE hxk);obtain ⟨cs,hcsl,hcs,r1⟩:=hat k x hxk;have E1:∀ w',Bz w w'->HEx w' All d cs x:=λw' hw=>r1.mono (sqO hw) sqj;obtain ⟨c0,c1,c2,c3,c4,c5,rfl⟩:=len6 hcsl;obtain ⟨a0,a1,a2,a3,a4,a5⟩:=sqC6 hcs (by omega);rw [<-hb.cell (p:=⟨g,_,none⟩) hgl] at a0 a1 a2 a3 a4 a5;simp at a0 a1 a2 a3 a4 a5;have hki:(k:Int)<(n:Int):=(by omega);have hk0:=sqI k;obtain ⟨wx,sx,lx⟩:=BX.out k x hxk;have HJ:Hid (foldV (bndV d) [] (ks.take (k+1))=onceS (foldV (bndV d) [] (ks.take k)) (bndV d x)):=foldV_snoc _ _ ks k x hxk;have lq:=LQ.out k;have oq:=OQ.out k;generalize hJ0:foldV (bndV d) [] (ks.take k)=J at *;clear hb hcs hat hcsl r1 hJ0;go_wp2_with fail;refine (hE _ _ x (E1 _ HB.out) wx).mono ?_;rintro e w4 ⟨u4,rfl,ho4,hb4⟩;have HB4:=hid (HB.out.trans (hb4.mono HB.out.size));have SV:Hid (StrV w4 u3 J):=(ho.out.next hb4).strV oq;have SR:=hid (ho4.strR (bndV_ok d x sx));have bk4:=hid (hbk.out.next hb4);clear hb4 ho4 xa4 a0 a1 a2 a3 a4 a5;go_wp2_with fail;refine (once_any _ _ _ J (bndV d x) SV.out SR.out (by omega)).mono ?_;rintro e w5 ⟨u5,rfl,ho5,hb5⟩;have HB5:=hid (HB4.out.trans (hb5.mono HB4.out.size));have HO5:=hid (ho5.base HB4.out.size);have bk5:=hid (bk4.out.next hb5);clear hb5 ho5;go_wp2_with fail;exact ⟨⟨k+1,by omega,by go_num,by show OwnS _ _ _ _;rw [HJ.out];exact HO5.out,bk5.out,HB5.out⟩,by simp [intOf];omega⟩
      . have HS:Hid (OwnS wr w.heap.size u3 (foldV (bndV d) [] ks)):=by
         have:=ho.out
         rwa [List.take_of_length_le (by rw [HN.out];omega)] at this
        clear hb;go_wp2;go_ret;exact ⟨u3,rfl,HS.out,HB.out⟩
theorem bound_all:∀ d,NmC 162 d (bndV d)
 | 0=>λw cs x h _=>h.elim
 | d+1=>bound_of (bound_all d)
end
def stepL (f:Ex->List ByteArray->List ByteArray) (bn:Ex->List ByteArray) (st:List ByteArray × List ByteArray) (x:Ex):List ByteArray × List ByteArray:=(onceS st.1 (f x st.2),onceS st.2 (bn x))
def listV (f:Ex->List ByteArray->List ByteArray) (bn:Ex->List ByteArray) (B:List ByteArray) (ks:List Ex):List ByteArray:=(ks.foldl (stepL f bn) ([],B)).1
theorem runL_snd (f:Ex->List ByteArray->List ByteArray) (bn:Ex->List ByteArray):∀ (ks:List Ex) (st:List ByteArray × List ByteArray),(ks.foldl (stepL f bn) st).2=foldV bn st.2 ks
 | [],st=>rfl
 | x :: xs,st=>runL_snd f bn xs (stepL f bn st x)
theorem listV_nil (f:Ex->List ByteArray->List ByteArray) (bn:Ex->List ByteArray) (B:List ByteArray):listV f bn B [] = []:=rfl
theorem listV_snoc (f:Ex->List ByteArray->List ByteArray) (bn:Ex->List ByteArray) (B:List ByteArray) (ks:List Ex) (k:Nat) (y:Ex) (h:ks[k]?=some y) :
 listV f bn B (ks.take (k+1))=onceS (listV f bn B (ks.take k)) (f y (foldV bn B (ks.take k))):=by
 have h2:=runL_snd f bn (ks.take k) ([],B);unfold listV;rw [List.take_add_one,h,List.foldl_append];simp only [Option.toList_some,List.foldl_cons,List.foldl_nil];show onceS _ (f y _)=_;rw [h2]
theorem runL_mem (f:Ex->List ByteArray->List ByteArray) (bn:Ex->List ByteArray):∀ (ks:List Ex) (st:List ByteArray × List ByteArray) (s:ByteArray),s ∈ (ks.foldl (stepL f bn) st).1->s ∈ st.1\/∃ y ∈ ks,∃ B',s ∈ f y B'
 | [],st,s,h=>.inl h
 | x :: xs,st,s,h=>by
  rcases runL_mem f bn xs (stepL f bn st x) s h with h | ⟨y,hy,B',hs⟩
  . rcases onceS_mem _ _ s h with h | h
    . exact .inl h
    . exact .inr ⟨x,by simp,st.2,h⟩
  . exact .inr ⟨y,by simp [hy],B',hs⟩
theorem listV_mem {f:Ex->List ByteArray->List ByteArray} {bn:Ex->List ByteArray} {B:List ByteArray} {ks:List Ex} {s:ByteArray} (h:s ∈ listV f bn B ks):∃ y ∈ ks,∃ B',s ∈ f y B':=by
 rcases runL_mem f bn ks ([],B) s h with h | h
 . cases h
 . exact h
theorem runL_nd (f:Ex->List ByteArray->List ByteArray) (bn:Ex->List ByteArray):∀ (ks:List Ex) (st:List ByteArray × List ByteArray),NdK st.1->NdK (ks.foldl (stepL f bn) st).1
 | [],st,h=>h
 | x :: xs,st,h=>runL_nd f bn xs (stepL f bn st x) (onceS_nd _ _ h)
theorem listV_nd (f:Ex->List ByteArray->List ByteArray) (bn:Ex->List ByteArray) (B:List ByteArray) (ks:List Ex):NdK (listV f bn B ks):=runL_nd f bn ks _ (by simp [NdK])
def clF (f:Ex->List ByteArray->List ByteArray) (bn pt:Ex->List ByteArray) (B out:List ByteArray) (c:Cl):List ByteArray:=onceS out (listV f bn (foldV pt B c.1) c.2)
def freeV:Nat->Ex->List ByteArray->List ByteArray
 | 0,_,_=>[]
 | d+1,.mk k n t m ks cs,B=>match k,ks with
  | 2,_=>if hasS B t then [] else [t]
  | 9,[a,b]=>freeV d b B
  | _,ks=>cs.foldl (clF (freeV d) (bndV d) (patV d) (foldV (bndV d) B ks)) (listV (freeV d) (bndV d) B ks)
theorem freeV_var (d:Nat) (n:Int) (t m:ByteArray) (ks:List Ex) (cs:List Cl) (B:List ByteArray):freeV (d+1) (.mk 2 n t m ks cs) B=if hasS B t then [] else [t]:=rfl
theorem freeV_two (d:Nat) (n:Int) (t m:ByteArray) (a b:Ex) (cs:List Cl) (B:List ByteArray):freeV (d+1) (.mk 9 n t m [a,b] cs) B=freeV d b B:=rfl
theorem freeV_else (d:Nat) (k n:Int) (t m:ByteArray) (ks:List Ex) (cs:List Cl) (B:List ByteArray) (h2:k≠2) (h9:¬ (k=9/\ks.length=2)) :
 freeV (d+1) (.mk k n t m ks cs) B=cs.foldl (clF (freeV d) (bndV d) (patV d) (foldV (bndV d) B ks)) (listV (freeV d) (bndV d) B ks):=by
 conv=>lhs;unfold freeV
 split
 . exact absurd rfl h2
 . simp at h9
 . rfl
theorem clF_nd (f:Ex->List ByteArray->List ByteArray) (bn pt:Ex->List ByteArray) (B:List ByteArray):∀ (cs:List Cl) (l:List ByteArray),NdK l->NdK (cs.foldl (clF f bn pt B) l)
 | [],l,h=>h
 | c :: cs,l,h=>clF_nd f bn pt B cs _ (onceS_nd _ _ h)
theorem clF_mem (f:Ex->List ByteArray->List ByteArray) (bn pt:Ex->List ByteArray) (B:List ByteArray):∀ (cs:List Cl) (l:List ByteArray) (s:ByteArray),s ∈ cs.foldl (clF f bn pt B) l->s ∈ l\/∃ c ∈ cs,∃ y ∈ c.2,∃ B',s ∈ f y B'
 | [],l,s,h=>.inl h
 | c :: cs,l,s,h=>by
  rcases clF_mem f bn pt B cs _ s h with h | ⟨c',hc,r⟩
  . rcases onceS_mem _ _ s h with h | h
    . exact .inl h
    . obtain ⟨y,hy,B',hs⟩:=listV_mem h
      exact .inr ⟨c,by simp,y,hy,B',hs⟩
  . exact .inr ⟨c',by simp [hc],r⟩
theorem clF_snoc (f:Ex->List ByteArray->List ByteArray) (bn pt:Ex->List ByteArray) (B l:List ByteArray) (cs:List Cl) (k:Nat) (c:Cl) (h:cs[k]?=some c) :
 (cs.take (k+1)).foldl (clF f bn pt B) l=onceS ((cs.take k).foldl (clF f bn pt B) l) (listV f bn (foldV pt B c.1) c.2):=by
 rw [List.take_add_one,h];simp [clF]
theorem freeV_nd:∀ (d:Nat) (x:Ex) (B:List ByteArray),NdK (freeV d x B)
 | 0,_,_=>by simp [freeV,NdK]
 | d+1,.mk k n t m ks cs,B=>by
  by_cases h2:k=2
  . subst h2
    rw [freeV_var]
    split <;> simp [NdK]
  . by_cases h9:k=9/\ks.length=2
    . obtain ⟨rfl,hl⟩:=h9
      match ks,hl with
      | [a,b],_=>rw [freeV_two];exact freeV_nd d b B
    . rw [freeV_else d k n t m ks cs B h2 h9]
      exact clF_nd _ _ _ _ _ _ (listV_nd _ _ _ _)
theorem freeV_sub:∀ (d:Nat) (x:Ex) (B:List ByteArray),SubK (freeV d x B) (varL d x)
 | 0,_,_=>λs hs=>by simp [freeV] at hs
 | d+1,.mk k n t m ks cs,B=>λs hs=>by
  by_cases h2:k=2
  . subst h2
    rw [freeV_var] at hs
    split at hs
    . cases hs
    . simp at hs
      subst hs;show keyS s ∈ (if (2:Int)=2 then [keyS s] else []) ++ _;simp
  . by_cases h9:k=9/\ks.length=2
    . obtain ⟨rfl,hl⟩:=h9
      match ks,hl with
      | [a,b],_=>rw [freeV_two] at hs;exact varL_kid (by simp) (freeV_sub d b B s hs)
    . rw [freeV_else d k n t m ks cs B h2 h9] at hs
      rcases clF_mem _ _ _ _ _ _ s hs with h | ⟨c,hc,y,hy,B',h⟩
      . obtain ⟨y,hy,B',h⟩:=listV_mem h
        exact varL_kid hy (freeV_sub d y B' s h)
      . exact varL_cl hc (.inr hy) (freeV_sub d y B' s h)
theorem freeV_ok:∀ (d:Nat) (x:Ex) (B:List ByteArray),exS d x->∀ s ∈ freeV d x B,okS s
 | 0,_,_,h,_,_=>h.elim
 | d+1,.mk k n t m ks cs,B,hx,s,hs=>by
  by_cases h2:k=2
  . subst h2
    rw [freeV_var] at hs
    split at hs
    . cases hs
    . simp at hs
      subst hs;exact hx.1
  . by_cases h9:k=9/\ks.length=2
    . obtain ⟨rfl,hl⟩:=h9
      match ks,hl with
      | [a,b],_=>rw [freeV_two] at hs;exact freeV_ok d b B (hx.2.1 b (by simp)) s hs
    . rw [freeV_else d k n t m ks cs B h2 h9] at hs
      rcases clF_mem _ _ _ _ _ _ s hs with h | ⟨c,hc,y,hy,B',h⟩
      . obtain ⟨y,hy,B',h⟩:=listV_mem h
        exact freeV_ok d y B' (hx.2.1 y hy) s h
      . exact freeV_ok d y B' ((hx.2.2 c hc).2 y hy) s h
theorem freeV_len (d:Nat) (x:Ex) (B:List ByteArray):(freeV d x B).length<=1+wtEx d x:=Nat.le_trans ((freeV_nd d x B).len (freeV_sub d x B)) (varL_len d x)
theorem listV_len (d:Nat) (B:List ByteArray) (ks:List Ex):(listV (freeV d) (bndV d) B ks).length<=wtS (wtEx d) ks:=by
 have h1:=(listV_nd (freeV d) (bndV d) B ks).len (m:=ks.flatMap (varL d)) (λs hs=>by
  obtain ⟨y,hy,B',h⟩:=listV_mem hs
  exact List.mem_flatMap.2 ⟨y,hy,freeV_sub d y B' s h⟩)
 exact Nat.le_trans h1 (flat_len (varL d) (wtEx d) ks (λy _=>varL_len d y))
section
open Go.Proofs.Tryz
def FrC (d:Nat):Prop:=∀ (w:World) (cs:List Value) (x:Ex) (bv:Value) (B:List ByteArray),HEx w All d cs x->StrV w bv B->wtEx d x<=16777216->B.length+wtEx d x<=67108864 ->
 Calls prog 161 #[.agg cs.toArray,bv] w λe w'=>∃ u,e=.returned u/\OwnS w' w.heap.size u (freeV d x B)/\Bz w w'
def LsC (d:Nat):Prop:=∀ (w:World) (v:Value) (ks:List Ex) (bv:Value) (B:List ByteArray),Rows w All 6 (HEx w All d) v ks->StrV w bv B->wtS (wtEx d) ks<=16777216->B.length+wtS (wtEx d) ks<=67108864 ->
 Calls prog 133 #[v,bv] w λe w'=>∃ u,e=.returned u/\OwnS w' w.heap.size u (listV (freeV d) (bndV d) B ks)/\Bz w w'
theorem StrV.below {w w':World} {v:Value} {xs:List ByteArray} (h:StrV w v xs) (hb:Bz w w'):StrV w' v xs:=h.next (sqO hb)
theorem wtS_kid {d:Nat} {ks:List Ex} {k:Nat} {y:Ex} (h:ks[k]?=some y):wtS (wtEx d) (ks.take k)+1+wtEx d y<=wtS (wtEx d) ks/\k<=ks.length:=by
 have h1:=sum_take_succ (wtEx d) ks k y h;have h2:=sum_take_le (wtEx d) ks (k+1);have h3:=(List.getElem?_eq_some_iff.1 h).1;have h4:(ks.take k).length=k:=(by rw [List.length_take];omega);unfold wtS;omega
theorem list_of {d:Nat} (hF:FrC d):LsC d:=by
 intro w v ks bv B hr hB hwt hbt;have OB:=hB.1.okS
 have EXS:Hid (∀ y ∈ ks,exS d y):=λy hy=>by
  obtain ⟨cs,h⟩:=rows_mem' hr y hy;exact h.txts
 obtain ⟨p,cap,rfl,hcl,hcm,hx⟩:=hr;have hnb:=sqM hcl hcm;have HX:=hid hx;have HSB:=hid hB;have HWT:=hid hwt;have HBT:=hid hbt;have HOB:=hid OB;clear hx hB hwt hbt OB;generalize hn:ks.length=n at *;have HN:=hid hn;clear hn;go_enter func133,ntmps133;go_wp2_with fail;have BA:Bz w (w.alloc (.cells #[] 9)):=(sqN _ _)
 go_loopw [1,5,6] (λbu ov iv wr=>∃ k:Nat,k<=n/\iv=.int .i64 k/\Hid (OwnS wr w.heap.size ov (listV (freeV d) (bndV d) B (ks.take k)))/\Hid (StrV wr bu (foldV (bndV d) B (ks.take k)))/\Hid (Bz w wr)) (λ_ _ iv _=>n - (intOf iv).toNat)
 case atStart=>exact ⟨0,Nat.zero_le _,rfl,OwnS.fresh,HSB.out.below BA,BA⟩
 case round =>
  clear BA;obtain ⟨k,hk,rfl,HO,HS,HB⟩:=hrel;by_cases hlt:k<n
  . obtain ⟨x,hxk⟩:=sqA (l:=ks) (k:=k) HN.out hlt
    obtain ⟨g,off,rfl,-,hgl,hat⟩:=HX.out (sqE hxk);obtain ⟨cs,hcsl,hcs,r1⟩:=hat k x hxk;have E1:Hid (∀ w',Bz w w'->HEx w' All d cs x):=λw' hw=>r1.mono (sqO hw) sqj;have C1:Hid (∀ w',Bz w w'->∀ j,j<6->w'.cell? ⟨g,off+k * 6+j,none⟩=cs[j]?):=λw' hw j hj=>(hw.cell (p:=⟨g,_,none⟩) hgl).trans (hcs j hj);obtain ⟨c0,c1,c2,c3,c4,c5,rfl⟩:=len6 hcsl;have a0:=C1.out wr HB.out 0 (by omega);have a1:=C1.out wr HB.out 1 (by omega);have a2:=C1.out wr HB.out 2 (by omega);have a3:=C1.out wr HB.out 3 (by omega);have a4:=C1.out wr HB.out 4 (by omega);have a5:=C1.out wr HB.out 5 (by omega);simp at a0 a1 a2 a3 a4 a5;have hki:(k:Int)<(n:Int):=(by omega);have hk0:=sqI k;obtain ⟨wk,-⟩:=wtS_kid (d:=d) hxk;have lb:=foldV_len (bndV d) (wtEx d) (ks.take k) B (λy _=>bndV_len d y);have lo:=listV_len d B (ks.take k);have ex:=EXS.out x (List.mem_of_getElem? hxk);have hw1:=HWT.out;have hb1:=HBT.out;have wx:wtEx d x<=16777216:=(by omega);have lf:=freeV_len d x (foldV (bndV d) B (ks.take k));have ln:=bndV_len d x;have HJ:Hid (listV (freeV d) (bndV d) B (ks.take (k+1))=onceS (listV (freeV d) (bndV d) B (ks.take k)) (freeV d x (foldV (bndV d) B (ks.take k)))):=listV_snoc _ _ B ks k x hxk;have HJB:Hid (foldV (bndV d) B (ks.take (k+1))=onceS (foldV (bndV d) B (ks.take k)) (bndV d x)):=foldV_snoc _ _ ks k x hxk
    have OJ:Hid (∀ s ∈ listV (freeV d) (bndV d) B (ks.take k),okS s):=λs hs=>by
     obtain ⟨y,hy,B',h⟩:=listV_mem hs;exact freeV_ok d y B' (EXS.out y (List.mem_of_mem_take hy)) s h
    have OF:Hid (∀ B',∀ s ∈ freeV d x B',okS s):=λB' s hs=>freeV_ok d x B' ex s hs;have ON:Hid (∀ s ∈ bndV d x,okS s):=λs hs=>bndV_ok d x ex s hs
    have OS:Hid (∀ s ∈ onceS (foldV (bndV d) B (ks.take k)) (bndV d x),okS s):=λs hs=>by
     rcases onceS_mem _ _ s hs with h | h
     . exact HS.out.1.okS s h
     . exact ON.out s h
    generalize foldV (bndV d) B (ks.take k)=FB at *;generalize listV (freeV d) (bndV d) B (ks.take k)=LJ at *;have lb1:FB.length+wtEx d x<=67108864:=(by omega);have lo1:LJ.length<=16777216:=(by omega);clear hcs hat hcsl r1 hw1 hb1 lb lo wk;go_wp2_with fail;refine (hF _ _ x _ FB (E1.out _ HB.out) HS.out wx (by omega)).mono ?_;rintro e w4 ⟨u4,rfl,ho4,hb4⟩;have HB4:=hid (HB.out.trans (hb4.mono HB.out.size));have SV:Hid (StrV w4 u5 LJ):=(HO.out.next hb4).strV OJ.out;have SR:=hid (ho4.strR (OF.out FB));have SB4:=hid (HS.out.below hb4);clear hb4 ho4 a0 a1 a2 a3 a4 a5;go_wp2_with fail;refine (once_any _ _ _ LJ (freeV d x FB) SV.out SR.out (by omega)).mono ?_;rintro e w5 ⟨u6',rfl,ho5,hb5⟩;have HB5:=hid (HB4.out.trans (hb5.mono HB4.out.size));have HO5:=hid (ho5.base HB4.out.size);have SB5:=hid (SB4.out.below hb5);clear hb5 ho5;have a0:=C1.out w5 HB5.out 0 (by omega);have a1:=C1.out w5 HB5.out 1 (by omega);have a2:=C1.out w5 HB5.out 2 (by omega);have a3:=C1.out w5 HB5.out 3 (by omega);have a4:=C1.out w5 HB5.out 4 (by omega);have a5:=C1.out w5 HB5.out 5 (by omega);simp at a0 a1 a2 a3 a4 a5;go_wp2_with fail;refine (bound_all d _ _ x (E1.out _ HB5.out) wx).mono ?_;rintro e w6 ⟨u7',rfl,ho6,hb6⟩;have HB6:=hid (HB5.out.trans (hb6.mono HB5.out.size));have SV6:=hid (SB5.out.below hb6);have SR6:=hid (ho6.strR ON.out);have HO6:=hid (HO5.out.next hb6);clear hb6 ho6 a0 a1 a2 a3 a4 a5;go_wp2_with fail;refine (once_any _ _ _ FB (bndV d x) SV6.out SR6.out (by omega)).mono ?_;rintro e w7 ⟨u8',rfl,ho7,hb7⟩;have HB7:=hid (HB6.out.trans (hb7.mono HB6.out.size));have SV7:=hid (ho7.strV OS.out);have HO7:=hid (HO6.out.next hb7);clear hb7 ho7;go_wp2_with fail;exact ⟨⟨k+1,by omega,by go_num,by show OwnS _ _ _ _;rw [HJ.out];exact HO7.out,by show StrV _ _ _;rw [HJB.out];exact SV7.out,HB7.out⟩,by simp [intOf];omega⟩
  . have HS':Hid (OwnS wr w.heap.size u5 (listV (freeV d) (bndV d) B ks)):=by
     have:=HO.out
     rwa [List.take_of_length_le (by rw [HN.out];omega)] at this
    go_wp2;go_ret;exact ⟨_,rfl,HS'.out,HB.out⟩
end
end Go.Proofs.YtbdhpganbbandaaGreatDoor
