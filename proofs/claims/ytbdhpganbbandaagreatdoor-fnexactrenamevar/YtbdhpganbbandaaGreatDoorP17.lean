/-
  NameSpecI NameMath5
-/
import Derived.Test.YtbdhpganbbandaaGreatDoorP16
set_option maxHeartbeats 16000000
set_option linter.unusedVariables false
set_option maxRecDepth 100000
namespace Go.Proofs.YtbdhpganbbandaaGreatDoor
open Go.ChangeShapes Go.WideShapes Go.ChangeAt Go.RowKit
section
open Go.Proofs.Tryz
theorem OwnS.one {w:World} {s:ByteArray}:OwnS (w.alloc (.cells #[.string s] 9)) w.heap.size (.slice (some ⟨w.heap.size,0,none⟩) 1 1) [s]:=by
 refine ⟨⟨by simp [strs],.inr ⟨w.heap.size,1,#[.string s],rfl,Nat.le_refl _,?_,Nat.le_refl _,by unfold maxLen;omega,rfl,rfl⟩⟩,by simp⟩;exact Blk.new (w:=w) (cs:=#[.string s]) (t:=9)
theorem free_var {d:Nat} (w:World) (cs:List Value) (nx:Int) (tx mx:ByteArray) (ks:List Ex) (cl:List Cl) (bv:Value) (B:List ByteArray) (h:HEx w All (d+1) cs (.mk 2 nx tx mx ks cl)) (hB:StrV w bv B) :
 Calls prog 161 #[.agg cs.toArray,bv] w λe w'=>∃ u,e=.returned u/\OwnS w' w.heap.size u (freeV (d+1) (.mk 2 nx tx mx ks cl) B)/\Bz w w':=by
 rw [freeV_var];obtain ⟨kv,cv,rfl,-,-,hts,hms,f0,f1⟩:=h;simp only [Ex.kind,Ex.n,Ex.text,Ex.mod,Ex.kids,Ex.clauses] at *;obtain ⟨p,cap,rfl,-⟩:=f0;obtain ⟨pc,capc,rfl,-⟩:=f1;have BA:Bz w (w.alloc (.cells #[.int .i64 2,.int .i64 nx,.string tx,.string mx,.slice p ks.length cap,.slice pc cl.length capc] 74)):=(sqN _ _);have SB:=hid (hB.below BA);have HBA:=hid BA;have bA:Hid (Blk (w.alloc (.cells #[.int .i64 2,.int .i64 nx,.string tx,.string mx,.slice p ks.length cap,.slice pc cl.length capc] 74)) w.heap.size #[.int .i64 2,.int .i64 nx,.string tx,.string mx,.slice p ks.length cap,.slice pc cl.length capc] 74):=Blk.new;clear BA hB;by_cases hh:hasS B tx=true
 . rw [if_pos hh]
   go_enter func161,ntmps161;go_wp2_with fail;refine (hasS_any _ _ B tx SB.out.1).mono ?_;rintro e w1 ⟨rfl,rfl⟩;rw [hh];go_wp2;go_ret;exact ⟨_,rfl,by have:=(OwnS.fresh (w:=w.alloc (.cells #[.int .i64 2,.int .i64 nx,.string tx,.string mx,.slice p ks.length cap,.slice pc cl.length capc] 74))).base HBA.out.size;rwa [alloc_hs] at this,HBA.out.alloc HBA.out.size _⟩
 . rw [if_neg hh]
   have hh':hasS B tx=false:=(by simpa using hh);go_enter func161,ntmps161;go_wp2_with fail;refine (hasS_any _ _ B tx SB.out.1).mono ?_;rintro e w1 ⟨rfl,rfl⟩;rw [hh'];go_wp2;go_ret;exact ⟨_,rfl,by have:=(OwnS.one (w:=w.alloc (.cells #[.int .i64 2,.int .i64 nx,.string tx,.string mx,.slice p ks.length cap,.slice pc cl.length capc] 74)) (s:=tx)).base HBA.out.size;rwa [alloc_hs] at this,HBA.out.alloc HBA.out.size _⟩
theorem free_two {d:Nat} (hF:FrC d) (w:World) (cs:List Value) (nx:Int) (tx mx:ByteArray) (ya yb:Ex) (cl:List Cl) (bv:Value) (B:List ByteArray) (h:HEx w All (d+1) cs (.mk 9 nx tx mx [ya,yb] cl)) (hB:StrV w bv B) (hwt:wtEx (d+1) (.mk 9 nx tx mx [ya,yb] cl)<=16777216) (hbt:B.length+wtEx (d+1) (.mk 9 nx tx mx [ya,yb] cl)<=67108864) :
 Calls prog 161 #[.agg cs.toArray,bv] w λe w'=>∃ u,e=.returned u/\OwnS w' w.heap.size u (freeV (d+1) (.mk 9 nx tx mx [ya,yb] cl) B)/\Bz w w':=by
 rw [freeV_two];have hw:wtEx (d+1) (.mk 9 nx tx mx [ya,yb] cl)=tx.size+mx.size+wtS (wtEx d) [ya,yb]+wtS (wtCl (wtEx d)) cl:=rfl;have h6:wtS (wtEx d) [ya,yb]=2+(wtEx d ya+wtEx d yb):=(by simp [wtS]);have wb:wtEx d yb<=16777216:=(by omega);have wb2:B.length+wtEx d yb<=67108864:=(by omega);clear hw h6 hwt hbt;obtain ⟨kv,cv,rfl,-,-,hts,hms,f0,f1⟩:=h;simp only [Ex.kind,Ex.n,Ex.text,Ex.mod,Ex.kids,Ex.clauses] at *;obtain ⟨p,cap,rfl,-,-,hx⟩:=f0;obtain ⟨pc,capc,rfl,-⟩:=f1;obtain ⟨g,off,rfl,-,hgl,hat⟩:=hx (by simp);obtain ⟨cs,hcsl,hcs,rb⟩:=hat 1 yb rfl;simp only [List.length_cons,List.length_nil] at *;have bA:Hid (Blk (w.alloc (.cells #[.int .i64 9,.int .i64 nx,.string tx,.string mx,.slice (some ⟨g,off,none⟩) 2 cap,.slice pc cl.length capc] 74)) w.heap.size #[.int .i64 9,.int .i64 nx,.string tx,.string mx,.slice (some ⟨g,off,none⟩) 2 cap,.slice pc cl.length capc] 74):=Blk.new;have B1:Hid (Bz w (w.alloc (.cells #[.int .i64 9,.int .i64 nx,.string tx,.string mx,.slice (some ⟨g,off,none⟩) 2 cap,.slice pc cl.length capc] 74))):=(sqN _ _);have EB:=hid (rb.mono (sqO B1.out) sqj);have SB:=hid (hB.below B1.out);obtain ⟨c0,c1,c2,c3,c4,c5,rfl⟩:=len6 hcsl;have a0:=(B1.out.cell (p:=⟨g,_,none⟩) hgl).trans (hcs 0 (by omega));have a1:=(B1.out.cell (p:=⟨g,_,none⟩) hgl).trans (hcs 1 (by omega));have a2:=(B1.out.cell (p:=⟨g,_,none⟩) hgl).trans (hcs 2 (by omega));have a3:=(B1.out.cell (p:=⟨g,_,none⟩) hgl).trans (hcs 3 (by omega));have a4:=(B1.out.cell (p:=⟨g,_,none⟩) hgl).trans (hcs 4 (by omega));have a5:=(B1.out.cell (p:=⟨g,_,none⟩) hgl).trans (hcs 5 (by omega));simp at a0 a1 a2 a3 a4 a5;have x4:=bA.out.cell 4 _ rfl;clear hx hat hcs hcsl rb hB;go_enter func161,ntmps161;go_wp2_with fail;refine (hF _ _ yb _ B EB.out SB.out wb wb2).mono ?_;rintro e w2 ⟨u2,rfl,ho2,hb2⟩;have HO:=hid (ho2.base B1.out.size);have HB:=hid (B1.out.trans (hb2.mono B1.out.size));clear ho2 hb2;go_wp2;go_ret;exact ⟨_,rfl,HO.out,HB.out⟩
theorem free_else {d:Nat} (hL:LsC d) (w:World) (cs:List Value) (kx nx:Int) (tx mx:ByteArray) (ks:List Ex) (cl:List Cl) (bv:Value) (B:List ByteArray) (h2:kx≠2) (h92:¬ (kx=9/\ks.length=2)) (h:HEx w All (d+1) cs (.mk kx nx tx mx ks cl)) (hB:StrV w bv B) (hwt:wtEx (d+1) (.mk kx nx tx mx ks cl)<=16777216) (hbt:B.length+wtEx (d+1) (.mk kx nx tx mx ks cl)<=67108864) :
 Calls prog 161 #[.agg cs.toArray,bv] w λe w'=>∃ u,e=.returned u/\OwnS w' w.heap.size u (freeV (d+1) (.mk kx nx tx mx ks cl) B)/\Bz w w':=by
 rw [freeV_else d kx nx tx mx ks cl B h2 h92];have hok:=h.txts;have hw:wtEx (d+1) (.mk kx nx tx mx ks cl)=tx.size+mx.size+wtS (wtEx d) ks+wtS (wtCl (wtEx d)) cl:=rfl;have wks:wtS (wtEx d) ks<=16777216:=(by omega);have wkb:B.length+wtS (wtEx d) ks<=67108864:=(by omega);have lfb:=foldV_len (bndV d) (wtEx d) ks B (λy _=>bndV_len d y)
 -- what has been gathered
 have GQ:Hid (∀ i,Got (d+1) (.mk kx nx tx mx ks cl) ((cl.take i).foldl (clF (freeV d) (bndV d) (patV d) (foldV (bndV d) B ks)) (listV (freeV d) (bndV d) B ks))):=λi=>by
  refine ⟨clF_nd _ _ _ _ _ _ (listV_nd _ _ _ _),λs hs=>?_,λs hs=>?_⟩
  . rcases clF_mem _ _ _ _ _ _ s hs with h | ⟨c,hc,y,hy,B',h⟩
    . obtain ⟨y,hy,B',h⟩:=listV_mem h
      exact varL_kid hy (freeV_sub d y B' s h)
    . exact varL_cl (List.mem_of_mem_take hc) (.inr hy) (freeV_sub d y B' s h)
  . rcases clF_mem _ _ _ _ _ _ s hs with h | ⟨c,hc,y,hy,B',h⟩
    . obtain ⟨y,hy,B',h⟩:=listV_mem h
      exact freeV_ok d y B' (hok.2.1 y hy) s h
    . exact freeV_ok d y B' ((hok.2.2 c (List.mem_of_mem_take hc)).2 y hy) s h
 have LQ:Hid (∀ i,((cl.take i).foldl (clF (freeV d) (bndV d) (patV d) (foldV (bndV d) B ks)) (listV (freeV d) (bndV d) B ks)).length<=16777217):=λi=>(GQ.out i).len hwt
 -- how the kids and the clauses are bounded
 have BK:Hid (∀ (j:Nat) y,ks[j]?=some y->wtEx d y<=16777216/\exS d y/\(foldV (bndV d) B (ks.take j)).length<=67108864):=λj y hj=>by
  obtain ⟨h1,-⟩:=wtS_kid (d:=d) hj;have h3:=foldV_len (bndV d) (wtEx d) (ks.take j) B (λy _=>bndV_len d y);exact ⟨by omega,hok.2.1 y (List.mem_of_getElem? hj),by omega⟩
 have BC:Hid (∀ (i:Nat) c,cl[i]?=some c->wtS (wtEx d) c.1<=16777216/\wtS (wtEx d) c.2<=16777216/\(foldV (bndV d) B ks).length+wtS (wtEx d) c.1+wtS (wtEx d) c.2<=67108864/\(∀ y ∈ c.1,exS d y)/\∀ y ∈ c.2,exS d y):=λi c hi=>by
  have h1:=sum_take_succ (wtCl (wtEx d)) cl i c hi;have h3:=sum_take_le (wtCl (wtEx d)) cl (i+1);have hc:wtCl (wtEx d) c=wtS (wtEx d) c.1+wtS (wtEx d) c.2:=rfl;have h4:wtCl (wtEx d) c<=wtS (wtCl (wtEx d)) cl:=(by unfold wtS;omega);have hm:=List.mem_of_getElem? hi;exact ⟨by omega,by omega,by omega,(hok.2.2 c hm).1,(hok.2.2 c hm).2⟩
 have OB:=hB.1.okS;have HOB:=hid OB;obtain ⟨kv,cv,rfl,-,-,hts,hms,f0,f1⟩:=h;simp only [Ex.kind,Ex.n,Ex.text,Ex.mod,Ex.kids,Ex.clauses] at *;have F0:=hid f0;obtain ⟨p,cap,rfl,hcl,hcm,hx⟩:=f0;obtain ⟨pc,capc,rfl,hcl',hcm',hxc⟩:=f1;have hnb:=sqM hcl hcm;have hnc:=sqM hcl' hcm';have HX:=hid hx;have HXC:=hid hxc;have HSB:=hid hB;clear hx hxc hok hw hwt hbt hB OB lfb;generalize hn:ks.length=n at *;have HN:=hid hn;generalize hm:cl.length=nc at *;have HNC:=hid hm;clear hn hm;have h2b:(kx == 2)=false:=(by simpa using h2);by_cases k9:kx=9
 . subst k9
   have hn2:¬ n=2:=λh=>h92 ⟨rfl,h⟩;have hn2b:((n:Int) == 2)=false:=(by simp;omega);clear h92 h2 h2b;have bA:Hid (Blk (w.alloc (.cells #[.int .i64 9,.int .i64 nx,.string tx,.string mx,.slice p n cap,.slice pc nc capc] 74)) w.heap.size #[.int .i64 9,.int .i64 nx,.string tx,.string mx,.slice p n cap,.slice pc nc capc] 74):=Blk.new;have BA:Hid (Bz w (w.alloc (.cells #[.int .i64 9,.int .i64 nx,.string tx,.string mx,.slice p n cap,.slice pc nc capc] 74))):=(sqN _ _);go_enter func161,ntmps161;go_wp2_with fail;refine (hL _ _ ks _ B (Rows.mono F0.out (sqO BA.out) sqj (λ_ _ _ h=>h.mono (sqO BA.out) sqj)) (HSB.out.below BA.out) wks wkb).mono ?_;rintro e w1 ⟨uo,rfl,ho1,hb1⟩;have O1:=hid (ho1.base BA.out.size);have B1:=hid (BA.out.trans (hb1.mono BA.out.size));have b1:=hid (bA.out.next hb1);have S1:=hid (HSB.out.below B1.out);clear ho1 hb1 bA BA F0;go_wp2_with fail
   go_loopw [1,6] (λbu iv wr=>∃ k:Nat,k<=n/\iv=.int .i64 k/\Hid (StrV wr bu (foldV (bndV d) B (ks.take k)))/\Hid (OwnS wr w.heap.size uo (listV (freeV d) (bndV d) B ks))/\Hid (Blk wr w.heap.size #[.int .i64 9,.int .i64 nx,.string tx,.string mx,.slice p n cap,.slice pc nc capc] 74)/\Hid (Bz w wr)) (λ_ iv _=>n - (intOf iv).toNat)
   case atStart=>exact ⟨0,Nat.zero_le _,rfl,S1.out,O1.out,b1.out,B1.out⟩
   case round =>
    obtain ⟨k,hk,rfl,hs,ho,hbk,HB⟩:=hrel;clear O1 b1 B1 S1;have xa4:=hbk.out.cell 4 _ rfl;have xa5:=hbk.out.cell 5 _ rfl;by_cases hlt:k<n
    . obtain ⟨x,hxk⟩:=sqA (l:=ks) (k:=k) HN.out hlt
      obtain ⟨g,off,rfl,-,hgl,hat⟩:=HX.out (sqE hxk);obtain ⟨cs,hcsl,hcs,r1⟩:=hat k x hxk;have E1:∀ w',Bz w w'->HEx w' All d cs x:=λw' hw=>r1.mono (sqO hw) sqj;obtain ⟨c0,c1,c2,c3,c4,c5,rfl⟩:=len6 hcsl;obtain ⟨a0,a1,a2,a3,a4,a5⟩:=sqC6 hcs (by omega);rw [<-HB.out.cell (p:=⟨g,_,none⟩) hgl] at a0 a1 a2 a3 a4 a5;simp at a0 a1 a2 a3 a4 a5;have hki:(k:Int)<(n:Int):=(by omega);have hk0:=sqI k;obtain ⟨wx,ex,lq⟩:=BK.out k x hxk;have lx:=bndV_len d x;have HJ:Hid (foldV (bndV d) B (ks.take (k+1))=onceS (foldV (bndV d) B (ks.take k)) (bndV d x)):=foldV_snoc _ _ ks k x hxk;have ON:Hid (∀ s ∈ bndV d x,okS s):=λs hs=>bndV_ok d x ex s hs
      have OS:Hid (∀ s ∈ onceS (foldV (bndV d) B (ks.take k)) (bndV d x),okS s):=λs hs'=>by
       rcases onceS_mem _ _ s hs' with h | h
       . exact hs.out.1.okS s h
       . exact ON.out s h
      generalize foldV (bndV d) B (ks.take k)=J at *;clear hcs hat hcsl r1;go_wp2_with fail;refine (bound_all d _ _ x (E1 _ HB.out) wx).mono ?_;rintro e w4 ⟨u4',rfl,ho4,hb4⟩;have HB4:=hid (HB.out.trans (hb4.mono HB.out.size));have SV:=hid (hs.out.below hb4);have SR:=hid (ho4.strR ON.out);have HO4:=hid (ho.out.next hb4);have bk4:=hid (hbk.out.next hb4);clear hb4 ho4 xa4 xa5 a0 a1 a2 a3 a4 a5;go_wp2_with fail;refine (once_any _ _ _ J (bndV d x) SV.out SR.out (by omega)).mono ?_;rintro e w5 ⟨u5',rfl,ho5,hb5⟩;have HB5:=hid (HB4.out.trans (hb5.mono HB4.out.size));have SV5:=hid (ho5.strV OS.out);have HO5:=hid (HO4.out.next hb5);have bk5:=hid (bk4.out.next hb5);clear hb5 ho5;go_wp2_with fail;exact ⟨⟨k+1,by omega,by go_num,by show StrV _ _ _;rw [HJ.out];exact SV5.out,HO5.out,bk5.out,HB5.out⟩,by simp [intOf];omega⟩
    . have HS:Hid (StrV wr u1 (foldV (bndV d) B ks)):=by
       have:=hs.out
       rwa [List.take_of_length_le (by rw [HN.out];omega)] at this
      clear hs;have HS0:=HS;have ho0:=ho;have hbk0:=hbk;have HB0:=HB;clear HS ho hbk HB;go_wp2_with fail
      go_loopw [5,7] (λov iv wr=>∃ i:Nat,i<=nc/\iv=.int .i64 i/\Hid (OwnS wr w.heap.size ov ((cl.take i).foldl (clF (freeV d) (bndV d) (patV d) (foldV (bndV d) B ks)) (listV (freeV d) (bndV d) B ks)))/\Hid (StrV wr u1 (foldV (bndV d) B ks))/\Hid (Blk wr w.heap.size #[.int .i64 9,.int .i64 nx,.string tx,.string mx,.slice p n cap,.slice pc nc capc] 74)/\Hid (Bz w wr)) (λ_ iv _=>nc - (intOf iv).toNat)
      case atStart=>exact ⟨0,Nat.zero_le _,rfl,ho0.out,HS0.out,hbk0.out,HB0.out⟩
      case round =>
       clear HS0 ho0 hbk0 HB0 xa4 xa5;obtain ⟨i,hi,rfl,hoi,hsi,hbi,HBi⟩:=hrel;have xa5:=hbi.out.cell 5 _ rfl;by_cases hlt:i<nc
       . obtain ⟨c,hci⟩:∃ c,cl[i]?=some c:=⟨cl[i]'(by rw [HNC.out];exact hlt),List.getElem?_eq_getElem _⟩
         obtain ⟨gc,oc,rfl,-,hgcl,hatc⟩:=HXC.out (sqE hci);obtain ⟨csc,hcsl2,hcsc,pv,bdv,rfl,rp,rb⟩:=hatc i c hci;obtain ⟨wc1,wc2,wc3,ec1,ec2⟩:=BC.out i c hci;have RB:Hid (∀ w',Bz w w'->Rows w' All 6 (HEx w' All d) bdv c.2):=λw' hw=>Rows.mono rb (sqO hw) sqj (λ_ _ _ h=>h.mono (sqO hw) sqj);obtain ⟨pp,capp,rfl,hclp,hcmp,hxp⟩:=rp;obtain ⟨pb,capb,rfl,-⟩:=id rb;have hnp:c.1.length<=9223372036854775807:=(by unfold maxLen at hcmp;omega);have HXP:=hid hxp;have HC0:Hid (w.cell? ⟨gc,oc+i * 2,none⟩=some (.slice pp c.1.length capp)):=(by show _=_;simpa using hcsc 0 (by omega));have HC1:Hid (w.cell? ⟨gc,oc+i * 2+1,none⟩=some (.slice pb c.2.length capb)):=(by show _=_;simpa using hcsc 1 (by omega));have HCI:Hid ((cl.take (i+1)).foldl (clF (freeV d) (bndV d) (patV d) (foldV (bndV d) B ks)) (listV (freeV d) (bndV d) B ks)=onceS ((cl.take i).foldl (clF (freeV d) (bndV d) (patV d) (foldV (bndV d) B ks)) (listV (freeV d) (bndV d) B ks)) (listV (freeV d) (bndV d) (foldV (patV d) (foldV (bndV d) B ks) c.1) c.2)):=clF_snoc _ _ _ _ _ cl i c hci;have lq:=LQ.out i;have OJ:Hid (∀ s ∈ (cl.take i).foldl (clF (freeV d) (bndV d) (patV d) (foldV (bndV d) B ks)) (listV (freeV d) (bndV d) B ks),okS s):=(GQ.out i).ok
         have BP:Hid (∀ (j:Nat) y,c.1[j]?=some y->wtEx d y<=16777216/\exS d y/\(foldV (patV d) (foldV (bndV d) B ks) (c.1.take j)).length<=67108864):=λj y hj=>by
          obtain ⟨h1,-⟩:=wtS_kid (d:=d) hj;have h3:=foldV_len (patV d) (wtEx d) (c.1.take j) (foldV (bndV d) B ks) (λy _=>patV_len d y);exact ⟨by omega,ec1 y (List.mem_of_getElem? hj),by omega⟩
         have LIN:Hid ((foldV (patV d) (foldV (bndV d) B ks) c.1).length+wtS (wtEx d) c.2<=67108864):=by
          have h3:=foldV_len (patV d) (wtEx d) c.1 (foldV (bndV d) B ks) (λy _=>patV_len d y);show _<=_;omega
         have LBD:Hid (∀ B',(listV (freeV d) (bndV d) B' c.2).length<=16777216):=λB'=>Nat.le_trans (listV_len d B' c.2) wc2
         have OBD:Hid (∀ B',∀ s ∈ listV (freeV d) (bndV d) B' c.2,okS s):=λB' s hs=>by
          obtain ⟨y,hy,B2,h⟩:=listV_mem hs;exact freeV_ok d y B2 (ec2 y hy) s h
         have hii:(i:Int)<(nc:Int):=(by omega);have hi0:=sqI i;have xc0:=(HBi.out.cell (p:=⟨gc,oc+i * 2,none⟩) hgcl).trans HC0.out;have xc1:=(HBi.out.cell (p:=⟨gc,oc+i * 2+1,none⟩) hgcl).trans HC1.out;generalize hnp0:c.1.length=np at *;have HNP:=hid hnp0;generalize (cl.take i).foldl (clF (freeV d) (bndV d) (patV d) (foldV (bndV d) B ks)) (listV (freeV d) (bndV d) B ks)=OI at *;generalize hFB:foldV (bndV d) B ks=FB at *;have HFB:=hid hFB;have HSI:=hsi;have HOI:=hoi;have HBI2:=hbi;have HBB:=HBi;clear hcsc hcsl2 hatc hxp rb hnp0 hFB hsi hoi hbi HBi wc1 wc3 ec1 ec2 hclp hcmp;go_wp2_with fail;clear xc0 xc1 xa5
         go_loopw [8,9] (λbu iv wr=>∃ k:Nat,k<=np/\iv=.int .i64 k/\Hid (StrV wr bu (foldV (patV d) FB (c.1.take k)))/\Hid (OwnS wr w.heap.size u5 OI)/\Hid (StrV wr u1 FB)/\Hid (Blk wr w.heap.size #[.int .i64 9,.int .i64 nx,.string tx,.string mx,.slice p n cap,.slice (some ⟨gc,oc,none⟩) nc capc] 74)/\Hid (Bz w wr)) (λ_ iv _=>np - (intOf iv).toNat)
         case atStart=>exact ⟨0,Nat.zero_le _,rfl,HSI.out,HOI.out,HSI.out,HBI2.out,HBB.out⟩
         case round =>
          clear HSI HOI HBI2 HBB;obtain ⟨k,hk,rfl,hs,ho,hsf,hbk,HB⟩:=hrel;have xa5:=hbk.out.cell 5 _ rfl;have xc0:=(HB.out.cell (p:=⟨gc,oc+i * 2,none⟩) hgcl).trans HC0.out;have xc1:=(HB.out.cell (p:=⟨gc,oc+i * 2+1,none⟩) hgcl).trans HC1.out;by_cases hlk:k<np
          . obtain ⟨x,hxk⟩:∃ x,c.1[k]?=some x:=⟨c.1[k]'(by rw [HNP.out];exact hlk),List.getElem?_eq_getElem _⟩
            obtain ⟨g,off,rfl,-,hgl,hat⟩:=HXP.out (sqE hxk);obtain ⟨cs,hcsl,hcs,r1⟩:=hat k x hxk;have E1:∀ w',Bz w w'->HEx w' All d cs x:=λw' hw=>r1.mono (sqO hw) sqj;obtain ⟨c0,c1,c2,c3,c4,c5,rfl⟩:=len6 hcsl;obtain ⟨a0,a1,a2,a3,a4,a5⟩:=sqC6 hcs (by omega);rw [<-HB.out.cell (p:=⟨g,_,none⟩) hgl] at a0 a1 a2 a3 a4 a5;simp at a0 a1 a2 a3 a4 a5;have hki:(k:Int)<(np:Int):=(by omega);have hk0:=sqI k;obtain ⟨wx,ex,lj⟩:=BP.out k x hxk;have lx:=patV_len d x;have HJ:Hid (foldV (patV d) FB (c.1.take (k+1))=onceS (foldV (patV d) FB (c.1.take k)) (patV d x)):=foldV_snoc _ _ c.1 k x hxk;have ON:Hid (∀ s ∈ patV d x,okS s):=λs hs=>patV_ok d x ex s hs
            have OS:Hid (∀ s ∈ onceS (foldV (patV d) FB (c.1.take k)) (patV d x),okS s):=λs hs'=>by
             rcases onceS_mem _ _ s hs' with h | h
             . exact hs.out.1.okS s h
             . exact ON.out s h
            generalize foldV (patV d) FB (c.1.take k)=J at *;clear hcs hat hcsl r1;go_wp2_with fail;refine (patVars_all d _ _ x (E1 _ HB.out) wx).mono ?_;rintro e w4 ⟨u4',rfl,ho4,hb4⟩;have HB4:=hid (HB.out.trans (hb4.mono HB.out.size));have SV:=hid (hs.out.below hb4);have SR:=hid (ho4.strR ON.out);have HO4:=hid (ho.out.next hb4);have SF4:=hid (hsf.out.below hb4);have bk4:=hid (hbk.out.next hb4);clear hb4 ho4 xa5 xc0 xc1 a0 a1 a2 a3 a4 a5;go_wp2_with fail;refine (once_any _ _ _ J (patV d x) SV.out SR.out (by omega)).mono ?_;rintro e w5 ⟨u5',rfl,ho5,hb5⟩;have HB5:=hid (HB4.out.trans (hb5.mono HB4.out.size));have SV5:=hid (ho5.strV OS.out);have HO5:=hid (HO4.out.next hb5);have SF5:=hid (SF4.out.below hb5);have bk5:=hid (bk4.out.next hb5);clear hb5 ho5;go_wp2_with fail;exact ⟨⟨k+1,by omega,by go_num,by show StrV _ _ _;rw [HJ.out];exact SV5.out,HO5.out,SF5.out,bk5.out,HB5.out⟩,by simp [intOf];omega⟩
          . have HIN:Hid (StrV wr u8 (foldV (patV d) FB c.1)):=by
             have:=hs.out
             rwa [List.take_of_length_le (by rw [HNP.out];omega)] at this
            clear hs;go_wp2_with fail;refine (hL _ _ c.2 _ (foldV (patV d) FB c.1) (RB.out _ HB.out) HIN.out wc2 LIN.out).mono ?_;rintro e w4 ⟨u4',rfl,ho4,hb4⟩;have HB4:=hid (HB.out.trans (hb4.mono HB.out.size));have SV:Hid (StrV w4 u5 OI):=(ho.out.next hb4).strV OJ.out;have SR:=hid (ho4.strR (OBD.out _));have lbd:=LBD.out (foldV (patV d) FB c.1);have SF4:=hid (hsf.out.below hb4);have bk4:=hid (hbk.out.next hb4);clear hb4 ho4 xa5 xc0 xc1;go_wp2_with fail;refine (once_any _ _ _ OI _ SV.out SR.out (by omega)).mono ?_;rintro e w5 ⟨u5',rfl,ho5,hb5⟩;have HB5:=hid (HB4.out.trans (hb5.mono HB4.out.size));have HO5:=hid (ho5.base HB4.out.size);have SF5:=hid (SF4.out.below hb5);have bk5:=hid (bk4.out.next hb5);clear hb5 ho5;go_wp2_with fail;exact ⟨⟨i+1,by omega,by go_num,by show OwnS _ _ _ _;rw [HCI.out];exact HO5.out,SF5.out,bk5.out,HB5.out⟩,by simp [intOf];omega⟩
       . have HF:Hid (OwnS wr w.heap.size u5 (cl.foldl (clF (freeV d) (bndV d) (patV d) (foldV (bndV d) B ks)) (listV (freeV d) (bndV d) B ks))):=by
          have:=hoi.out
          rwa [List.take_of_length_le (by rw [HNC.out];omega)] at this
         clear hoi;go_wp2;go_ret;exact ⟨_,rfl,HF.out,HBi.out⟩
 . have k9b:(kx == 9)=false:=by simpa using k9
   clear h92 h2 k9;have bA:Hid (Blk (w.alloc (.cells #[.int .i64 kx,.int .i64 nx,.string tx,.string mx,.slice p n cap,.slice pc nc capc] 74)) w.heap.size #[.int .i64 kx,.int .i64 nx,.string tx,.string mx,.slice p n cap,.slice pc nc capc] 74):=Blk.new;have BA:Hid (Bz w (w.alloc (.cells #[.int .i64 kx,.int .i64 nx,.string tx,.string mx,.slice p n cap,.slice pc nc capc] 74))):=(sqN _ _);go_enter func161,ntmps161;go_wp2_with fail;refine (hL _ _ ks _ B (Rows.mono F0.out (sqO BA.out) sqj (λ_ _ _ h=>h.mono (sqO BA.out) sqj)) (HSB.out.below BA.out) wks wkb).mono ?_;rintro e w1 ⟨uo,rfl,ho1,hb1⟩;have O1:=hid (ho1.base BA.out.size);have B1:=hid (BA.out.trans (hb1.mono BA.out.size));have b1:=hid (bA.out.next hb1);have S1:=hid (HSB.out.below B1.out);clear ho1 hb1 bA BA F0;go_wp2_with fail
   go_loopw [1,6] (λbu iv wr=>∃ k:Nat,k<=n/\iv=.int .i64 k/\Hid (StrV wr bu (foldV (bndV d) B (ks.take k)))/\Hid (OwnS wr w.heap.size uo (listV (freeV d) (bndV d) B ks))/\Hid (Blk wr w.heap.size #[.int .i64 kx,.int .i64 nx,.string tx,.string mx,.slice p n cap,.slice pc nc capc] 74)/\Hid (Bz w wr)) (λ_ iv _=>n - (intOf iv).toNat)
   case atStart=>exact ⟨0,Nat.zero_le _,rfl,S1.out,O1.out,b1.out,B1.out⟩
   case round =>
    obtain ⟨k,hk,rfl,hs,ho,hbk,HB⟩:=hrel;clear O1 b1 B1 S1;have xa4:=hbk.out.cell 4 _ rfl;have xa5:=hbk.out.cell 5 _ rfl;by_cases hlt:k<n
    . obtain ⟨x,hxk⟩:=sqA (l:=ks) (k:=k) HN.out hlt
      obtain ⟨g,off,rfl,-,hgl,hat⟩:=HX.out (sqE hxk);obtain ⟨cs,hcsl,hcs,r1⟩:=hat k x hxk;have E1:∀ w',Bz w w'->HEx w' All d cs x:=λw' hw=>r1.mono (sqO hw) sqj;obtain ⟨c0,c1,c2,c3,c4,c5,rfl⟩:=len6 hcsl;obtain ⟨a0,a1,a2,a3,a4,a5⟩:=sqC6 hcs (by omega);rw [<-HB.out.cell (p:=⟨g,_,none⟩) hgl] at a0 a1 a2 a3 a4 a5;simp at a0 a1 a2 a3 a4 a5;have hki:(k:Int)<(n:Int):=(by omega);have hk0:=sqI k;obtain ⟨wx,ex,lq⟩:=BK.out k x hxk;have lx:=bndV_len d x;have HJ:Hid (foldV (bndV d) B (ks.take (k+1))=onceS (foldV (bndV d) B (ks.take k)) (bndV d x)):=foldV_snoc _ _ ks k x hxk;have ON:Hid (∀ s ∈ bndV d x,okS s):=λs hs=>bndV_ok d x ex s hs
      have OS:Hid (∀ s ∈ onceS (foldV (bndV d) B (ks.take k)) (bndV d x),okS s):=λs hs'=>by
       rcases onceS_mem _ _ s hs' with h | h
       . exact hs.out.1.okS s h
       . exact ON.out s h
      generalize foldV (bndV d) B (ks.take k)=J at *;clear hcs hat hcsl r1;go_wp2_with fail;refine (bound_all d _ _ x (E1 _ HB.out) wx).mono ?_;rintro e w4 ⟨u4',rfl,ho4,hb4⟩;have HB4:=hid (HB.out.trans (hb4.mono HB.out.size));have SV:=hid (hs.out.below hb4);have SR:=hid (ho4.strR ON.out);have HO4:=hid (ho.out.next hb4);have bk4:=hid (hbk.out.next hb4);clear hb4 ho4 xa4 xa5 a0 a1 a2 a3 a4 a5;go_wp2_with fail;refine (once_any _ _ _ J (bndV d x) SV.out SR.out (by omega)).mono ?_;rintro e w5 ⟨u5',rfl,ho5,hb5⟩;have HB5:=hid (HB4.out.trans (hb5.mono HB4.out.size));have SV5:=hid (ho5.strV OS.out);have HO5:=hid (HO4.out.next hb5);have bk5:=hid (bk4.out.next hb5);clear hb5 ho5;go_wp2_with fail;exact ⟨⟨k+1,by omega,by go_num,by show StrV _ _ _;rw [HJ.out];exact SV5.out,HO5.out,bk5.out,HB5.out⟩,by simp [intOf];omega⟩
    . have HS:Hid (StrV wr u1 (foldV (bndV d) B ks)):=by
       have:=hs.out
       rwa [List.take_of_length_le (by rw [HN.out];omega)] at this
      clear hs;have HS0:=HS;have ho0:=ho;have hbk0:=hbk;have HB0:=HB;clear HS ho hbk HB;go_wp2_with fail
      go_loopw [5,7] (λov iv wr=>∃ i:Nat,i<=nc/\iv=.int .i64 i/\Hid (OwnS wr w.heap.size ov ((cl.take i).foldl (clF (freeV d) (bndV d) (patV d) (foldV (bndV d) B ks)) (listV (freeV d) (bndV d) B ks)))/\Hid (StrV wr u1 (foldV (bndV d) B ks))/\Hid (Blk wr w.heap.size #[.int .i64 kx,.int .i64 nx,.string tx,.string mx,.slice p n cap,.slice pc nc capc] 74)/\Hid (Bz w wr)) (λ_ iv _=>nc - (intOf iv).toNat)
      case atStart=>exact ⟨0,Nat.zero_le _,rfl,ho0.out,HS0.out,hbk0.out,HB0.out⟩
      case round =>
       clear HS0 ho0 hbk0 HB0 xa4 xa5;obtain ⟨i,hi,rfl,hoi,hsi,hbi,HBi⟩:=hrel;have xa5:=hbi.out.cell 5 _ rfl;by_cases hlt:i<nc
       . obtain ⟨c,hci⟩:∃ c,cl[i]?=some c:=⟨cl[i]'(by rw [HNC.out];exact hlt),List.getElem?_eq_getElem _⟩
         obtain ⟨gc,oc,rfl,-,hgcl,hatc⟩:=HXC.out (sqE hci);obtain ⟨csc,hcsl2,hcsc,pv,bdv,rfl,rp,rb⟩:=hatc i c hci;obtain ⟨wc1,wc2,wc3,ec1,ec2⟩:=BC.out i c hci;have RB:Hid (∀ w',Bz w w'->Rows w' All 6 (HEx w' All d) bdv c.2):=λw' hw=>Rows.mono rb (sqO hw) sqj (λ_ _ _ h=>h.mono (sqO hw) sqj);obtain ⟨pp,capp,rfl,hclp,hcmp,hxp⟩:=rp;obtain ⟨pb,capb,rfl,-⟩:=id rb;have hnp:c.1.length<=9223372036854775807:=(by unfold maxLen at hcmp;omega);have HXP:=hid hxp;have HC0:Hid (w.cell? ⟨gc,oc+i * 2,none⟩=some (.slice pp c.1.length capp)):=(by show _=_;simpa using hcsc 0 (by omega));have HC1:Hid (w.cell? ⟨gc,oc+i * 2+1,none⟩=some (.slice pb c.2.length capb)):=(by show _=_;simpa using hcsc 1 (by omega));have HCI:Hid ((cl.take (i+1)).foldl (clF (freeV d) (bndV d) (patV d) (foldV (bndV d) B ks)) (listV (freeV d) (bndV d) B ks)=onceS ((cl.take i).foldl (clF (freeV d) (bndV d) (patV d) (foldV (bndV d) B ks)) (listV (freeV d) (bndV d) B ks)) (listV (freeV d) (bndV d) (foldV (patV d) (foldV (bndV d) B ks) c.1) c.2)):=clF_snoc _ _ _ _ _ cl i c hci;have lq:=LQ.out i;have OJ:Hid (∀ s ∈ (cl.take i).foldl (clF (freeV d) (bndV d) (patV d) (foldV (bndV d) B ks)) (listV (freeV d) (bndV d) B ks),okS s):=(GQ.out i).ok
         have BP:Hid (∀ (j:Nat) y,c.1[j]?=some y->wtEx d y<=16777216/\exS d y/\(foldV (patV d) (foldV (bndV d) B ks) (c.1.take j)).length<=67108864):=λj y hj=>by
          obtain ⟨h1,-⟩:=wtS_kid (d:=d) hj;have h3:=foldV_len (patV d) (wtEx d) (c.1.take j) (foldV (bndV d) B ks) (λy _=>patV_len d y);exact ⟨by omega,ec1 y (List.mem_of_getElem? hj),by omega⟩
         have LIN:Hid ((foldV (patV d) (foldV (bndV d) B ks) c.1).length+wtS (wtEx d) c.2<=67108864):=by
          have h3:=foldV_len (patV d) (wtEx d) c.1 (foldV (bndV d) B ks) (λy _=>patV_len d y);show _<=_;omega
         have LBD:Hid (∀ B',(listV (freeV d) (bndV d) B' c.2).length<=16777216):=λB'=>Nat.le_trans (listV_len d B' c.2) wc2
         have OBD:Hid (∀ B',∀ s ∈ listV (freeV d) (bndV d) B' c.2,okS s):=λB' s hs=>by
          obtain ⟨y,hy,B2,h⟩:=listV_mem hs;exact freeV_ok d y B2 (ec2 y hy) s h
         have hii:(i:Int)<(nc:Int):=(by omega);have hi0:=sqI i;have xc0:=(HBi.out.cell (p:=⟨gc,oc+i * 2,none⟩) hgcl).trans HC0.out;have xc1:=(HBi.out.cell (p:=⟨gc,oc+i * 2+1,none⟩) hgcl).trans HC1.out;generalize hnp0:c.1.length=np at *;have HNP:=hid hnp0;generalize (cl.take i).foldl (clF (freeV d) (bndV d) (patV d) (foldV (bndV d) B ks)) (listV (freeV d) (bndV d) B ks)=OI at *;generalize hFB:foldV (bndV d) B ks=FB at *;have HFB:=hid hFB;have HSI:=hsi;have HOI:=hoi;have HBI2:=hbi;have HBB:=HBi;clear hcsc hcsl2 hatc hxp rb hnp0 hFB hsi hoi hbi HBi wc1 wc3 ec1 ec2 hclp hcmp;go_wp2_with fail;clear xc0 xc1 xa5
         go_loopw [8,9] (λbu iv wr=>∃ k:Nat,k<=np/\iv=.int .i64 k/\Hid (StrV wr bu (foldV (patV d) FB (c.1.take k)))/\Hid (OwnS wr w.heap.size u5 OI)/\Hid (StrV wr u1 FB)/\Hid (Blk wr w.heap.size #[.int .i64 kx,.int .i64 nx,.string tx,.string mx,.slice p n cap,.slice (some ⟨gc,oc,none⟩) nc capc] 74)/\Hid (Bz w wr)) (λ_ iv _=>np - (intOf iv).toNat)
         case atStart=>exact ⟨0,Nat.zero_le _,rfl,HSI.out,HOI.out,HSI.out,HBI2.out,HBB.out⟩
         case round =>
          clear HSI HOI HBI2 HBB;obtain ⟨k,hk,rfl,hs,ho,hsf,hbk,HB⟩:=hrel;have xa5:=hbk.out.cell 5 _ rfl;have xc0:=(HB.out.cell (p:=⟨gc,oc+i * 2,none⟩) hgcl).trans HC0.out;have xc1:=(HB.out.cell (p:=⟨gc,oc+i * 2+1,none⟩) hgcl).trans HC1.out;by_cases hlk:k<np
          . obtain ⟨x,hxk⟩:∃ x,c.1[k]?=some x:=⟨c.1[k]'(by rw [HNP.out];exact hlk),List.getElem?_eq_getElem _⟩
            obtain ⟨g,off,rfl,-,hgl,hat⟩:=HXP.out (sqE hxk);obtain ⟨cs,hcsl,hcs,r1⟩:=hat k x hxk;have E1:∀ w',Bz w w'->HEx w' All d cs x:=λw' hw=>r1.mono (sqO hw) sqj;obtain ⟨c0,c1,c2,c3,c4,c5,rfl⟩:=len6 hcsl;obtain ⟨a0,a1,a2,a3,a4,a5⟩:=sqC6 hcs (by omega);rw [<-HB.out.cell (p:=⟨g,_,none⟩) hgl] at a0 a1 a2 a3 a4 a5;simp at a0 a1 a2 a3 a4 a5;have hki:(k:Int)<(np:Int):=(by omega);have hk0:=sqI k;obtain ⟨wx,ex,lj⟩:=BP.out k x hxk;have lx:=patV_len d x;have HJ:Hid (foldV (patV d) FB (c.1.take (k+1))=onceS (foldV (patV d) FB (c.1.take k)) (patV d x)):=foldV_snoc _ _ c.1 k x hxk;have ON:Hid (∀ s ∈ patV d x,okS s):=λs hs=>patV_ok d x ex s hs
            have OS:Hid (∀ s ∈ onceS (foldV (patV d) FB (c.1.take k)) (patV d x),okS s):=λs hs'=>by
             rcases onceS_mem _ _ s hs' with h | h
             . exact hs.out.1.okS s h
             . exact ON.out s h
            generalize foldV (patV d) FB (c.1.take k)=J at *;clear hcs hat hcsl r1;go_wp2_with fail;refine (patVars_all d _ _ x (E1 _ HB.out) wx).mono ?_;rintro e w4 ⟨u4',rfl,ho4,hb4⟩;have HB4:=hid (HB.out.trans (hb4.mono HB.out.size));have SV:=hid (hs.out.below hb4);have SR:=hid (ho4.strR ON.out);have HO4:=hid (ho.out.next hb4);have SF4:=hid (hsf.out.below hb4);have bk4:=hid (hbk.out.next hb4);clear hb4 ho4 xa5 xc0 xc1 a0 a1 a2 a3 a4 a5;go_wp2_with fail;refine (once_any _ _ _ J (patV d x) SV.out SR.out (by omega)).mono ?_;rintro e w5 ⟨u5',rfl,ho5,hb5⟩;have HB5:=hid (HB4.out.trans (hb5.mono HB4.out.size));have SV5:=hid (ho5.strV OS.out);have HO5:=hid (HO4.out.next hb5);have SF5:=hid (SF4.out.below hb5);have bk5:=hid (bk4.out.next hb5);clear hb5 ho5;go_wp2_with fail;exact ⟨⟨k+1,by omega,by go_num,by show StrV _ _ _;rw [HJ.out];exact SV5.out,HO5.out,SF5.out,bk5.out,HB5.out⟩,by simp [intOf];omega⟩
          . have HIN:Hid (StrV wr u8 (foldV (patV d) FB c.1)):=by
             have:=hs.out
             rwa [List.take_of_length_le (by rw [HNP.out];omega)] at this
            clear hs;go_wp2_with fail;refine (hL _ _ c.2 _ (foldV (patV d) FB c.1) (RB.out _ HB.out) HIN.out wc2 LIN.out).mono ?_;rintro e w4 ⟨u4',rfl,ho4,hb4⟩;have HB4:=hid (HB.out.trans (hb4.mono HB.out.size));have SV:Hid (StrV w4 u5 OI):=(ho.out.next hb4).strV OJ.out;have SR:=hid (ho4.strR (OBD.out _));have lbd:=LBD.out (foldV (patV d) FB c.1);have SF4:=hid (hsf.out.below hb4);have bk4:=hid (hbk.out.next hb4);clear hb4 ho4 xa5 xc0 xc1;go_wp2_with fail;refine (once_any _ _ _ OI _ SV.out SR.out (by omega)).mono ?_;rintro e w5 ⟨u5',rfl,ho5,hb5⟩;have HB5:=hid (HB4.out.trans (hb5.mono HB4.out.size));have HO5:=hid (ho5.base HB4.out.size);have SF5:=hid (SF4.out.below hb5);have bk5:=hid (bk4.out.next hb5);clear hb5 ho5;go_wp2_with fail;exact ⟨⟨i+1,by omega,by go_num,by show OwnS _ _ _ _;rw [HCI.out];exact HO5.out,SF5.out,bk5.out,HB5.out⟩,by simp [intOf];omega⟩
       . have HF:Hid (OwnS wr w.heap.size u5 (cl.foldl (clF (freeV d) (bndV d) (patV d) (foldV (bndV d) B ks)) (listV (freeV d) (bndV d) B ks))):=by
          have:=hoi.out
          rwa [List.take_of_length_le (by rw [HNC.out];omega)] at this
         clear hoi;go_wp2;go_ret;exact ⟨_,rfl,HF.out,HBi.out⟩
theorem free_of {d:Nat} (hF:FrC d):FrC (d+1):=by
 intro w cs x bv B h hB hwt hbt;obtain ⟨kx,nx,tx,mx,ks,cl⟩:=x;by_cases h2:kx=2
 . subst h2
   exact free_var w cs nx tx mx ks cl bv B h hB
 . by_cases h92:kx=9/\ks.length=2
   . obtain ⟨rfl,hl⟩:=h92
     match ks,hl with
     | [ya,yb],_=>exact free_two hF w cs nx tx mx ya yb cl bv B h hB hwt hbt
   . exact free_else (list_of hF) w cs kx nx tx mx ks cl bv B h2 h92 h hB hwt hbt
theorem free_all:∀ d,FrC d
 | 0=>λw cs x bv B h _ _ _=>h.elim
 | d+1=>free_of (free_all d)
theorem list_all (d:Nat):LsC d:=list_of (free_all d)
end
def inK (z:List UInt8) (l:List ByteArray):Prop:=z ∈ l.map keyS
theorem inK_nil {z:List UInt8}:¬ inK z []:=by simp [inK]
theorem inK_once {z:List UInt8} {l ys:List ByteArray}:inK z (onceS l ys) ↔ inK z l\/inK z ys:=by
 constructor
 . intro h
   obtain ⟨s,hs,rfl⟩:=List.mem_map.1 h
   rcases onceS_mem l ys s hs with h | h
   . exact .inl (List.mem_map.2 ⟨s,h,rfl⟩)
   . exact .inr (List.mem_map.2 ⟨s,h,rfl⟩)
 . rintro (h | h)
   . exact onceS_left _ _ _ h
   . exact onceS_right _ _ _ h
theorem inK_fold {α:Type} {z:List UInt8} (f:α->List ByteArray):∀ (ks:List α) (l:List ByteArray),inK z (foldV f l ks) ↔ inK z l\/∃ y ∈ ks,inK z (f y)
 | [],l=>by simp [foldV]
 | y :: ys,l=>by
  have h:=inK_fold (z:=z) f ys (onceS l (f y));have e:foldV f l (y :: ys)=foldV f (onceS l (f y)) ys:=rfl;rw [e,h,inK_once];simp only [List.mem_cons,exists_eq_or_imp,or_assoc]
theorem runL_in (f:Ex->List ByteArray->List ByteArray) (bn:Ex->List ByteArray) {z:List UInt8}:∀ (ks:List Ex) (o B:List ByteArray),inK z (ks.foldl (stepL f bn) (o,B)).1 ↔ inK z o\/inK z (listV f bn B ks)
 | [],o,B=>by simp [listV,inK]
 | x :: xs,o,B=>by
  have h1:=runL_in f bn (z:=z) xs (onceS o (f x B)) (onceS B (bn x));have h2:=runL_in f bn (z:=z) xs (onceS [] (f x B)) (onceS B (bn x));have e1:(x :: xs).foldl (stepL f bn) (o,B)=xs.foldl (stepL f bn) (onceS o (f x B),onceS B (bn x)):=rfl;have e2:listV f bn B (x :: xs)=(xs.foldl (stepL f bn) (onceS [] (f x B),onceS B (bn x))).1:=rfl;rw [e1,e2,h1,h2,inK_once,inK_once];have:=inK_nil (z:=z);simp only [this,false_or,or_assoc]
theorem listV_cons (f:Ex->List ByteArray->List ByteArray) (bn:Ex->List ByteArray) {z:List UInt8} (B:List ByteArray) (x:Ex) (xs:List Ex):inK z (listV f bn B (x :: xs)) ↔ inK z (f x B)\/inK z (listV f bn (onceS B (bn x)) xs):=by
 have h:=runL_in f bn (z:=z) xs (onceS [] (f x B)) (onceS B (bn x));have e:listV f bn B (x :: xs)=(xs.foldl (stepL f bn) (onceS [] (f x B),onceS B (bn x))).1:=rfl;rw [e,h,inK_once];have:=inK_nil (z:=z);simp only [this,false_or]
def Takes (f:Ex->List ByteArray->List ByteArray):Prop:=∀ x B z,inK z (f x B) ↔ inK z (f x [])/\¬ inK z B
theorem listV_takes {f:Ex->List ByteArray->List ByteArray} (bn:Ex->List ByteArray) (hf:Takes f) {z:List UInt8}:∀ (ks:List Ex) (B:List ByteArray),inK z (listV f bn B ks) ↔ inK z (listV f bn [] ks)/\¬ inK z B
 | [],B=>by simp [listV,inK]
 | x :: xs,B=>by
  have h1:=listV_takes bn hf (z:=z) xs (onceS B (bn x));have h2:=listV_takes bn hf (z:=z) xs (onceS [] (bn x));have h3:=hf x B z;have:=inK_nil (z:=z);rw [listV_cons,listV_cons,h1,h2,h3,inK_once,inK_once];simp only [this,false_or]
  by_cases a:inK z (f x []) <;> by_cases b:inK z B <;> by_cases c:inK z (bn x) <;> simp [a,b,c]
theorem listV_back {f:Ex->List ByteArray->List ByteArray} (bn:Ex->List ByteArray) (hf:Takes f) {z:List UInt8} (x:Ex) (xs:List Ex):inK z (listV f bn [] (x :: xs)) ↔ inK z (f x [])\/(inK z (listV f bn [] xs)/\¬ inK z (bn x)):=by
 have h:=listV_takes bn hf (z:=z) xs (onceS [] (bn x));rw [listV_cons,h,inK_once];have:=inK_nil (z:=z);simp only [this,false_or]
theorem clF_in (f:Ex->List ByteArray->List ByteArray) (bn pt:Ex->List ByteArray) (B:List ByteArray) {z:List UInt8}:∀ (cs:List Cl) (l:List ByteArray),inK z (cs.foldl (clF f bn pt B) l) ↔ inK z l\/∃ c ∈ cs,inK z (listV f bn (foldV pt B c.1) c.2)
 | [],l=>by simp
 | c :: cs,l=>by
  have h:=clF_in f bn pt B (z:=z) cs (clF f bn pt B l c);rw [List.foldl_cons,h];unfold clF;rw [inK_once];simp only [List.mem_cons,exists_eq_or_imp,or_assoc]
theorem hasS_in {B:List ByteArray} {t:ByteArray}:hasS B t=true ↔ inK (keyS t) B:=hasS_mem B t
theorem freeV_takes:∀ d,Takes (freeV d)
 | 0,x,B,z=>by simp [freeV,inK]
 | d+1,.mk k n t m ks cs,B,z=>by
  have ih:=freeV_takes d;by_cases h2:k=2
  . subst h2
    rw [freeV_var,freeV_var];have h0:hasS [] t=false:=rfl;rw [h0];by_cases hb:hasS B t=true
    . have hb':=hasS_in.1 hb
      simp only [hb,if_true,Bool.false_eq_true,if_false]
      constructor
      . intro h;exact absurd h inK_nil
      . rintro ⟨h,h'⟩
        have:z=keyS t:=(by simpa [inK] using h);subst this;exact absurd hb' h'
    . have hb':¬ inK (keyS t) B:=λh=>hb (hasS_in.2 h)
      simp only [hb,Bool.false_eq_true,if_false]
      constructor
      . intro h
        have:z=keyS t:=(by simpa [inK] using h);subst this;exact ⟨h,hb'⟩
      . exact λh=>h.1
  . by_cases h9:k=9/\ks.length=2
    . obtain ⟨rfl,hl⟩:=h9
      match ks,hl with
      | [a,b],_=>rw [freeV_two,freeV_two];exact ih b B z
    . rw [freeV_else d k n t m ks cs B h2 h9,freeV_else d k n t m ks cs [] h2 h9,clF_in,clF_in,listV_takes (bndV d) ih ks B]
      have hc:∀ (B:List ByteArray) (c:Cl),inK z (listV (freeV d) (bndV d) (foldV (patV d) (foldV (bndV d) B ks) c.1) c.2) ↔ inK z (listV (freeV d) (bndV d) [] c.2)/\¬ (inK z B\/(∃ y ∈ ks,inK z (bndV d y))\/∃ y ∈ c.1,inK z (patV d y)):=λB c=>by
       rw [listV_takes (bndV d) ih,inK_fold,inK_fold,or_assoc]
      simp only [hc];have:=inK_nil (z:=z);simp only [this,false_or]
      constructor
      . rintro (⟨h,h'⟩ | ⟨c,hc,h,h'⟩)
        . exact ⟨.inl h,h'⟩
        . exact ⟨.inr ⟨c,hc,h,λe=>h' (.inr e)⟩,λe=>h' (.inl e)⟩
      . rintro ⟨h | ⟨c,hc,h,h'⟩,hb⟩
        . exact .inl ⟨h,hb⟩
        . refine .inr ⟨c,hc,h,λe=>?_⟩
          rcases e with e | e
          . exact hb e
          . exact h' e
theorem clause_in (d:Nat) (c:Cl) (z:List UInt8):inK z (listV (freeV d) (bndV d) (foldV (patV d) [] c.1) c.2) ↔ inK z (listV (freeV d) (bndV d) [] c.2)/\¬ ∃ y ∈ c.1,inK z (patV d y):=by
 rw [listV_takes (bndV d) (freeV_takes d),inK_fold];have:=inK_nil (z:=z);simp only [this,false_or]
theorem freeV_back (d:Nat) (k n:Int) (t m:ByteArray) (ks:List Ex) (cs:List Cl) (h2:k≠2) (h9:¬ (k=9/\ks.length=2)) (z:List UInt8) :
 inK z (freeV (d+1) (.mk k n t m ks cs) []) ↔ inK z (listV (freeV d) (bndV d) [] ks)\/((∃ c ∈ cs,inK z (listV (freeV d) (bndV d) (foldV (patV d) [] c.1) c.2))/\¬ ∃ y ∈ ks,inK z (bndV d y)):=by
 rw [freeV_else d k n t m ks cs [] h2 h9,clF_in];simp only [listV_takes (bndV d) (freeV_takes d) _ (foldV _ _ _),inK_fold];have:=inK_nil (z:=z);simp only [this,false_or]
 constructor
 . rintro (h | ⟨c,hc,h,h'⟩)
   . exact .inl h
   . exact .inr ⟨⟨c,hc,h,λe=>h' (.inr e)⟩,λe=>h' (.inl e)⟩
 . rintro (h | ⟨⟨c,hc,h,h'⟩,hb⟩)
   . exact .inl h
   . refine .inr ⟨c,hc,h,λe=>?_⟩
     rcases e with e | e
     . exact hb e
     . exact h' e
end Go.Proofs.YtbdhpganbbandaaGreatDoor
