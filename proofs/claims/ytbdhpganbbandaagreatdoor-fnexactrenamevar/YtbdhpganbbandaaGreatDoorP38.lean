/-
  CheckImplE CheckImplF CheckImplG RenMath ProgSet RenWt
-/
import Derived.Test.YtbdhpganbbandaaGreatDoorP37
import Derived.Test.YtbdhpganbbandaaGreatDoorP36
set_option maxHeartbeats 16000000
set_option linter.unusedVariables false
set_option maxRecDepth 100000
namespace Go.Proofs.YtbdhpganbbandaaGreatDoor
open Go.ChangeShapes Go.WideShapes Go.ChangeAt Go.RowKit
section
open Go.Proofs.Tryz
section
variable (d b0:Nat) (pv:Value) (pe:Option Addr) (ne ce:Nat) (pf:Option Addr) (nf cf:Nat) (fs:ByteArray) (fn:Int) (pc:Option Addr) (nc cc:Nat) (ms:List Md) (m:Md)
theorem eachCall_any (hok:okS m.name/\okS fs/\okI fn) (w:World) (s:List Pb) (v:Value) (cl:List Cl) (h:CbI d b0 pv #[.string m.name,.slice pe ne ce,.slice pf nf cf] #[.string fs,.int .i64 fn,.slice pc nc cc] ms m w v s) (hr:Rows w (λg=>g<b0) 2 (HCl w (λg=>g<b0) (HEx w (λg=>g<b0) d)) (.slice pc nc cc) cl)
 (hR:Runs (λ(s:List Pb) _=>s.length+1<=16777216) (stK fs fn ms m) s (cl.flatMap λc=>c.2.flatMap (preX d))) :
 Calls prog 144 #[.agg #[.string fs,.int .i64 fn,.slice pc nc cc],(.func (.func 145) #[] #[.pointer (some ⟨b0,0,none⟩),.pointer (some ⟨b0+1,0,none⟩),.pointer (some ⟨b0+1+1,0,none⟩),.pointer (some ⟨b0+1+1+1+1,0,none⟩)])] w λe w'=>e=.returned (.tuple #[])/\∃ v',CbI d b0 pv #[.string m.name,.slice pe ne ce,.slice pf nf cf] #[.string fs,.int .i64 fn,.slice pc nc cc] ms m w' v' ((cl.flatMap λc=>c.2.flatMap (preX d)).foldl (stK fs fn ms m) s)/\Mv (MvB b0 v) (MvB b0 v') w w':=by
 obtain ⟨W2,hW2⟩:∃ W2,W2=((w.alloc (.cells #[.string fs,.int .i64 fn,.slice pc nc cc] 57)).alloc (.cells #[(.func (.func 145) #[] #[.pointer (some ⟨b0,0,none⟩),.pointer (some ⟨b0+1,0,none⟩),.pointer (some ⟨b0+1+1,0,none⟩),.pointer (some ⟨b0+1+1+1+1,0,none⟩)])] 194)):=⟨_,rfl⟩;have B2:Hid (Bz w W2):=(by show Below _ _ _;rw [hW2];exact ((sqN _ _)).alloc (by simp only [alloc_hs];omega) _);have TT:=tells d b0 (w.heap.size+1) pv pe ne ce pf nf cf fs fn pc nc cc ms m hok;have HT:=hid TT
 have bT:Blk W2 (w.heap.size+1) #[(.func (.func 145) #[] #[.pointer (some ⟨b0,0,none⟩),.pointer (some ⟨b0+1,0,none⟩),.pointer (some ⟨b0+1+1,0,none⟩),.pointer (some ⟨b0+1+1+1+1,0,none⟩)])] 194:=by
  rw [hW2];have:=Blk.new (w:=w.alloc (.cells #[.string fs,.int .i64 fn,.slice pc nc cc] 57)) (cs:=#[(.func (.func 145) #[] #[.pointer (some ⟨b0,0,none⟩),.pointer (some ⟨b0+1,0,none⟩),.pointer (some ⟨b0+1+1,0,none⟩),.pointer (some ⟨b0+1+1+1+1,0,none⟩)])]) (t:=194);rw [alloc_hs] at this;exact this
 have I2:Hid (CallI d b0 (w.heap.size+1) pv pe ne ce pf nf cf fs fn pc nc cc ms m W2 (MvB b0 v) s):=⟨v,rfl,h.next B2.out,bT,by have:=h.l.lt;omega⟩;have HOF:Hid (∀ g,g<b0->¬ MvB b0 v g):=(TT.off _ _ _ I2.out).1;obtain ⟨p,cap,hv,hcl,hcm,hx⟩:=hr;simp only [Value.slice.injEq] at hv;obtain ⟨rfl,hnc,rfl⟩:=hv;have hnb:nc<=9223372036854775807:=(by unfold maxLen at hcm;omega);have HN:=hid hnc.symm;have HX:=hid hx;have HR:=hid hR;have HW2:=hid hW2;clear hx hR hW2 bT TT h hnc hcl;go_enter func144,ntmps144;go_wp2_with fail;rw [<-HW2.out]
 go_loopw [9] (λiv wr=>∃ k:Nat,k<=nc/\iv=.int .i64 k/\Hid (∃ M',CallI d b0 (w.heap.size+1) pv pe ne ce pf nf cf fs fn pc nc cc ms m wr M' (((cl.take k).flatMap λc=>c.2.flatMap (preX d)).foldl (stK fs fn ms m) s)/\Mv (MvB b0 v) M' w wr)) (λiv _=>nc - (intOf iv).toNat)
 case atStart=>exact ⟨0,Nat.zero_le _,rfl,⟨_,by simpa using I2.out,Mv.of_below B2.out⟩⟩
 case round =>
  obtain ⟨k,hk,rfl,HVk⟩:=hrel;obtain ⟨Mk,ik,mk⟩:=HVk.out;have IK:=hid ik;have MK:=hid mk;clear HVk ik mk;by_cases hlt:k<nc
  . obtain ⟨c,hck⟩:=sqA (l:=cl) (k:=k) HN.out hlt
    obtain ⟨g,off,rfl,hgm,hgl,hat⟩:=HX.out (by intro h;rw [h] at hck;simp at hck);obtain ⟨cs,hcsl,hcs,pv',bv,rfl,rp,rb⟩:=hat k c hck;have SK:=hid (MK.out.sameOn HOF.out);have RB:=hid (Rows.mono rb SK.out sqj (λ_ _ _ h=>h.mono SK.out sqj));obtain ⟨pp,capp,rfl,-⟩:=rp;obtain ⟨pb,capb,rfl,-⟩:=rb;have hge:wr.heap[g]?=w.heap[g]?:=SK.out.2 g hgm hgl;have a0:=(World.cell?_of_block (a:=⟨g,off+k * 2+0,none⟩) hge).trans (hcs 0 (by omega));have a1:=(World.cell?_of_block (a:=⟨g,off+k * 2+1,none⟩) hge).trans (hcs 1 (by omega));simp at a0 a1;obtain ⟨hr1,hj1⟩:=Runs.take k c HR.out hck;generalize ((cl.take k).flatMap λc=>c.2.flatMap (preX d)).foldl (stK fs fn ms m) s=sk at *;have HR1:=hid hr1;have HJ1:=hid hj1;have hki:(k:Int)<(nc:Int):=(by omega);have hk0:=sqI k;have HBC:Hid (Bz wr (wr.alloc (.cells #[.slice pp c.1.length capp,.slice pb c.2.length capb] 44))):=(sqN _ _);clear hat hcs hcsl hge hr1 hj1;go_wp2_with fail;refine (eachOfC_all HT.out d _ Mk sk _ c.2 (Rows.mono RB.out (SameOn.of_below HBC.out) sqj (λ_ _ _ h=>h.mono (SameOn.of_below HBC.out) sqj)) (HT.out.next _ _ _ _ IK.out HBC.out) HR1.out).mono ?_;rintro e w3 ⟨rfl,M3,i3,m3⟩;have HI4:Hid (∃ M',CallI d b0 (w.heap.size+1) pv pe ne ce pf nf cf fs fn (some ⟨g,off,none⟩) nc cc ms m w3 M' (((cl.take (k+1)).flatMap λc=>c.2.flatMap (preX d)).foldl (stK fs fn ms m) s)/\Mv (MvB b0 v) M' w w3):=⟨M3,by rw [HJ1.out];exact i3,(MK.out.trans (Mv.of_below HBC.out)).trans m3⟩;clear i3 m3 a0 a1;go_wp2_with fail;exact ⟨⟨k+1,by omega,by go_num,HI4⟩,by simp [intOf];omega⟩
  . have HS:Hid (∃ v',CbI d b0 pv #[.string m.name,.slice pe ne ce,.slice pf nf cf] #[.string fs,.int .i64 fn,.slice pc nc cc] ms m wr v' ((cl.flatMap λc=>c.2.flatMap (preX d)).foldl (stK fs fn ms m) s)/\Mv (MvB b0 v) (MvB b0 v') w wr):=by
     have h1:=IK.out;rw [show cl.take k=cl from List.take_of_length_le (by rw [HN.out];omega)] at h1;obtain ⟨v',rfl,h2,-,-⟩:=h1;exact ⟨v',h2,MK.out⟩
    go_wp2;go_end0;exact ⟨rfl,HS.out⟩
end
end
section
open Go.Proofs.Tryz
theorem fn_tight {w:World} {S:Nat->Prop} {d:Nat} {cs:List Value} {f:Fn'} (h:HFn w S d cs f):HFn w (λg=>g<w.heap.size) d cs f:=by
 obtain ⟨cv,rfl,h1,h2,hc⟩:=h;refine ⟨cv,rfl,h1,h2,hc.tight (λ_ _ h=>?_)⟩;obtain ⟨p,b,rfl,g1,g2⟩:=h;exact ⟨p,b,rfl,g1.tight (λ_ _ h=>h.tight),g2.tight (λ_ _ h=>h.tight)⟩
theorem md_tight {w:World} {S:Nat->Prop} {d:Nat} {cs:List Value} {m:Md} (h:HMd w S d cs m):HMd w (λg=>g<w.heap.size) d cs m:=by
 obtain ⟨ev,fv,rfl,h1,he,hf⟩:=h;exact ⟨ev,fv,rfl,h1,he.tight (λ_ _ h=>h),hf.tight (λ_ _ h=>fn_tight h)⟩
theorem callProblems_any (d:Nat) (w:World) (pv:Value) (ms:List Md) (mc:List Value) (m:Md) (cs:List Value) (f:Fn') (h:Rows w All 3 (HMd w All d) pv ms) (hm:HMd w All d mc m) (hf:HFn w All d cs f)
 (hR:Runs (λ(s:List Pb) _=>s.length+1<=16777216) (stK f.name f.arity ms m) [] (f.clauses.flatMap λc=>c.2.flatMap (preX d))) :
 Calls prog 116 #[.agg #[pv],.agg mc.toArray,.agg cs.toArray] w λe w'=>∃ u,e=.returned u/\OwnP w' w.heap.size u ((f.clauses.flatMap λc=>c.2.flatMap (preX d)).foldl (stK f.name f.arity ms m) [])/\Bz w w':=by
 have hmT:HMd w (λg=>g<w.heap.size) d mc m:=md_tight hm;have hrT:Rows w (λg=>g<w.heap.size) 3 (HMd w (λg=>g<w.heap.size) d) pv ms:=Rows.tight h (λ_ _ h=>md_tight h);have hfT:HFn w (λg=>g<w.heap.size) d cs f:=fn_tight hf;obtain ⟨p,cap,rfl,-⟩:=id h;obtain ⟨ev,fv,rfl,hms,⟨pe,ce,rfl,-⟩,⟨pf,cf,rfl,-⟩⟩:=id hm;obtain ⟨cv,rfl,hfs,hfn,hcl⟩:=hfT;obtain ⟨pc,cc,rfl,-⟩:=id hcl;generalize ms.length=n at *;generalize m.exports.length=ne at *;generalize m.funs.length=nf at *;generalize f.clauses=cl at *;generalize cl.length=nc at *;generalize f.name=fs at *;generalize f.arity=fn at *;obtain ⟨W5,hW5⟩:∃ W5,W5=(((((w.alloc (.cells #[.slice p n cap] 128)).alloc (.cells #[.string m.name,.slice pe ne ce,.slice pf nf cf] 61)).alloc (.cells #[.string fs,.int .i64 fn,.slice pc nc cc] 57)).alloc (.cells #[] 121)).alloc (.cells #[(.slice (some ⟨w.heap.size+1+1+1,0,none⟩) 0 0)] 84)):=⟨_,rfl⟩
 have B5:Hid (Bz w W5):=by
  show Below _ _ _;rw [hW5];exact (((((sqN _ _)).alloc (by simp only [alloc_hs];omega) _).alloc (by simp only [alloc_hs];omega) _).alloc (by simp only [alloc_hs];omega) _).alloc (by simp only [alloc_hs];omega) _
 have hsm:SameOn (λg=>g<w.heap.size) w W5:=SameOn.of_low B5.out;have b2:=Blk.new (w:=(w.alloc (.cells #[.slice p n cap] 128))) (cs:=#[.string m.name,.slice pe ne ce,.slice pf nf cf]) (t:=61);have b3:=Blk.new (w:=((w.alloc (.cells #[.slice p n cap] 128)).alloc (.cells #[.string m.name,.slice pe ne ce,.slice pf nf cf] 61))) (cs:=#[.string fs,.int .i64 fn,.slice pc nc cc]) (t:=57);have b5:=Blk.new (w:=((((w.alloc (.cells #[.slice p n cap] 128)).alloc (.cells #[.string m.name,.slice pe ne ce,.slice pf nf cf] 61)).alloc (.cells #[.string fs,.int .i64 fn,.slice pc nc cc] 57)).alloc (.cells #[] 121))) (cs:=#[(.slice (some ⟨w.heap.size+1+1+1,0,none⟩) 0 0)]) (t:=84);have o4:=(OwnG.fresh (w:=(((w.alloc (.cells #[.slice p n cap] 128)).alloc (.cells #[.string m.name,.slice pe ne ce,.slice pf nf cf] 61)).alloc (.cells #[.string fs,.int .i64 fn,.slice pc nc cc] 57))) (e:=121) (c:=4) (R:=HPb)).next ((Below.refl _ _).alloc (sqR _) (.cells #[(.slice (some ⟨w.heap.size+1+1+1,0,none⟩) 0 0)] 84));simp only [alloc_hs] at b2 b3 b5 o4
 have HI:Hid (CbI d w.heap.size (.slice p n cap) #[.string m.name,.slice pe ne ce,.slice pf nf cf] #[.string fs,.int .i64 fn,.slice pc nc cc] ms m W5 (.slice (some ⟨w.heap.size+1+1+1,0,none⟩) 0 0) []):=by
  refine ⟨?_,?_,?_,?_,?_,hrT.mono hsm sqj (λ_ _ _ h=>h.mono hsm sqj),hmT.mono hsm sqj⟩
  . rw [hW5];exact Blk.new.alloc.alloc.alloc.alloc
  . rw [hW5];exact b2.alloc.alloc.alloc
  . rw [hW5];exact b3.alloc.alloc
  . rw [hW5];exact b5
  . rw [hW5];exact o4
 have HCL:=hid (hcl.mono hsm sqj (λ_ _ _ h=>h.mono hsm sqj (λ_ _=>HEx.mono hsm sqj)));have HOK:Hid (okS m.name/\okS fs/\okI fn):=⟨hms,hfs,hfn⟩;have HR:=hid hR;have HW5:=hid hW5;clear hR hcl hrT hmT h hm hf hsm b2 b3 b5 o4 hW5 hms hfs hfn;go_enter func116,ntmps116;go_wp2_with fail;rw [<-HW5.out];refine (eachCall_any d w.heap.size (.slice p n cap) pe ne ce pf nf cf fs fn pc nc cc ms m HOK.out W5 [] (.slice (some ⟨w.heap.size+1+1+1,0,none⟩) 0 0) cl HI.out HCL.out HR.out).mono ?_;rintro e w6 ⟨rfl,v6,i6,m6⟩
 have B6:Hid (Bz w w6):=B5.out.trans (m6.below (λg hg=>by
  rcases hg with hg | hg
  . omega
  . simp [Value.ownBlock] at hg;omega) B5.out.size)
 have O6:Hid (OwnP w6 w.heap.size v6 ((cl.flatMap λc=>c.2.flatMap (preX d)).foldl (stK fs fn ms m) [])):=i6.own.base (by omega);have l6:=i6.l.cell 0 _ rfl;clear i6 m6;go_wp2;go_ret;exact ⟨_,rfl,O6.out,B6.out⟩
theorem exportProblems_any (d:Nat) (w:World) (cs:List Value) (m:Md) (h:HMd w All d cs m) (hw:m.exports.length<=16777216) :
 Calls prog 112 #[.agg cs.toArray] w λe w'=>∃ u,e=.returned u/\OwnP w' w.heap.size u (m.exports.flatMap (exportP m))/\Bz w w':=by
 have HMM:Hid (∀ w',Bz w w'->HMd w' All d cs m):=λw' hw=>h.mono (sqO hw) sqj;obtain ⟨ev,fv,rfl,hms,he,hf⟩:=h;have HFS:Hid (∀ w',Bz w w'->Rows w' All 3 (HFn w' All d) fv m.funs):=λw' hw=>hf.mono (sqO hw) sqj (λ_ _ _ h=>h.mono (sqO hw) sqj);obtain ⟨pf,cf,rfl,-⟩:=hf;obtain ⟨pe,ce,rfl,hce,hcme,hxe⟩:=he;have HXE:=hid hxe
 have HLL:Hid ((m.exports.flatMap (exportP m)).length<=16777216):=by
  have h1:=flat_lenG (exportP m) (λ_=>1) m.exports (λr _=>by
   unfold exportP
   split
   . exact Nat.zero_le _
   . exact Nat.le_refl _)
  have h3:∀ l:List Rf,(l.map λ_=>1).sum=l.length:=λl=>by
   induction l with
   | nil=>rfl
   | cons y l ih=>simp only [List.map_cons,List.sum_cons,List.length_cons,ih];omega
  rw [h3] at h1;exact Nat.le_trans h1 hw
 have hne:m.exports.length<=9223372036854775807:=(by omega);have HMSN:=hid hms;generalize hn1:m.exports.length=ne at *;have HN1:=hid hn1;generalize m.funs.length=nf at *;obtain ⟨W1,hW1⟩:∃ W1,W1=w.alloc (.cells #[.string m.name,.slice pe ne ce,.slice pf nf cf] 61):=⟨_,rfl⟩;have b1:Blk W1 w.heap.size #[.string m.name,.slice pe ne ce,.slice pf nf cf] 61:=(by rw [hW1];exact Blk.new);have hs1:W1.heap.size=w.heap.size+1:=(by rw [hW1,alloc_hs]);have hb1:Bz w W1:=(by rw [hW1];exact (sqN _ _));have hal:Bz W1 (W1.alloc (.cells #[] 121)):=(sqN _ _);have B2:=hid (hb1.trans (hal.mono hb1.size));have b2:=hid (b1.next hal)
 have O2:Hid (OwnP (W1.alloc (.cells #[] 121)) w.heap.size (.slice (some ⟨w.heap.size+1,0,none⟩) 0 0) []):=by
  have:=(OwnG.fresh (w:=W1) (e:=121) (c:=4) (R:=HPb)).base (B':=w.heap.size) (by omega);rw [hs1] at this;exact this
 have HW1:=hid hW1;clear hxe hn1 b1 hb1 hal hs1 hms hce hcme hw hW1;go_enter func112,ntmps112;go_wp2_with fail;rw [<-HW1.out]
 go_loopw [3,10] (λov iv wx=>∃ k:Nat,k<=ne/\iv=.int .i64 k/\Hid (OwnP wx w.heap.size ov ((m.exports.take k).flatMap (exportP m)))/\Hid (Bz w wx)/\Hid (Blk wx w.heap.size #[.string m.name,.slice pe ne ce,.slice pf nf cf] 61)) (λ_ iv _=>ne - (intOf iv).toNat)
 case atStart=>exact ⟨0,Nat.zero_le _,rfl,by show OwnP _ _ _ _;simpa using O2.out,B2,b2⟩
 case round =>
  obtain ⟨k,hk,rfl,ho,hb,bb⟩:=hrel;clear O2 B2 b2;by_cases hlk:k<ne
  . obtain ⟨r,hrk⟩:∃ r,m.exports[k]?=some r:=⟨m.exports[k]'(by rw [HN1.out];exact hlk),List.getElem?_eq_getElem _⟩
    obtain ⟨g6,o6,rfl,-,hgl6,hat6⟩:=HXE.out (sqE hrk);obtain ⟨cs6,hcsl6,hcs6,rfl,hrs,hri⟩:=hat6 k r hrk;obtain ⟨a0,a1⟩:=sqC2 hcs6 (by omega);rw [<-hb.out.cell (p:=⟨g6,_,none⟩) hgl6] at a0 a1;simp at a0 a1;have hki6:(k:Int)<(ne:Int):=(by omega);have hk06:=sqI k;obtain ⟨HJ,HL⟩:=flat_takeG (exportP m) m.exports k r hrk;have HJ6:=hid HJ;have HL6:=hid (Nat.le_trans HL HLL.out);have HEP:Hid (exportP m r=if hasF m r.name r.arity then [] else [⟨m.name,r.name,r.arity,cExport⟩]):=rfl;have HHF:Hid (hasF m r.name r.arity=m.funs.any (sameR ⟨r.name,r.arity⟩)):=rfl;obtain ⟨rs,rn⟩:=r;simp only at *;have HPB:Hid (HPb [.string m.name,.string rs,.int .i64 rn,.string ⟨#[101,120,112,111,114,116]⟩] ⟨m.name,rs,rn,cExport⟩):=⟨rfl,HMSN.out,hrs,hri,okS_export⟩;obtain ⟨W6,hW6⟩:∃ W6,W6=wr.alloc (.cells #[.string rs,.int .i64 rn] 110):=⟨_,rfl⟩;obtain ⟨br,hbr⟩:∃ br,br=wr.heap.size:=⟨_,rfl⟩;have hbl:Bz wr W6:=(by rw [hW6];exact (sqN _ _));have br6:Hid (Blk W6 br #[.string rs,.int .i64 rn] 110):=(by show Blk _ _ _ _;rw [hW6,hbr];exact Blk.new);have bm6:=hid (bb.out.next hbl);have HB6:=hid (hb.out.trans (hbl.mono hb.out.size));have HO6:=hid (ho.out.next hbl);have HW6:=hid hW6;have HBR:=hid hbr.symm;have y2:=bm6.out.cell 2 _ rfl;rw [hW6] at y2;generalize hJ0:(m.exports.take k).flatMap (exportP m)=J at *;clear hcs6 hcsl6 hat6 HJ HL hW6 hbr hbl hJ0 hrk hrs hri ho hb bb;go_wp2_with fail;rw [<-HW6.out];clear y2 a0 a1;refine (hasFun_any d _ _ m.funs ⟨rs,rn⟩ (HFS.out _ HB6.out)).mono ?_;rintro e w7 ⟨rfl,hb7⟩;rw [<-HHF.out];have br7:=hid (br6.out.next hb7);have bm7:=hid (bm6.out.next hb7);have HB7:=hid (HB6.out.trans (hb7.mono HB6.out.size));have HO7:=hid (HO6.out.next hb7);clear hb7;rw [HBR.out];obtain ⟨y0,y1,y2⟩:=sqB3 bm7.out;obtain ⟨r0,r1⟩:=sqB2 br7.out
    cases hF:hasF m rs rn with
    | true =>
     have HO9:Hid (OwnP w7 w.heap.size u3 ((m.exports.take (k+1)).flatMap (exportP m))):=(by show OwnP _ _ _ _;rw [HJ6.out,HEP.out,hF];simpa using HO7.out);go_wp2_with fail;exact ⟨⟨k+1,by omega,by go_num,HO9,HB7,bm7⟩,by simp [intOf];omega⟩
    | false =>
     have HE2:Hid (exportP m ⟨rs,rn⟩ = [⟨m.name,rs,rn,cExport⟩]):=(by show _=_;rw [HEP.out,hF];rfl);go_wp2_with fail;refine (problemOf_any _ m.name (some ⟨g6,o6,none⟩) pf ne ce nf cf rs rn ⟨#[101,120,112,111,114,116]⟩).mono ?_;rintro e w8 ⟨rfl,hb8⟩;have bm8:=hid (bm7.out.next hb8);have HB8:=hid (HB7.out.trans (hb8.mono HB7.out.size));have HO8:=hid (HO7.out.next hb8);clear hb8 y0 y1 y2 r0 r1;go_wp2_with (at_builtin;refine wpList_append_one rfl _ _ 84 rfl _ 56 underlying84 info_pb rfl (by decide) HO8.out #[.string m.name,.string rs,.int .i64 rn,.string ⟨#[101,120,112,111,114,116]⟩] ⟨m.name,rs,rn,cExport⟩ HPB.out rfl (pb_oneCell _ _ HPB.out) rfl rfl (by have:=HL6.out;rw [HE2.out] at this;exact this) (by decide) ?_;intro v9 w9 ho9 hb9 hap9);have HO9:Hid (OwnP w9 w.heap.size v9 ((m.exports.take (k+1)).flatMap (exportP m))):=(by show OwnP _ _ _ _;rw [HJ6.out,HE2.out];exact ho9);have HB9:=hid (HB8.out.trans hb9);have b9:=hid (hap9.blk bm8.out (by decide));clear ho9 hb9 hap9;go_wp2_with fail;exact ⟨⟨k+1,by omega,by go_num,HO9,HB9,b9⟩,by simp [intOf];omega⟩
  . have HR:Hid (OwnP wr w.heap.size u3 (m.exports.flatMap (exportP m))):=by
     have:=ho.out
     rwa [show m.exports.take k=m.exports from List.take_of_length_le (by rw [HN1.out];omega)] at this
    clear ho;go_wp2;go_ret;exact ⟨_,rfl,HR.out,hb.out⟩
end
def setCl (ms:List Md) (k j i:Nat) (m:Md) (f:Fn') (c':Cl):List Md:=ms.set k ⟨m.name,m.exports,m.funs.set j ⟨f.name,f.arity,f.clauses.set i c'⟩⟩
structure FirstAt (ms:List Md) (q:Pl) (k j i:Nat) (m:Md) (f:Fn') (c:Cl):Prop where
 at_k:ms[k]?=some m
 nm:named q.mod m=true
 bk:(ms.take k).any (named q.mod)=false
 at_j:m.funs[j]?=some f
 nj:sameR ⟨q.name,q.arity⟩ f=true
 bj:(m.funs.take j).any (sameR ⟨q.name,q.arity⟩)=false
 at_i:f.clauses[i]?=some c
 ci:q.clause=i
def setAt (ms:List Md) (q:Pl) (g:Cl->Cl):List Md :=
 match ms.findIdx? (named q.mod) with
 | none=>ms
 | some k=>match ms[k]? with
  | none=>ms
  | some m=>match m.funs.findIdx? (sameR ⟨q.name,q.arity⟩) with
   | none=>ms
   | some j=>match m.funs[j]? with
    | none=>ms
    | some f=>match f.clauses[q.clause.toNat]? with
     | none=>ms
     | some c=>setCl ms k j q.clause.toNat m f (g c)
theorem findIdx_of {α:Type} {p:α->Bool} {xs:List α} {k:Nat} {x:α} (hx:xs[k]?=some x) (hp:p x=true) (hb:(xs.take k).any p=false):xs.findIdx? p=some k:=by
 rw [List.findIdx?_eq_some_iff_getElem];obtain ⟨hk,he⟩:=List.getElem?_eq_some_iff.1 hx;refine ⟨hk,by rw [he];exact hp,λj hj=>?_⟩;have:=List.any_eq_false.1 hb (xs[j]) (List.mem_of_getElem? (i:=j) (by rw [List.getElem?_take,if_pos hj];exact List.getElem?_eq_getElem _));exact this
theorem FirstAt.set {ms:List Md} {q:Pl} {k j i:Nat} {m:Md} {f:Fn'} {c:Cl} (h:FirstAt ms q k j i m f c) (g:Cl->Cl):setAt ms q g=setCl ms k j i m f (g c):=by
 have hi:q.clause.toNat=i:=(by rw [h.ci];simp);unfold setAt;rw [findIdx_of h.at_k h.nm h.bk];simp only [h.at_k];rw [findIdx_of h.at_j h.nj h.bj];simp only [h.at_j,hi,h.at_i]
theorem slice_eq {g off n cap g' n' cap':Nat} (h:(.slice (some ⟨g,off,none⟩) n cap:Value)=.slice (some ⟨g',0,none⟩) n' cap'):g=g'/\off=0:=by
 simp only [Value.slice.injEq,Option.some.injEq,Addr.mk.injEq] at h;exact ⟨h.1.1,h.1.2.1⟩
theorem prog_set {w:World} {d:Nat} {ms:List Md} {q:Pl} {v:Value} {fp fq:List Nat} {gc o:Nat} {c c':Cl} {pv bv:Value} (h:ORows w 61 3 (OMd w d) v ms fp) (hnd:fp.Nodup) (hP:ClP d ms q v w gc o c) (hu:OneName ms) (hone:∀ k m,ms[k]?=some m->named q.mod m=true->(ms.take k).any (named q.mod)=false)
 (hc:OCl w (OEx w d) [pv,bv] c' fq) (hfq:fq.Nodup) (hd:∀ a ∈ fq,a ∉ fp) :
 gc ∈ fp/\∃ k j i m f,FirstAt ms q k j i m f c/\∃ fp',ORows ((w.setCell ⟨gc,o,none⟩ pv).setCell ⟨gc,o+1,none⟩ bv) 61 3 (OMd ((w.setCell ⟨gc,o,none⟩ pv).setCell ⟨gc,o+1,none⟩ bv) d) v (setCl ms k j i m f c') fp'/\fp'.Nodup/\∀ a ∈ fp',a ∈ fp\/a ∈ fq:=by
 obtain ⟨gf,og,k,j,m,f,hF,i,oc,cc,hci,hck,hgc,hcell,rfl,-⟩:=hP;obtain ⟨g0,off0,cap0,of,cf,hv0,hcl0,rfl⟩:=hF.lies;obtain ⟨g1,cap1,cs1,f1,hv1,hg1,hs1,hg1f,hnd1,hl1,hcs1,hr1,step1⟩:=h.through hnd hF.at_k;obtain ⟨rfl,rfl⟩:=slice_eq (hv0.symm.trans hv1);obtain ⟨ev,fv,fa,fb,rfl,rfl,ok1,hev,hfv⟩:=hr1;have e1:=hcs1 2 (by omega);simp only [Nat.zero_add] at hcl0;rw [hcl0] at e1;simp only [List.getElem?_cons_succ,List.getElem?_cons_zero,Option.some.injEq] at e1;rw [List.nodup_append] at hnd1;obtain ⟨ndA,ndB,disAB⟩:=hnd1;obtain ⟨g2,cap2,cs2,f2,hv2,hg2,hs2,hg2f,hnd2,hl2,hcs2,hr2,step2⟩:=hfv.through ndB hF.at_j;obtain ⟨rfl,rfl⟩:=slice_eq (e1.trans hv2);obtain ⟨cv,rfl,ok2,ok3,hcv⟩:=hr2;have e2:=hcs2 2 (by omega);simp only [Nat.zero_add] at hcell;rw [hcell] at e2;simp only [List.getElem?_cons_succ,List.getElem?_cons_zero,Option.some.injEq] at e2;obtain ⟨g3,cap3,hv3,hg3,step3⟩:=hcv.store2 hnd2 hck;obtain ⟨rfl,rfl⟩:=slice_eq (e2.trans hv3);simp only [Nat.zero_add];generalize hW:(w.setCell ⟨gc,i * 2,none⟩ pv).setCell ⟨gc,i * 2+1,none⟩ bv=W
 have hoth:∀ a,a≠gc->W.heap[a]?=w.heap[a]?:=λa ha=>by rw [<-hW,Below.heap_setCell _ _ _ _ ha,Below.heap_setCell _ _ _ _ ha]
 have m3:gc ∈ fb:=hs2 gc hg3;have mf:gc ∈ fp:=hs1 gc (List.mem_append_right _ m3);have dq:∀ a ∈ fq,a≠gc:=λa ha e=>hd a ha (e ▸ mf);have hkq:KeepOn fq w W:=λa ha=>hoth a (dq a ha)
 have hfirst:FirstAt ms q k j i m f c:=⟨hF.at_k,hF.nm,hone k m hF.at_k hF.nm,hF.at_j,by
  have:=List.find?_some hF.first
  exact this,hF.before,hck,hci⟩
 obtain ⟨fp3,r3,n3,s3⟩:=step3 (OCl W (OEx W d)) c' pv bv fq (OCls.keep hc hkq) hfq (λa ha hm=>hd a ha (hs1 a (List.mem_append_right _ (hs2 a hm)))) (λcs y fy hg hr=>OCls.keep hr (λa ha=>hoth a (λe=>hg (e ▸ ha))));rw [hW] at r3;obtain ⟨fp2,r2,n2,s2⟩:=step2 W (OFn W d) ⟨f.name,f.arity,f.clauses.set i c'⟩ fp3 fq gc hg3 hoth ⟨cv,rfl,ok2,ok3,r3⟩ n3 s3 (λa ha hm=>hd a ha (hs1 a (List.mem_append_right _ hm))) (λcs y fy hg hr=>hr.keep (λa ha=>hoth a (λe=>hg (e ▸ ha))));have na:gc ∉ fa:=λhm=>disAB gc hm gc m3 rfl
 have nn:(fa ++ fp2).Nodup:=by
  rw [List.nodup_append];refine ⟨ndA,n2,λa ha b hb e=>?_⟩;subst e
  rcases s2 a hb with h' | h'
  . exact disAB a ha a h' rfl
  . exact hd a h' (hs1 a (List.mem_append_left _ ha))
 obtain ⟨fp1,r1,n1,s1⟩:=step1 W (OMd W d) ⟨m.name,m.exports,m.funs.set j ⟨f.name,f.arity,f.clauses.set i c'⟩⟩ (fa ++ fp2) fq gc (List.mem_append_right _ m3) hoth
  ⟨ev,fv,fa,fp2,rfl,rfl,ok1,hev.keep (λa ha=>hoth a (λe=>na (e ▸ ha))) (λcs x f _ _ h=>h),r2⟩ nn (λa ha=>by
   rcases List.mem_append.1 ha with h' | h'
   . exact .inl (List.mem_append_left _ h')
   . rcases s2 a h' with h2 | h2
     . exact .inl (List.mem_append_right _ h2)
     . exact .inr h2) hd (λcs y fy hg hr=>hr.keep (λa ha=>hoth a (λe=>hg (e ▸ ha))))
 exact ⟨mf,k,j,i,m,f,hfirst,fp1,r1,n1,s1⟩
theorem wtS_map {α:Type} (g:α->α) (f:α->Nat) (b:Nat) (hb:∀ x,1+f (g x)<=b * (1+f x)):∀ xs:List α,wtS f (xs.map g)<=b * wtS f xs
 | []=>by simp [wtS]
 | x :: xs=>by
  have h1:=wtS_map g f b hb xs;have h2:=hb x;have h3:wtS f (x :: xs)=(1+f x)+wtS f xs:=(by simp [wtS];omega);have h4:wtS f ((x :: xs).map g)=(1+f (g x))+wtS f (xs.map g):=(by simp [wtS];omega);rw [h3,h4,Nat.mul_add];omega
theorem ftV_size (sf st:ByteArray) (k:Int) (t m:ByteArray) (n:Nat) (hs:st.size<=10):(ftV sf st k t m n).size<=t.size+10:=by
 unfold ftV;split <;> omega
theorem mapX_wt (sf st:ByteArray) (hs:st.size<=10):∀ (d:Nat) (x:Ex),wtEx d (mapX (fT (ftV sf st)) d x)<=10+11 * wtEx d x
 | 0,_=>by simp [wtEx]
 | d+1,.mk k n t m ks cs=>by
  have hx:∀ y,1+wtEx d (mapX (fT (ftV sf st)) d y)<=11 * (1+wtEx d y):=λy=>by have:=mapX_wt sf st hs d y;omega
  have h1:=wtS_map (mapX (fT (ftV sf st)) d) (wtEx d) 11 hx ks
  have h2:=wtS_map (mapC (fT (ftV sf st)) d) (wtCl (wtEx d)) 11 (λc=>by
   have a1:=wtS_map (mapX (fT (ftV sf st)) d) (wtEx d) 11 hx c.1;have a2:=wtS_map (mapX (fT (ftV sf st)) d) (wtEx d) 11 hx c.2;have a3:wtCl (wtEx d) (mapC (fT (ftV sf st)) d c)=wtS (wtEx d) (c.1.map (mapX (fT (ftV sf st)) d))+wtS (wtEx d) (c.2.map (mapX (fT (ftV sf st)) d)):=rfl;have a4:wtCl (wtEx d) c=wtS (wtEx d) c.1+wtS (wtEx d) c.2:=rfl
   rw [a3,a4];omega) cs
  have h3:wtEx (d+1) (mapX (fT (ftV sf st)) (d+1) (.mk k n t m ks cs))=(ftV sf st k t m (ks.map (mapX (fT (ftV sf st)) d)).length).size+m.size+wtS (wtEx d) (ks.map (mapX (fT (ftV sf st)) d))+wtS (wtCl (wtEx d)) (cs.map (mapC (fT (ftV sf st)) d)):=rfl;have h4:wtEx (d+1) (.mk k n t m ks cs)=t.size+m.size+wtS (wtEx d) ks+wtS (wtCl (wtEx d)) cs:=rfl;have h5:=ftV_size sf st k t m (ks.map (mapX (fT (ftV sf st)) d)).length hs;rw [h3,h4];omega
theorem mapC_wt (sf st:ByteArray) (hs:st.size<=10) (d:Nat) (c:Cl):wtCl (wtEx d) (mapC (fT (ftV sf st)) d c)<=11 * wtCl (wtEx d) c:=by
 have hx:∀ y,1+wtEx d (mapX (fT (ftV sf st)) d y)<=11 * (1+wtEx d y):=λy=>by have:=mapX_wt sf st hs d y;omega
 have a1:=wtS_map (mapX (fT (ftV sf st)) d) (wtEx d) 11 hx c.1;have a2:=wtS_map (mapX (fT (ftV sf st)) d) (wtEx d) 11 hx c.2;have a3:wtCl (wtEx d) (mapC (fT (ftV sf st)) d c)=wtS (wtEx d) (c.1.map (mapX (fT (ftV sf st)) d))+wtS (wtEx d) (c.2.map (mapX (fT (ftV sf st)) d)):=rfl;have a4:wtCl (wtEx d) c=wtS (wtEx d) c.1+wtS (wtEx d) c.2:=rfl;rw [a3,a4];omega
theorem wtS_set {α:Type} (f:α->Nat) (xs:List α) (i:Nat) (x x':α) (hx:xs[i]?=some x):wtS f (xs.set i x')+f x=wtS f xs+f x':=by
 have key:∀ (xs:List α) (i:Nat),xs[i]?=some x->((xs.set i x').map f).sum+f x=(xs.map f).sum+f x':=by
  intro xs
  induction xs with
  | nil=>intro i h;simp at h
  | cons y ys ih =>
   intro i h
   cases i with
   | zero=>simp at h;subst h;simp;omega
   | succ i=>simp at h;have:=ih i h;simp at this ⊢;omega
 have:=key xs i hx;unfold wtS;rw [List.length_set];omega
theorem setCl_wt {d:Nat} {ms:List Md} {q:Pl} {k j i:Nat} {m:Md} {f:Fn'} {c c':Cl} (h:FirstAt ms q k j i m f c) (b:Nat) (hc:wtCl (wtEx d) c'<=wtCl (wtEx d) c+b):wtS (wtMd d) (setCl ms k j i m f c')<=wtS (wtMd d) ms+b:=by
 have h1:=wtS_set (wtCl (wtEx d)) f.clauses i c c' h.at_i;have h2:=wtS_set (wtFn d) m.funs j f ⟨f.name,f.arity,f.clauses.set i c'⟩ h.at_j;have h3:=wtS_set (wtMd d) ms k m ⟨m.name,m.exports,m.funs.set j ⟨f.name,f.arity,f.clauses.set i c'⟩⟩ h.at_k;have e1:wtFn d ⟨f.name,f.arity,f.clauses.set i c'⟩=f.name.size+wtS (wtCl (wtEx d)) (f.clauses.set i c'):=rfl;have e2:wtFn d f=f.name.size+wtS (wtCl (wtEx d)) f.clauses:=rfl;have e3:wtMd d ⟨m.name,m.exports,m.funs.set j ⟨f.name,f.arity,f.clauses.set i c'⟩⟩=m.name.size+wtS wtRf m.exports+wtS (wtFn d) (m.funs.set j ⟨f.name,f.arity,f.clauses.set i c'⟩):=rfl;have e4:wtMd d m=m.name.size+wtS wtRf m.exports+wtS (wtFn d) m.funs:=rfl;unfold setCl;omega
theorem FirstAt.clause {ms:List Md} {q:Pl} {k j i:Nat} {m:Md} {f:Fn'} {c:Cl} (h:FirstAt ms q k j i m f c) {d:Nat}:1+wtCl (wtEx d) c<=wtS (wtMd d) ms:=by
 have h1:=wtS_part (wtCl (wtEx d)) f.clauses i c h.at_i;have h2:=wtS_part (wtFn d) m.funs j f h.at_j;have h3:=wtS_part (wtMd d) ms k m h.at_k;have e2:wtFn d f=f.name.size+wtS (wtCl (wtEx d)) f.clauses:=rfl;have e4:wtMd d m=m.name.size+wtS wtRf m.exports+wtS (wtFn d) m.funs:=rfl;omega
theorem ren_wt {d:Nat} {ms:List Md} {q:Pl} {k j i:Nat} {m:Md} {f:Fn'} {c:Cl} (h:FirstAt ms q k j i m f c) (sf st:ByteArray) (hs:st.size<=10):wtS (wtMd d) (setCl ms k j i m f (mapC (fT (ftV sf st)) d c))<=11 * wtS (wtMd d) ms:=by
 have h1:=mapC_wt sf st hs d c;have h2:=setCl_wt (d:=d) (c':=mapC (fT (ftV sf st)) d c) h (10 * wtCl (wtEx d) c) (by omega);have h3:=h.clause (d:=d);omega
end Go.Proofs.YtbdhpganbbandaaGreatDoor
