/-
  CheckImplH CheckEq GoodTop RfCode
-/
import Derived.Test.YtdhlonogmnkemaaGreatDoorP22
import Derived.Test.YtdhlonogmnkemaaGreatDoorP29
set_option maxHeartbeats 16000000
set_option linter.unusedVariables false
set_option maxRecDepth 100000
namespace Go.Proofs.YtdhlonogmnkemaaGreatDoor
open Go.ChangeShapes Go.WideShapes Go.ChangeAt Go.RowKit
section
open Go.Proofs.Tryz
def Zc3 (ms:List Md) (m:Md) (d:Nat) (f:Fn'):List Pb:=(f.clauses.flatMap λc=>c.2.flatMap (preX d)).foldl (stK f.name f.arity ms m) []
def ZbF (m:Md) (d:Nat) (f:Fn'):List Pb:=if (ZaE d m).any (Z4 f.name f.arity) then [⟨m.name,f.name,f.arity,cLoose⟩] else []
def modQ (ms:List Md) (d:Nat) (m:Md):List Pb:=m.exports.flatMap (ZD m) ++ m.funs.flatMap λf=>ZbF m d f ++ Zc3 ms m d f
theorem okS_cLoose:okS cLoose:=by unfold okS cLoose maxLen;decide
theorem Zlc {w:World} {d:Nat} {v:Value} {m:Md} (h:Rows w All 3 (HFn w All d) v m.funs):∀ r ∈ ZaE d m,okS r.name/\okI r.arity:=by
 intro r hr;unfold ZaE at hr
 split at hr
 . obtain ⟨f,hf,rfl⟩:=ZiD hr
   obtain ⟨i,hi⟩:=List.mem_iff_getElem?.1 hf;obtain ⟨p,cap,_,_,_,hx⟩:=h;obtain ⟨g,off,_,_,_,hat⟩:=hx (by intro e;rw [e] at hi;simp at hi);obtain ⟨cs,_,_,hv⟩:=hat i f hi;obtain ⟨cv,_,h1,h2,_⟩:=hv;exact ⟨h1,h2⟩
 . cases hr
theorem ZgT (d:Nat) (w:World) (pv:Value) (ms:List Md) (hT:Tabs w) (h:Rows w All 3 (HMd w All d) pv ms) (hw:∀ m ∈ ms,wtMd d m<=16777216) (hLen:(ms.flatMap (modQ ms d)).length<=16777216)
 (hRun:∀ m ∈ ms,∀ f ∈ m.funs,Runs (λ(s:List Pb) _=>s.length+1<=16777216) (stK f.name f.arity ms m) [] (f.clauses.flatMap λc=>c.2.flatMap (preX d))) :
 Calls prog 109 #[.agg #[pv]] w λe w'=>∃ u,e=.returned u/\OwnP w' w.heap.size u (ms.flatMap (modQ ms d))/\Bz w w':=by
 have HTAB:=hid hT;have HMS:Hid (∀ w',Bz w w'->Rows w' All 3 (HMd w' All d) pv ms):=λw' hw=>h.mono (sqO hw) sqj (λ_ _ _ h=>h.mono (sqO hw) sqj);obtain ⟨p,cap,rfl,hcl,hcm,hx⟩:=h;have HX:=hid hx;have HLEN:=hid hLen;have HWM:=hid hw;have HRUN:=hid hRun;have hnb:=sqM hcl hcm;obtain ⟨ip,hip,hpz0,hpz1,hpz2⟩:=info_parts Zcb;generalize hn:ms.length=n at *;have HN:=hid hn;obtain ⟨W1,hW1⟩:∃ W1,W1=w.alloc (.cells #[.slice p n cap] 148):=⟨_,rfl⟩;have b1:Blk W1 w.heap.size #[.slice p n cap] 148:=(by rw [hW1];exact Blk.new);have hs1:W1.heap.size=w.heap.size+1:=(by rw [hW1,Zb]);have hb1:Bz w W1:=(by rw [hW1];exact (sqN _ _));have hal:Bz W1 (W1.alloc (.cells #[] 141)):=(sqN _ _);have B2:Hid (Bz w (W1.alloc (.cells #[] 141))):=hb1.trans (hal.mono hb1.size);have b2:Hid (Blk (W1.alloc (.cells #[] 141)) w.heap.size #[.slice p n cap] 148):=b1.next hal
 have O2:Hid (OwnP (W1.alloc (.cells #[] 141)) w.heap.size (.slice (some ⟨w.heap.size+1,0,none⟩) 0 0) []):=by
  have:=(OwnG.fresh (w:=W1) (e:=141) (c:=4) (R:=HPb)).base (B':=w.heap.size) (by omega);rw [hs1] at this;exact this
 have HW1:=hid hW1;clear hx hn b1 hb1 hal hs1 hW1 hT hw hLen hRun hcl hcm;go_enter func109,ntmps109;go_wp2_with fail;rw [<-HW1.out]
 go_loopw [3,13] (λov iv wx=>∃ a:Nat,a<=n/\iv=.int .i64 a/\Hid (OwnP wx w.heap.size ov ((ms.take a).flatMap (modQ ms d)))/\Hid (Bz w wx)/\Hid (Blk wx w.heap.size #[.slice p n cap] 148)) (λ_ iv _=>n - (intOf iv).toNat)
 case atStart=>exact ⟨0,Nat.zero_le _,rfl,by show OwnP _ _ _ _;simpa using O2.out,B2,b2⟩
 case round =>
  obtain ⟨a,ha,rfl,ho,hb,bb⟩:=hrel;clear O2 B2 b2;by_cases hlt:a<n
  . obtain ⟨m,hmk⟩:=sqA (l:=ms) (k:=a) HN.out hlt
    have hmm:=List.mem_of_getElem? hmk;obtain ⟨g,off,rfl,-,hgl,hat⟩:=HX.out (sqE hmk);obtain ⟨cs,hcsl,hcs,hm⟩:=hat a m hmk;have HMM:Hid (∀ w',Bz w w'->HMd w' All d cs m):=λw' hw=>hm.mono (sqO hw) sqj;have HWT:Hid (wtMd d m<=16777216):=HWM.out m hmm
    have HEL:Hid (m.exports.length<=16777216):=by
     have:=HWT.out;unfold wtMd wtS at this;show _<=_;omega
    have HRF:Hid (∀ f ∈ m.funs,Runs (λ(s:List Pb) _=>s.length+1<=16777216) (stK f.name f.arity ms m) [] (f.clauses.flatMap λc=>c.2.flatMap (preX d))):=HRUN.out m hmm;obtain ⟨ev,fv,rfl,hms,he,hf⟩:=hm;obtain ⟨pe,ce,rfl,-⟩:=he;obtain ⟨pf,cf,rfl,hcf,hcmf,hxf⟩:=hf;have HXF:=hid hxf;obtain ⟨a0,a1,a2⟩:=sqC3 hcs (by omega);rw [<-hb.out.cell (p:=⟨g,_,none⟩) hgl] at a0 a1 a2;simp at a0 a1 a2;have hki:(a:Int)<(n:Int):=(by omega);have hk0:=sqI a;have hnf:m.funs.length<=9223372036854775807:=(by unfold maxLen at hcmf;omega);obtain ⟨HJ,HL⟩:=Zbk (modQ ms d) ms a m hmk;have HJJ:Hid ((ms.take (a+1)).flatMap (modQ ms d)=((ms.take a).flatMap (modQ ms d) ++ m.exports.flatMap (ZD m)) ++ m.funs.flatMap λf=>ZbF m d f ++ Zc3 ms m d f):=(by show _=_;rw [HJ];simp only [modQ,List.append_assoc])
    have HLL:Hid (((ms.take a).flatMap (modQ ms d)).length+((m.exports.flatMap (ZD m)).length+(m.funs.flatMap λf=>ZbF m d f ++ Zc3 ms m d f).length)<=16777216):=by
     have h1:=HLEN.out;have h2:(modQ ms d m).length=(m.exports.flatMap (ZD m)).length+(m.funs.flatMap λf=>ZbF m d f ++ Zc3 ms m d f).length:=(by simp only [modQ,List.length_append]);show _<=_;omega
    generalize hA0:(ms.take a).flatMap (modQ ms d)=A0 at *;generalize hn1:m.exports.length=ne at *;have HN1:=hid hn1;generalize hn2:m.funs.length=nf at *;have HN2:=hid hn2;obtain ⟨W5,hW5⟩:∃ W5,W5=wr.alloc (.cells #[.string m.name,.slice pe ne ce,.slice pf nf cf] 63):=⟨_,rfl⟩;obtain ⟨bm,hbm⟩:∃ bm,bm=wr.heap.size:=⟨_,rfl⟩;have hal:Bz wr W5:=(by rw [hW5];exact (sqN _ _));have b5:Hid (Blk W5 bm #[.string m.name,.slice pe ne ce,.slice pf nf cf] 63):=(by show Blk _ _ _ _;rw [hW5,hbm];exact Blk.new);have bp5:Hid (Blk W5 w.heap.size #[.slice (some ⟨g,off,none⟩) n cap] 148):=bb.out.next hal;have HB5:Hid (Bz w W5):=hb.out.trans (hal.mono hb.out.size);have HO5:Hid (OwnP W5 w.heap.size u3 A0):=ho.out.next hal;have HW5:=hid hW5;have HBM:Hid (wr.heap.size=bm):=hbm.symm;have HMSN:=hid hms;obtain ⟨y0,y1,y2⟩:=sqB3 b5.out;rw [hW5,hbm] at y0 y1 y2;clear hxf hcs hcsl hat HJ HL hA0 ho hb bb hW5 hbm hms hn1 hn2 hmk hal hcf hcmf hmm;go_wp2_with fail;rw [<-HW5.out,HBM.out];clear a0 a1 a2 y0 y1 y2;refine (Zdl d _ _ m (HMM.out _ HB5.out) (by rw [HN1.out];exact HEL.out)).mono ?_;rintro e w6 ⟨u6,rfl,o6,hb6⟩;have R6:Hid (Rows w6 All 4 HPb u6 (m.exports.flatMap (ZD m))):=o6.rows;have b6:Hid (Blk w6 bm #[.string m.name,.slice pe ne ce,.slice pf nf cf] 63):=b5.out.next hb6;have bp6:Hid (Blk w6 w.heap.size #[.slice (some ⟨g,off,none⟩) n cap] 148):=bp5.out.next hb6;have HB6:Hid (Bz w w6):=HB5.out.trans (hb6.mono HB5.out.size);have HO6:Hid (OwnP w6 w.heap.size u3 A0):=HO5.out.next hb6;clear hb6 o6;go_wp2_with (at_builtin;refine Zau rfl _ _ 98 rfl _ 56 underlying98 Zcb rfl (by decide) HO6.out rfl u6 (m.exports.flatMap (ZD m)) rfl R6.out ZaK (by have:=HLL.out;omega) (by decide) ?_;intro v7 w7 ho7 hb7 hap7;have n7:=(hap7.blk b6.out (by decide)).cell 0 _ rfl;have n8:=(hap7.blk b6.out (by decide)).cell 1 _ rfl;have n9:=(hap7.blk b6.out (by decide)).cell 2 _ rfl);have HO7:=hid ho7;have HB7:Hid (Bz w w7):=HB6.out.trans hb7;have b7:Hid (Blk w7 bm #[.string m.name,.slice pe ne ce,.slice pf nf cf] 63):=hap7.blk b6.out (by decide);have bp7:Hid (Blk w7 w.heap.size #[.slice (some ⟨g,off,none⟩) n cap] 148):=hap7.blk bp6.out (by decide);clear ho7 hb7 hap7;clear n7 n8 n9;refine (ZfS d _ _ m (HTAB.out.below HB7.out) (HMM.out _ HB7.out) HWT.out).mono ?_;rintro e w8 ⟨u8',rfl,o8,hb8⟩;have HLR:Hid (OwnR w8 0 u8' (ZaE d m)):=o8.base (Nat.zero_le _);have b8:Hid (Blk w8 bm #[.string m.name,.slice pe ne ce,.slice pf nf cf] 63):=b7.out.next hb8;have bp8:Hid (Blk w8 w.heap.size #[.slice (some ⟨g,off,none⟩) n cap] 148):=bp7.out.next hb8;have HB8:Hid (Bz w w8):=HB7.out.trans (hb8.mono HB7.out.size);have HO8:Hid (OwnP w8 w.heap.size v7 (A0 ++ m.exports.flatMap (ZD m))):=HO7.out.next hb8;clear hb8 o8 HO7 HB7 b7 bp7 HO6 HB6 b6 bp6 R6 HO5 HB5 b5 bp5
    have HLOK:Hid (∀ r ∈ ZaE d m,okS r.name/\okI r.arity):=by
     obtain ⟨_,_,he,_,_,hf⟩:=HMM.out w (Below.refl _ _);simp only [List.cons.injEq,and_true] at he;exact Zlc hf
    generalize hQ:(λf:Fn'=>ZbF m d f ++ Zc3 ms m d f)=Q9 at *;have HQ:=hid hQ;generalize hA1:A0 ++ m.exports.flatMap (ZD m)=A1 at *
    have HLL2:Hid (A1.length+(m.funs.flatMap Q9).length<=16777216):=by
     have:=HLL.out;show _<=_;rw [<-hA1,List.length_append];omega
    clear hQ HLL hA1;have z2:=b8.out.cell 2 _ rfl;go_wp2_with fail;clear z2
    go_loopw [3,26] (λov iv wx=>∃ b:Nat,b<=nf/\iv=.int .i64 b/\Hid (OwnP wx w.heap.size ov (A1 ++ (m.funs.take b).flatMap Q9))/\Hid (Bz w wx)/\Hid (Blk wx w.heap.size #[.slice (some ⟨g,off,none⟩) n cap] 148)/\Hid (Blk wx bm #[.string m.name,.slice pe ne ce,.slice pf nf cf] 63)/\Hid (OwnR wx 0 u8' (ZaE d m))) (λ_ iv _=>nf - (intOf iv).toNat)
    case atStart=>exact ⟨0,Nat.zero_le _,rfl,by show OwnP _ _ _ _;simpa using HO8.out,HB8,bp8,b8,HLR⟩
    case round =>
     obtain ⟨b,hbn,rfl,ho,hb,bb,bq,hl⟩:=hrel;clear HLR b8 bp8 HB8 HO8;by_cases hlt2:b<nf
     . obtain ⟨f,hfk⟩:∃ f,m.funs[b]?=some f:=⟨m.funs[b]'(by rw [HN2.out];exact hlt2),List.getElem?_eq_getElem _⟩
       have hff:=List.mem_of_getElem? hfk;obtain ⟨g2,off2,rfl,-,hgl2,hat2⟩:=HXF.out (sqE hfk);obtain ⟨cs2,hcsl2,hcs2,hf2⟩:=hat2 b f hfk;have HFF:Hid (∀ w',Bz w w'->HFn w' All d cs2 f):=λw' hw=>hf2.mono (sqO hw) sqj;obtain ⟨cv,rfl,hfs,hfn,hfc⟩:=hf2;obtain ⟨pc,cc,rfl,-⟩:=hfc;obtain ⟨a0,a1,a2⟩:=sqC3 hcs2 (by omega);rw [<-hb.out.cell (p:=⟨g2,_,none⟩) hgl2] at a0 a1 a2;simp at a0 a1 a2;have hkb:(b:Int)<(nf:Int):=(by omega);have hb0:=sqI b;have HR2:Hid (Runs (λ(s:List Pb) _=>s.length+1<=16777216) (stK f.name f.arity ms m) [] (f.clauses.flatMap λc=>c.2.flatMap (preX d))):=HRF.out f hff;obtain ⟨HJ,HL⟩:=Zbk Q9 m.funs b f hfk;have HJ9:Hid (A1 ++ (m.funs.take (b+1)).flatMap Q9=(A1 ++ (m.funs.take b).flatMap Q9) ++ (ZbF m d f ++ Zc3 ms m d f)):=(by show _=_;rw [HJ,<-HQ.out,List.append_assoc])
       have HL9:Hid ((A1 ++ (m.funs.take b).flatMap Q9).length+((ZbF m d f).length+(Zc3 ms m d f).length)<=16777216):=by
        have h1:=HLL2.out;have h2:(Q9 f).length=(ZbF m d f).length+(Zc3 ms m d f).length:=(by rw [<-HQ.out];simp only [List.length_append]);show _<=_;rw [List.length_append];omega
       have HLQ:Hid (ZbF m d f=if (ZaE d m).any (Z4 f.name f.arity) then [⟨m.name,f.name,f.arity,cLoose⟩] else []):=rfl;generalize hA2:A1 ++ (m.funs.take b).flatMap Q9=A2 at *;generalize hn3:f.clauses.length=nc at *;obtain ⟨W9,hW9⟩:∃ W9,W9=wr.alloc (.cells #[.string f.name,.int .i64 f.arity,.slice pc nc cc] 59):=⟨_,rfl⟩;obtain ⟨bf,hbf⟩:∃ bf,bf=wr.heap.size:=⟨_,rfl⟩;have hal:Bz wr W9:=(by rw [hW9];exact (sqN _ _));have bf9:Hid (Blk W9 bf #[.string f.name,.int .i64 f.arity,.slice pc nc cc] 59):=(by show Blk _ _ _ _;rw [hW9,hbf];exact Blk.new);have bm9:Hid (Blk W9 bm #[.string m.name,.slice pe ne ce,.slice (some ⟨g2,off2,none⟩) nf cf] 63):=bq.out.next hal;have bp9:Hid (Blk W9 w.heap.size #[.slice (some ⟨g,off,none⟩) n cap] 148):=bb.out.next hal;have HB9:Hid (Bz w W9):=hb.out.trans (hal.mono hb.out.size);have HO9:Hid (OwnP W9 w.heap.size u3 A2):=ho.out.next hal;have HL8:Hid (OwnR W9 0 u8' (ZaE d m)):=hl.out.next hal;have HW9:=hid hW9;have HBF:Hid (wr.heap.size=bf):=hbf.symm;have HFS:=hid hfs;have HFI:=hid hfn;clear HJ HL hA2 hn3 hW9 hbf hal hcs2 hcsl2 hat2 ho hb bb bq hl hfs hfn hfk hff;go_wp2_with fail;rw [<-HW9.out,HBF.out];clear a0 a1 a2;refine (Zax f.name f.arity pc nc cc _).mono ?_;rintro e w10 ⟨rfl,hb10⟩;have bf10:Hid (Blk w10 bf #[.string f.name,.int .i64 f.arity,.slice pc nc cc] 59):=bf9.out.next hb10;have bm10:Hid (Blk w10 bm #[.string m.name,.slice pe ne ce,.slice (some ⟨g2,off2,none⟩) nf cf] 63):=bm9.out.next hb10;have bp10:Hid (Blk w10 w.heap.size #[.slice (some ⟨g,off,none⟩) n cap] 148):=bp9.out.next hb10;have HB10:Hid (Bz w w10):=HB9.out.trans (hb10.mono HB9.out.size);have HO10:Hid (OwnP w10 w.heap.size u3 A2):=HO9.out.next hb10;have HL10:Hid (OwnR w10 0 u8' (ZaE d m)):=HL8.out.next hb10;clear hb10 bf9 bm9 bp9 HB9 HO9 HL8 HW9 HBF;go_wp2_with fail;refine (Zb6 _ _ (ZaE d m) f.name f.arity (ORs.rows (HL10.out.tree HLOK.out))).mono ?_;rintro e w11 ⟨rfl,hb11⟩;have bf11:Hid (Blk w11 bf #[.string f.name,.int .i64 f.arity,.slice pc nc cc] 59):=bf10.out.next hb11;have bm11:Hid (Blk w11 bm #[.string m.name,.slice pe ne ce,.slice (some ⟨g2,off2,none⟩) nf cf] 63):=bm10.out.next hb11;have bp11:Hid (Blk w11 w.heap.size #[.slice (some ⟨g,off,none⟩) n cap] 148):=bp10.out.next hb11;have HB11:Hid (Bz w w11):=HB10.out.trans (hb11.mono HB10.out.size);have HO11:Hid (OwnP w11 w.heap.size u3 A2):=HO10.out.next hb11;have HL11:Hid (OwnR w11 0 u8' (ZaE d m)):=HL10.out.next hb11;clear hb11 bf10 bm10 bp10 HB10 HO10 HL10;obtain ⟨fz0,fz1,fz2⟩:=sqB3 bf11.out;obtain ⟨mz0,mz1,mz2⟩:=sqB3 bm11.out;have pz0:=bp11.out.cell 0 _ rfl
       cases hLS:(ZaE d m).any (Z4 f.name f.arity) with
       | false =>
        have HQ0:Hid (ZbF m d f = []):=(by show _=_;rw [HLQ.out,hLS];rfl);go_wp2_with fail;clear fz0 fz1 fz2 mz0 mz1 mz2 pz0;refine (Zcg d _ _ ms _ m _ f (HMS.out _ HB11.out) (HMM.out _ HB11.out) (HFF.out _ HB11.out) HR2.out).mono ?_;rintro e w15 ⟨u15,rfl,o15,hb15⟩;have R15:Hid (Rows w15 All 4 HPb u15 (Zc3 ms m d f)):=o15.rows;have bm15:Hid (Blk w15 bm #[.string m.name,.slice pe ne ce,.slice (some ⟨g2,off2,none⟩) nf cf] 63):=bm11.out.next hb15;have bp15:Hid (Blk w15 w.heap.size #[.slice (some ⟨g,off,none⟩) n cap] 148):=bp11.out.next hb15;have HB15:Hid (Bz w w15):=HB11.out.trans (hb15.mono HB11.out.size);have HO15:Hid (OwnP w15 w.heap.size u3 A2):=HO11.out.next hb15;have HL15:Hid (OwnR w15 0 u8' (ZaE d m)):=HL11.out.next hb15;clear hb15 o15;go_wp2_with (at_builtin;refine Zau rfl _ _ 98 rfl _ 56 underlying98 Zcb rfl (by decide) HO15.out rfl u15 (Zc3 ms m d f) rfl R15.out ZaK (by have:=HL9.out;rw [HQ0.out] at this;simp only [List.length_nil] at this;omega) (by decide) ?_;intro v16 w16 ho16 hb16 hap16);have HO16:Hid (OwnP w16 w.heap.size v16 (A1 ++ (m.funs.take (b+1)).flatMap Q9)):=(by show OwnP _ _ _ _;rw [HJ9.out,HQ0.out];simpa using ho16);have HB16:Hid (Bz w w16):=HB15.out.trans hb16;have bp16:Hid (Blk w16 w.heap.size #[.slice (some ⟨g,off,none⟩) n cap] 148):=hap16.blk bp15.out (by decide);have bm16:Hid (Blk w16 bm #[.string m.name,.slice pe ne ce,.slice (some ⟨g2,off2,none⟩) nf cf] 63):=hap16.blk bm15.out (by decide);have HL16:Hid (OwnR w16 0 u8' (ZaE d m)):=⟨hap16.owns HL15.out.1 (by decide),Nat.zero_le _⟩;clear ho16 hb16 hap16;go_wp2_with fail;exact ⟨⟨b+1,by omega,by go_num,HO16,HB16,bp16,bm16,HL16⟩,by simp [intOf];omega⟩
       | true =>
        have HQ1:Hid (ZbF m d f = [⟨m.name,f.name,f.arity,cLoose⟩]):=(by show _=_;rw [HLQ.out,hLS];rfl);have HPB:Hid (HPb [.string m.name,.string f.name,.int .i64 f.arity,.string ⟨#[108,111,111,115,101]⟩] ⟨m.name,f.name,f.arity,cLoose⟩):=⟨rfl,HMSN.out,HFS.out,HFI.out,okS_cLoose⟩
        have HL91:Hid (A2.length+1<=16777216):=by
         have:=HL9.out;rw [HQ1.out] at this;show _<=_;simp only [List.length_cons,List.length_nil] at this;omega
        have NXT:Hid (∀ w9,Below w.heap.size w11 w9->Zai 141 w11 w9->Blk w9 bf #[.string f.name,.int .i64 f.arity,.slice pc nc cc] 59/\Blk w9 bm #[.string m.name,.slice pe ne ce,.slice (some ⟨g2,off2,none⟩) nf cf] 63/\Blk w9 w.heap.size #[.slice (some ⟨g,off,none⟩) n cap] 148/\OwnR w9 0 u8' (ZaE d m)/\Bz w w9):=λw9 hb9 hap9 =>
         ⟨hap9.blk bf11.out (by decide),hap9.blk bm11.out (by decide),hap9.blk bp11.out (by decide),⟨hap9.owns HL11.out.1 (by decide),Nat.zero_le _⟩,HB11.out.trans hb9⟩
        go_wp2_with fail
        go_region_law
         (first
          | (go_simp;go_at_call 93;refine (Zax _ _ _ _ _ _).mono ?_;rintro e w12 ⟨rfl,hb12⟩;have K12:Hid (Bz w11 w12):=⟨hb12.os,hb12.tape,hb12.output,hb12.size,hb12.block⟩;have m12:=bm11.out.next K12.out;obtain ⟨mx0,mx1,mx2⟩:=sqB3 m12;clear hb12 m12;dsimp only)
          | (go_simp;go_at_call 153;refine (Zb5 _ m.name pe (some ⟨g2,off2,none⟩) ne ce nf cf f.name f.arity ⟨#[108,111,111,115,101]⟩).mono ?_;rintro e w13 ⟨rfl,hb13⟩;have K13:Hid (Bz w11 w13):=K12.out.trans (hb13.mono K12.out.size);have HOA:Hid (OwnP (w13.alloc (.cells #[.string m.name,.string f.name,.int .i64 f.arity,.string ⟨#[108,111,111,115,101]⟩] 141)) w.heap.size u3 A2):=(HO11.out.next K13.out).next ((sqN _ _));have HGA:Hid (Blk (w13.alloc (.cells #[.string m.name,.string f.name,.int .i64 f.arity,.string ⟨#[108,111,111,115,101]⟩] 141)) w13.heap.size #[.string m.name,.string f.name,.int .i64 f.arity,.string ⟨#[108,111,111,115,101]⟩] 141):=Blk.new;have KA13:Hid (Bz w11 (w13.alloc (.cells #[.string m.name,.string f.name,.int .i64 f.arity,.string ⟨#[108,111,111,115,101]⟩] 141))):=K13.out.alloc K13.out.size _;clear hb13;dsimp only)
          | (refine ZB (by rfl) _ _ _ (by rfl) _ 56 underlying98 Zcb rfl (by decide) HOA.out w13.heap.size #[.string m.name,.string f.name,.int .i64 f.arity,.string ⟨#[108,111,111,115,101]⟩] HGA.out ⟨m.name,f.name,f.arity,cLoose⟩ HPB.out rfl (ZaK _ _ HPB.out) (by rfl) (by rfl) HL91.out (by decide) ?_;intro v9 w9 ho9 hb9 hap9;have HO14:=hid ho9;have nx9:=NXT.out w9 ((KA13.out.mono HB11.out.size).trans hb9) ((Zai.of_below KA13.out).trans hap9);have HNX:=hid nx9;obtain ⟨fv0,fv1,fv2⟩:=sqB3 nx9.1;obtain ⟨mv0,mv1,mv2⟩:=sqB3 nx9.2.1;have pv0:=nx9.2.2.1.cell 0 _ rfl;clear ho9 hb9 hap9 nx9))
        all_goals
         go_wp2_with fail;clear fz0 fz1 fz2 mz0 mz1 mz2 pz0 fv0 fv1 fv2 mv0 mv1 mv2 pv0;refine (Zcg d _ _ ms _ m _ f (HMS.out _ HNX.out.2.2.2.2) (HMM.out _ HNX.out.2.2.2.2) (HFF.out _ HNX.out.2.2.2.2) HR2.out).mono ?_;rintro e w15 ⟨u15,rfl,o15,hb15⟩;have R15:Hid (Rows w15 All 4 HPb u15 (Zc3 ms m d f)):=o15.rows;have bm15:Hid (Blk w15 bm #[.string m.name,.slice pe ne ce,.slice (some ⟨g2,off2,none⟩) nf cf] 63):=HNX.out.2.1.next hb15;have bp15:Hid (Blk w15 w.heap.size #[.slice (some ⟨g,off,none⟩) n cap] 148):=HNX.out.2.2.1.next hb15;have HB15:Hid (Bz w w15):=HNX.out.2.2.2.2.trans (hb15.mono HNX.out.2.2.2.2.size);have HO15:Hid (OwnP w15 w.heap.size v9 (A2 ++ [⟨m.name,f.name,f.arity,cLoose⟩])):=HO14.out.next hb15;have HL15:Hid (OwnR w15 0 u8' (ZaE d m)):=HNX.out.2.2.2.1.next hb15;clear hb15 o15;go_wp2_with (at_builtin;refine Zau rfl _ _ 98 rfl _ 56 underlying98 Zcb rfl (by decide) HO15.out rfl u15 (Zc3 ms m d f) rfl R15.out ZaK (by have:=HL9.out;rw [HQ1.out] at this;simp only [List.length_append,List.length_cons,List.length_nil] at this ⊢;omega) (by decide) ?_;intro v16 w16 ho16 hb16 hap16);have HO16:Hid (OwnP w16 w.heap.size v16 (A1 ++ (m.funs.take (b+1)).flatMap Q9)):=(by show OwnP _ _ _ _;rw [HJ9.out,HQ1.out];simpa using ho16);have HB16:Hid (Bz w w16):=HB15.out.trans hb16;have bp16:Hid (Blk w16 w.heap.size #[.slice (some ⟨g,off,none⟩) n cap] 148):=hap16.blk bp15.out (by decide);have bm16:Hid (Blk w16 bm #[.string m.name,.slice pe ne ce,.slice (some ⟨g2,off2,none⟩) nf cf] 63):=hap16.blk bm15.out (by decide);have HL16:Hid (OwnR w16 0 u8' (ZaE d m)):=⟨hap16.owns HL15.out.1 (by decide),Nat.zero_le _⟩;clear ho16 hb16 hap16;go_wp2_with fail;exact ⟨⟨b+1,by omega,by go_num,HO16,HB16,bp16,bm16,HL16⟩,by simp [intOf];omega⟩
     . have HR:Hid (OwnP wr w.heap.size u3 ((ms.take (a+1)).flatMap (modQ ms d))):=by
        have h1:=ho.out;rw [show m.funs.take b=m.funs from List.take_of_length_le (by rw [HN2.out];omega)] at h1;show OwnP _ _ _ _;rw [HJJ.out];exact h1
       clear ho;go_wp2_with fail;exact ⟨⟨a+1,by omega,by go_num,HR,hb,bb⟩,by simp [intOf];omega⟩
  . have HR:Hid (OwnP wr w.heap.size u3 (ms.flatMap (modQ ms d))):=by
     have h1:=ho.out
     rwa [show ms.take a=ms from List.take_of_length_le (by rw [HN.out];omega)] at h1
    clear ho;go_wp2;go_ret;exact ⟨_,rfl,HR.out,hb.out⟩
end
theorem Zdo {d:Nat} {ms:List Md} (h:pgOk d ms=true):∀ m ∈ ms,mdOk d m=true:=by
 intro m hm;obtain ⟨k,hk⟩:=List.mem_iff_getElem?.1 hm;have hl:k<ms.length:=(List.getElem?_eq_some_iff.1 hk).1
 cases hb:mdOk d m with
 | true=>rfl
 | false =>
  have h1:=Zew hk hb;unfold pgOk at h;rw [ZY _ _ k hl h1] at h;simp at h
theorem Zcv {α β:Type} {f:α->List β}:∀ {l:List α},(∀ x ∈ l,f x = [])->l.flatMap f = []
 | [],_=>rfl
 | x :: l,h=>by rw [List.flatMap_cons,h x List.mem_cons_self,Zcv (λy hy=>h y (List.mem_cons_of_mem _ hy))];rfl
theorem Zaz {α β:Type} {f g:α->List β}:∀ {l:List α},(∀ x ∈ l,f x=g x)->l.flatMap f=l.flatMap g
 | [],_=>rfl
 | x :: l,h=>by rw [List.flatMap_cons,List.flatMap_cons,h x List.mem_cons_self,Zaz (λy hy=>h y (List.mem_cons_of_mem _ hy))]
theorem Zic (ms:List Md) (m:Md):∀ (d:Nat) (x:Ex) (deep:Int),exOk d x true deep=true->(preX d x).flatMap (Zag ms m) = []
 | 0,_,_,h=>by simp [exOk] at h
 | d+1,.mk k n t mo ks cs,deep,h=>by
  obtain ⟨h1,h2,h3,h4,h5,h6⟩:=Zbj h;have hk:=h4 rfl;have hcs:cs = []:=h1 (by omega);subst hcs;have hc:Zag ms m (.mk k n t mo ks []) = []:=(by unfold Zag;rw [if_neg (by simp only [Ex.kind];omega)])
  have hkids:ks.flatMap (λy=>(preX d y).flatMap (Zag ms m)) = []:=Zcv (λy hy=>by
   obtain ⟨p,hp,he⟩:=h5 y hy;rw [hp rfl] at he
   exact Zic ms m d y _ he)
  simp only [preX,Ex.kids,Ex.clauses,List.flatMap_nil,List.append_nil,List.flatMap_cons,hc,List.nil_append,List.flatMap_assoc];exact hkids
theorem ZeL (ms:List Md) (m:Md):∀ (d:Nat) (x:Ex) (p:Bool) (deep:Int),exOk d x p deep=true->(preX d x).flatMap (Zag ms m)=Zr ms m d x
 | 0,_,_,_,h=>by simp [exOk] at h
 | d+1,.mk k n t mo ks cs,p,deep,h=>by
  obtain ⟨h1,h2,h3,h4,h5,h6⟩:=Zbj h
  have hkids:ks.flatMap (λy=>(preX d y).flatMap (Zag ms m))=ks.flatMap (Zr ms m d):=Zaz (λy hy=>by
   obtain ⟨q,_,he⟩:=h5 y hy
   exact ZeL ms m d y q _ he)
  have hcl:cs.flatMap (λc:Cl=>(c.1.flatMap (preX d) ++ c.2.flatMap (preX d)).flatMap (Zag ms m))=cs.flatMap (λc:Cl=>c.2.flatMap (Zr ms m d)):=Zaz (λc hc=>by
   rw [List.flatMap_append,List.flatMap_assoc,List.flatMap_assoc];rw [Zcv (λy hy=>Zic ms m d y _ ((h6 c hc).1 y hy)),List.nil_append]
   exact Zaz (λy hy=>ZeL ms m d y false _ ((h6 c hc).2 y hy)))
  simp only [preX,Zr,Zn,Zh,Ex.kids,Ex.clauses,List.flatMap_cons,List.flatMap_append,List.flatMap_assoc] at *;rw [hkids,hcl]
/-! Codes, each once. -/
theorem Zcw:∀ (a b l:List ByteArray),Zq l (a ++ b)=Zq (Zq l a) b
 | [],b,l=>rfl
 | y :: a,b,l=>Zcw a b _
theorem Zc4 (pre:List ByteArray):∀ (C l:List ByteArray),(∀ c ∈ C,hasS pre c=false)->Zq (pre ++ l) C=pre ++ Zq l C
 | [],l,_=>rfl
 | y :: C,l,h=>by
  have h1:hasS (pre ++ l) y=hasS l y:=by
   have:=h y List.mem_cons_self;unfold hasS at *;rw [List.any_append,this,Bool.false_or]
  show Zq (if hasS (pre ++ l) y then pre ++ l else (pre ++ l) ++ [y]) C=pre ++ Zq (if hasS l y then l else l ++ [y]) C;rw [h1]
  split
  . exact Zc4 pre C l (λc hc=>h c (List.mem_cons_of_mem _ hc))
  . rw [List.append_assoc]
    exact Zc4 pre C _ (λc hc=>h c (List.mem_cons_of_mem _ hc))
theorem Zfq (ms:List Md) (m:Md) (d:Nat):∀ (l:List Ex) (o:List ByteArray),l.foldl (λo b=>Zq o (Zr ms m d b)) o=Zq o (l.flatMap (Zr ms m d))
 | [],o=>rfl
 | x :: l,o=>by
  rw [List.foldl_cons,Zfq ms m d l,List.flatMap_cons,Zcw]
theorem ZjR (x:Ex):(codeOf x).toList≠[]:=by unfold codeOf;split <;> simp [Zc9,cFar,ByteArray.toList_eq]
theorem ZgU (x:Ex):hasS [cLoose] (codeOf x)=false:=by unfold codeOf;split <;> simp [hasS,Zc9,cFar,cLoose,ByteArray.toList_eq]
theorem ZeM (ms:List Md) (m:Md) (x:Ex):Zag ms m x=if x.kind=8 then (if wrongB ms m x then [codeOf x] else []) else []:=by
 unfold Zag;rw [Zhx]
 cases wrongB ms m x
 . simp
 . simp only [if_true,if_neg (ZjR x)]
theorem ZhJ (ms:List Md) (m:Md) (x:Ex):∀ c ∈ Zag ms m x,hasS [cLoose] c=false:=by
 rw [ZeM]
 split
 . split
   . intro c hc
     rw [List.mem_singleton.1 hc];exact ZgU x
   . intro c hc;cases hc
 . intro c hc;cases hc
theorem Zd8 (ms:List Md) (m:Md):∀ (d:Nat) (x:Ex),∀ c ∈ Zr ms m d x,hasS [cLoose] c=false
 | 0,_,c,h=>by cases h
 | d+1,x,c,h=>by
  simp only [Zr,List.mem_append,List.mem_flatMap] at h
  rcases h with h | ⟨y,_,h⟩
  . exact ZhJ ms m x c h
  . exact Zd8 ms m d y c h
theorem ZjS (ms:List Md) (m:Md) (fs:ByteArray) (fn:Int):∀ (L:List Ex) (s:List ByteArray),
 L.foldl (stK fs fn ms m) (s.map λc=>⟨m.name,fs,fn,c⟩)=(Zq s (L.flatMap (Zag ms m))).map λc=>⟨m.name,fs,fn,c⟩
 | [],s=>rfl
 | x :: L,s=>by
  have hst:stK fs fn ms m (s.map λc=>⟨m.name,fs,fn,c⟩) x=(Zq s (Zag ms m x)).map λc=>⟨m.name,fs,fn,c⟩:=by
   unfold stK stC;rw [ZeM]
   have ha:(s.map λc=>(⟨m.name,fs,fn,c⟩:Pb)).any (Zcq ⟨m.name,fs,fn,codeOf x⟩)=hasS s (codeOf x):=by
    rw [List.any_map];unfold hasS
    congr 1
    funext y
    simp only [Function.comp,Zcq,beq_self_eq_true,Bool.true_and];exact Bool.beq_comm
   split
   . rw [ha]
     cases wrongB ms m x
     . simp [Zq]
     . simp only [Bool.true_and,if_true,Zq]
       cases hasS s (codeOf x) <;> simp
   . simp [Zq]
  rw [List.foldl_cons,hst,ZjS ms m fs fn L,List.flatMap_cons,Zcw]
theorem ZiM (f:Fn') (d:Nat):(f.clauses.flatMap λc:Cl=>c.2.flatMap (preX d))=(Zh f.clauses).flatMap (preX d):=by
 unfold Zh;rw [List.flatMap_assoc]
/-! A function is told by its name and arity. -/
theorem Zl9 {d:Nat} {m:Md} (h:mdOk d m=true) {f g:Fn'} (hf:f ∈ m.funs) (hg:g ∈ m.funs) (h1:g.name.toList=f.name.toList) (h2:g.arity=f.arity):g=f:=by
 unfold mdOk fnsB at h;simp only [Bool.and_eq_true,List.all_eq_true] at h;have hall:=h.2.2.2;obtain ⟨i,hi⟩:=List.mem_iff_getElem?.1 hf;obtain ⟨j,hj⟩:=List.mem_iff_getElem?.1 hg
 have key:∀ (i j:Nat) (f g:Fn'),m.funs[i]?=some f->m.funs[j]?=some g->f.name.toList=g.name.toList->f.arity=g.arity->¬ i<j:=by
  intro i j f g hi hj e1 e2 hlt;have hl:j<m.funs.length:=(List.getElem?_eq_some_iff.1 hj).1;have h3:=hall j (by simpa using hl);unfold ZbG at h3;rw [hj] at h3;simp only [Bool.and_eq_true,Bool.not_eq_true'] at h3
  have h4:=List.any_eq_false.1 h3.2 f (by
   refine List.mem_iff_getElem?.2 ⟨i,?_⟩
   rw [List.getElem?_take_of_lt hlt];exact hi)
  apply h4
  simp [ZF,e1,e2]
 have e1:=key i j f g hi hj h1.symm h2.symm;have e2:=key j i g f hj hi h1 h2;have:i=j:=(by omega);subst this;rw [hi] at hj;exact (Option.some.inj hj).symm
theorem ZjT {d:Nat} {m:Md} (h:mdOk d m=true) {f:Fn'} (hf:f ∈ m.funs):(ZaE d m).any (Z4 f.name f.arity)=looseF d f:=by
 unfold ZaE;rw [if_pos h]
 cases hl:looseF d f with
 | true =>
  rw [List.any_eq_true];refine ⟨rfOf f,?_,by simp [Z4,rfOf]⟩;unfold looseL;exact List.mem_map.2 ⟨f,List.mem_filter.2 ⟨hf,hl⟩,rfl⟩
 | false =>
  rw [List.any_eq_false];intro r hr hs;unfold looseL at hr;obtain ⟨g,hg,rfl⟩:=List.mem_map.1 hr;obtain ⟨hg1,hg2⟩:=List.mem_filter.1 hg;simp only [Z4,rfOf,Bool.and_eq_true,beq_iff_eq] at hs;have:=Zl9 h hf hg1 hs.1 hs.2;subst this;rw [hl] at hg2
  cases hg2
theorem Zma {d:Nat} {ms:List Md} {m:Md} (h:mdOk d m=true) {f:Fn'} (hf:f ∈ m.funs):ZbF m d f ++ Zc3 ms m d f=funP ms m d f:=by
 have hc:=Zcs h f hf
 have h1:Zc3 ms m d f=(Zq [] ((Zh f.clauses).flatMap (Zr ms m d))).map λc=>⟨m.name,f.name,f.arity,c⟩:=by
  unfold Zc3;have:=ZjS ms m f.name f.arity (f.clauses.flatMap λc=>c.2.flatMap (preX d)) [];rw [List.map_nil] at this;rw [this,ZiM,List.flatMap_assoc]
  rw [Zaz (f:=λy=>(preX d y).flatMap (Zag ms m)) (g:=Zr ms m d) (λy hy=>by
   unfold Zh at hy;obtain ⟨c,hcm,hy⟩:=List.mem_flatMap.1 hy
   exact ZeL ms m d y false _ ((hc c hcm).2 y hy))]
 have h2:ZbF m d f=(lsL (looseF d f)).map λc=>⟨m.name,f.name,f.arity,c⟩:=by
  unfold ZbF lsL;rw [ZjT h hf]
  cases looseF d f <;> rfl
 have h3:funC ms m d f=lsL (looseF d f) ++ Zq [] ((Zh f.clauses).flatMap (Zr ms m d)):=by
  unfold funC;rw [Zfq]
  have h4:∀ c ∈ (Zh f.clauses).flatMap (Zr ms m d),hasS (lsL (looseF d f)) c=false:=by
   intro c hc;obtain ⟨y,_,hy⟩:=List.mem_flatMap.1 hc;unfold lsL
   split
   . exact Zd8 ms m d y c hy
   . rfl
  have:=Zc4 (lsL (looseF d f)) _ [] h4
  rwa [List.append_nil] at this
 unfold funP;rw [h3,h1,h2,List.map_append]
theorem Zmb {d:Nat} {ms:List Md} {m:Md} (h:mdOk d m=true):modQ ms d m=modP ms d m:=by
 unfold modQ modP;rw [Zaz (λf hf=>Zma h hf)]
theorem ZjU {d:Nat} {ms:List Md} (h:pgOk d ms=true):ms.flatMap (modQ ms d)=ms.flatMap (modP ms d) :=
 Zaz (λm hm=>Zmb (Zdo h m hm))
/-! The list is short. -/
theorem Zby {α β:Type} (f:α->List β) (g:α->Nat):∀ (l:List α),(∀ x ∈ l,(f x).length<=1+g x)->(l.flatMap f).length<=wtS g l
 | [],_=>by simp [wtS]
 | x :: l,h=>by
  have h1:=Zby f g l (λy hy=>h y (List.mem_cons_of_mem _ hy));have h2:=h x List.mem_cons_self;rw [List.flatMap_cons,List.length_append];unfold wtS at *;simp only [List.length_cons,List.map_cons,List.sum_cons];omega
theorem Zen:∀ (d:Nat) (x:Ex),(preX d x).length<=1+wtEx d x
 | 0,x=>by simp [preX]
 | d+1,x=>by
  have h1:=Zby (preX d) (wtEx d) x.kids (λy _=>Zen d y)
  have h2:=Zby (λc:Cl=>c.1.flatMap (preX d) ++ c.2.flatMap (preX d)) (wtCl (wtEx d)) x.clauses (λc _=>by
   have h3:=Zby (preX d) (wtEx d) c.1 (λy _=>Zen d y);have h4:=Zby (preX d) (wtEx d) c.2 (λy _=>Zen d y);unfold wtCl;rw [List.length_append]
   omega)
  simp only [preX,wtEx,List.length_cons,List.length_append];omega
theorem Zmc (fs:ByteArray) (fn:Int) (ms:List Md) (m:Md) (s:List Pb) (x:Ex):(stK fs fn ms m s x).length<=s.length+1:=by
 unfold stK stC
 split
 . split
   . simp
   . omega
 . omega
theorem ZjV (fs:ByteArray) (fn:Int) (ms:List Md) (m:Md):∀ (L:List Ex) (s:List Pb),s.length+L.length<=16777216->Runs (λ(s:List Pb) _=>s.length+1<=16777216) (stK fs fn ms m) s L
 | [],s,_=>trivial
 | x :: L,s,h=>by
  simp only [List.length_cons] at h;have:=Zmc fs fn ms m s x;exact ⟨by omega,ZjV fs fn ms m L _ (by omega)⟩
theorem ZjW {α:Type} (f:α->Nat) {l:List α} {x:α} (h:x ∈ l):f x<=wtS f l:=by
 obtain ⟨k,hk⟩:=List.mem_iff_getElem?.1 h;have h1:=Ze f l k x hk;have h2:=Zf f l (k+1);unfold wtS;omega
theorem Zld {d:Nat} {ms:List Md} (hw:wtS (wtMd d) ms<=16777216):∀ m ∈ ms,∀ f ∈ m.funs,Runs (λ(s:List Pb) _=>s.length+1<=16777216) (stK f.name f.arity ms m) [] (f.clauses.flatMap λc=>c.2.flatMap (preX d)):=by
 intro m hm f hf;refine ZjV _ _ _ _ _ _ ?_;have h1:=ZjW (wtMd d) hm;have h2:=ZjW (wtFn d) hf
 have h3:=Zby (λc:Cl=>c.2.flatMap (preX d)) (wtCl (wtEx d)) f.clauses (λc _=>by
  have h4:=Zby (preX d) (wtEx d) c.2 (λy _=>Zen d y);unfold wtCl
  omega)
 have h5:wtMd d m=m.name.size+wtS wtRf m.exports+wtS (wtFn d) m.funs:=rfl;have h6:wtFn d f=f.name.size+wtS (wtCl (wtEx d)) f.clauses:=rfl;rw [List.length_nil];omega
section
open Go.Proofs.Tryz
def Za4 (d:Nat) (ms:List Md):Bool:=pgOk d ms && (Zct d ms).isEmpty
theorem Zd9 (d:Nat) (w:World) (v:Value) (ms:List Md) (hT:Tabs w) (h:Rows w All 3 (HMd w All d) v ms) (hw:wtS (wtMd d) ms<=16777216) :
 Calls prog 68 #[v] w λe w'=>e=.returned (.bool (Za4 d ms))/\Bz w w':=by
 have HTAB:=hid hT;have HMS:Hid (∀ w',Bz w w'->Rows w' All 3 (HMd w' All d) v ms):=λw' hw=>h.mono (sqO hw) sqj (λ_ _ _ h=>h.mono (sqO hw) sqj);have HWM:Hid (∀ m ∈ ms,wtMd d m<=16777216):=λm hm=>Nat.le_trans (ZjW (wtMd d) hm) hw;have HRUN:=hid (Zld hw);have HLEN:=hid (Nat.le_trans (Zh8 ms ms d) hw);have HO0:=hid h;obtain ⟨p,cap,rfl,-⟩:=h;clear hT hw;go_enter func68,ntmps68;go_wp2_with fail;refine (ZdI d _ _ ms HTAB.out HO0.out).mono ?_;rintro e w1 ⟨rfl,hb1⟩;have HB1:=hid hb1;clear hb1
 cases hG:pgOk d ms with
 | false =>
  have HC:Hid (Za4 d ms=false):=(by show _=_;unfold Za4;rw [hG];rfl);go_wp2;go_ret;exact ⟨by rw [HC.out];rfl,HB1.out⟩
 | true =>
  have HC:Hid (Za4 d ms=(ms.flatMap (modQ ms d)).isEmpty):=(by show _=_;unfold Za4 Zct;rw [hG,if_pos rfl,ZjU hG,Bool.true_and]);have HLQ:Hid ((ms.flatMap (modQ ms d)).length<=16777216):=(by show _<=_;rw [ZjU hG];exact HLEN.out);go_wp2_with fail;refine (ZgT d _ _ ms (HTAB.out.below HB1.out) (HMS.out _ HB1.out) HWM.out HLQ.out HRUN.out).mono ?_;rintro e w2 ⟨u2,rfl,ho2,hb2⟩;obtain ⟨p2,q2,rfl,hm2⟩:=ho2.slice;have HB2:=hid (HB1.out.trans (hb2.mono HB1.out.size));clear ho2 hb2
  cases hL:ms.flatMap (modQ ms d) with
  | nil =>
   have HC2:Hid (Za4 d ms=true):=(by show _=_;rw [HC.out,hL];rfl);rw [hL,List.length_nil] at *;go_wp2;go_ret;exact ⟨by rw [HC2.out];rfl,HB2.out⟩
  | cons q l =>
   have HC2:Hid (Za4 d ms=false):=(by show _=_;rw [HC.out,hL];rfl);have hz:¬ (((ms.flatMap (modQ ms d)).length:Nat):Int)=0:=(by rw [hL,List.length_cons];omega);generalize (ms.flatMap (modQ ms d)).length=n2 at *;clear hL HC;go_wp2;go_ret;exact ⟨by rw [HC2.out];first | rfl | simp,HB2.out⟩
theorem Zea (d:Nat) (w:World) (v:Value) (ms:List Md) (h:Rows w All 3 (HMd w All d) v ms) (hw:wtS (wtMd d) ms<=16777216) :
 Calls prog 19 #[v] w λe w'=>e=.returned (.bool (Za4 d ms))/\Bz w w':=by
 have HMS:Hid (∀ w',Bz w w'->Rows w' All 3 (HMd w' All d) v ms):=λw' hw=>h.mono (sqO hw) sqj (λ_ _ _ h=>h.mono (sqO hw) sqj);have HO0:=hid h;have HWW:=hid hw;obtain ⟨p,cap,rfl,-⟩:=h;clear hw;go_enter func19,ntmps19;go_wp2_with fail;refine (ZbS d _ _ ms HO0.out).mono ?_;rintro e w1 ⟨rfl,hb1⟩;have HB1:=hid hb1;clear hb1
 cases hG:pgOk d ms with
 | false =>
  have HC:Hid (Za4 d ms=false):=(by show _=_;unfold Za4;rw [hG];rfl);go_wp2;go_ret;exact ⟨by rw [HC.out];rfl,HB1.out⟩
 | true =>
  have HC:Hid (Za4 d ms=(Zct d ms).isEmpty):=(by show _=_;unfold Za4;rw [hG,Bool.true_and]);go_wp2_with fail;refine (ZfP d _ _ ms (HMS.out _ HB1.out) HWW.out).mono ?_;rintro e w2 ⟨u2,rfl,ho2,hb2⟩;obtain ⟨p2,q2,rfl,hm2⟩:=ho2.slice;have HB2:=hid (HB1.out.trans (hb2.mono HB1.out.size));clear ho2 hb2
  cases hL:Zct d ms with
  | nil =>
   have HC2:Hid (Za4 d ms=true):=(by show _=_;rw [HC.out,hL];rfl);rw [hL,List.length_nil] at *;go_wp2;go_ret;exact ⟨by rw [HC2.out];rfl,HB2.out⟩
  | cons q l =>
   have HC2:Hid (Za4 d ms=false):=(by show _=_;rw [HC.out,hL];rfl);have hz:¬ (((Zct d ms).length:Nat):Int)=0:=(by rw [hL,List.length_cons];omega);generalize (Zct d ms).length=n2 at *;clear hL HC;go_wp2;go_ret;exact ⟨by rw [HC2.out];first | rfl | simp,HB2.out⟩
def Za5 (ms:List Md) (mod s:ByteArray) (n:Int):Bool:=hasF (Zch ms mod) s n || (hasX (Zch ms mod) s n || isPutB s n)
def renFCode (d:Nat) (ms:List Md) (q:Pl) (to:ByteArray):Int :=
 if Za4 d ms=false then 1 else if ms.any (ZcZ q)=false then 2 else if Zas to=false then 3 else if Za5 ms q.mod to q.arity=true then 4 else 0
theorem ZhK (d:Nat) (w:World) (v:Value) (ms:List Md) (mod s:ByteArray) (n:Int) (h:Rows w All 3 (HMd w All d) v ms) :
 Calls prog 86 #[v,.string mod,.agg #[.string s,.int .i64 n]] w λe w'=>e=.returned (.bool (Za5 ms mod s n))/\Below w.heap.size w w':=by
 have hb0:Below w.heap.size w (w.alloc (.cells #[.string s,.int .i64 n] 84)):=(sqN _ _);have HB0:=hid hb0;have bR:Hid (Blk (w.alloc (.cells #[.string s,.int .i64 n] 84)) w.heap.size #[.string s,.int .i64 n] 84):=Blk.new;have HMS:Hid (Rows (w.alloc (.cells #[.string s,.int .i64 n] 84)) All 3 (HMd (w.alloc (.cells #[.string s,.int .i64 n] 84)) All d) v ms):=h.mono (sqO hb0) sqj (λ_ _ _ h=>h.mono (sqO hb0) sqj);have HV:Hid (Za5 ms mod s n=(hasF (Zch ms mod) s n || (hasX (Zch ms mod) s n || isPutB s n))):=rfl;obtain ⟨p,cap,rfl,-⟩:=h;clear hb0;go_enter func86,ntmps86;go_wp2_with fail;refine (ZgF d _ _ ms mod HMS.out).mono ?_;rintro e w1 ⟨cs,rfl,hm,hb⟩;have B1:Hid (Below w.heap.size w w1):=HB0.out.trans (hb.mono HB0.out.size);have bR1:Hid (Blk w1 w.heap.size #[.string s,.int .i64 n] 84):=bR.out.next hb;have HM:Hid (∀ w',Below w1.heap.size w1 w'->HMd w' All d cs (Zch ms mod)):=λw' hw=>hm.mono (sqO hw) sqj;obtain ⟨ev,fv,rfl,-,he,hf⟩:=hm;obtain ⟨pe,ce,rfl,-⟩:=he;obtain ⟨pf,cf,rfl,-⟩:=hf;obtain ⟨r0,r1⟩:=sqB2 bR1.out;clear hb;generalize hmo:Zch ms mod=M at *;have HX2:Hid (hasX M s n=M.exports.any (Z4 s n)):=rfl;have HF2:Hid (hasF M s n=M.funs.any (ZF ⟨s,n⟩)):=rfl;have HAL:Hid (Below w1.heap.size w1 (w1.alloc (.cells #[.string M.name,.slice pe M.exports.length ce,.slice pf M.funs.length cf] 63))):=(sqN _ _);have B2:Hid (Below w.heap.size w (w1.alloc (.cells #[.string M.name,.slice pe M.exports.length ce,.slice pf M.funs.length cf] 63))):=B1.out.alloc B1.out.size _;have bR2:Hid (Blk (w1.alloc (.cells #[.string M.name,.slice pe M.exports.length ce,.slice pf M.funs.length cf] 63)) w.heap.size #[.string s,.int .i64 n] 84):=bR1.out.next HAL.out;have bM2:Hid (Blk (w1.alloc (.cells #[.string M.name,.slice pe M.exports.length ce,.slice pf M.funs.length cf] 63)) w1.heap.size #[.string M.name,.slice pe M.exports.length ce,.slice pf M.funs.length cf] 63):=Blk.new;clear r0 r1;obtain ⟨r0,r1⟩:=sqB2 bR2.out;go_wp2_with fail;clear r0 r1;obtain ⟨_,_,heq,-,-,hf⟩:=HM.out _ HAL.out;obtain ⟨rfl,rfl⟩:Value.slice pe M.exports.length ce=_/\Value.slice pf M.funs.length cf=_:=(by simpa using heq);refine (ZbR d _ _ M.funs ⟨s,n⟩ hf).mono ?_;rintro e w3 ⟨rfl,hb⟩;rw [<-HF2.out];have B3:Hid (Below w.heap.size w w3):=B2.out.trans (hb.mono B2.out.size);have K3:Hid (Below w1.heap.size w1 w3):=HAL.out.trans (hb.mono HAL.out.size);have bR3:Hid (Blk w3 w.heap.size #[.string s,.int .i64 n] 84):=bR2.out.next hb;have bM3:Hid (Blk w3 w1.heap.size #[.string M.name,.slice pe M.exports.length ce,.slice pf M.funs.length cf] 63):=bM2.out.next hb;obtain ⟨r0,r1⟩:=sqB2 bR3.out;have m1:=bM3.out.cell 1 _ rfl;clear hb hf heq
 cases hF:hasF M s n with
 | true =>
  have HV3:Hid (Za5 ms mod s n=true):=(by show _=_;rw [HV.out,hF];rfl);go_wp2;go_ret;exact ⟨by rw [HV3.out];rfl,B3.out⟩
 | false =>
  have HV3:Hid (Za5 ms mod s n=(hasX M s n || isPutB s n)):=(by show _=_;rw [HV.out,hF];rfl);go_wp2_with fail;obtain ⟨_,_,heq,-,he,-⟩:=HM.out _ K3.out;obtain ⟨rfl,rfl⟩:Value.slice pe M.exports.length ce=_/\Value.slice pf M.funs.length cf=_:=(by simpa using heq);refine (Zb6 _ _ M.exports s n he).mono ?_;rintro e w4 ⟨rfl,hb⟩;rw [<-HX2.out];have B4:Hid (Below w.heap.size w w4):=B3.out.trans (hb.mono B3.out.size);have bR4:Hid (Blk w4 w.heap.size #[.string s,.int .i64 n] 84):=bR3.out.next hb;clear r0 r1 m1;obtain ⟨r0,r1⟩:=sqB2 bR4.out;clear hb he heq
  cases hX:hasX M s n with
  | true =>
   have HV4:Hid (Za5 ms mod s n=true):=(by show _=_;rw [HV3.out,hX];rfl);go_wp2;go_ret;exact ⟨by rw [HV4.out];rfl,B4.out⟩
  | false =>
   have HV4:Hid (Za5 ms mod s n=isPutB s n):=(by show _=_;rw [HV3.out,hX];rfl);go_wp2_with fail;refine (ZgB _ s n).mono ?_;rintro e w5 ⟨rfl,hb⟩;have B5:Hid (Below w.heap.size w w5):=B4.out.trans (hb.mono B4.out.size);clear hb;go_wp2;go_ret;exact ⟨by rw [HV4.out];first | rfl | simp,B5.out⟩
theorem ZdR (d:Nat) (w:World) (v:Value) (ms:List Md) (q:Pl) (to:ByteArray) (hT:Tabs w) (h:Rows w All 3 (HMd w All d) v ms) (hw:wtS (wtMd d) ms<=16777216) (hst:to.size<=maxLen) :
 Calls prog 46 #[v,.agg #[.string q.mod,.string q.name,.int .i64 q.arity,.int .i64 q.clause],.string to] w λe w'=>e=.returned (.int .i64 (renFCode d ms q to))/\Below w.heap.size w w':=by
 have HTAB:=hid hT;have HR:Hid (∀ w',Below w.heap.size w w'->Rows w' All 3 (HMd w' All d) v ms):=λw' hw=>h.mono (sqO hw) sqj (λ_ _ _ h=>h.mono (sqO hw) sqj);have HW:=hid hw;have HST:=hid hst;obtain ⟨W1,hW1⟩:∃ W1,W1=w.alloc (.cells #[.string q.mod,.string q.name,.int .i64 q.arity,.int .i64 q.clause] 31):=⟨_,rfl⟩;have bA:Hid (Blk W1 w.heap.size #[.string q.mod,.string q.name,.int .i64 q.arity,.int .i64 q.clause] 31):=(by show Blk _ _ _ _;rw [hW1];exact Blk.new);have B1:Hid (Below w.heap.size w W1):=(by show Below _ _ _;rw [hW1];exact (sqN _ _));have HW1:=hid hW1;have HV:Hid (renFCode d ms q to=if Za4 d ms=false then 1 else if ms.any (ZcZ q)=false then 2 else if Zas to=false then 3 else if Za5 ms q.mod to q.arity=true then 4 else 0):=rfl;obtain ⟨p,cap,rfl,-⟩:=h;clear hW1 hT hw hst;generalize hX:renFCode d ms q to=X at *;clear hX;go_enter func46,ntmps46;go_wp2_with fail;rw [<-HW1.out];refine (Zd9 d _ _ ms (HTAB.out.below B1.out) (HR.out _ B1.out) HW.out).mono ?_;rintro e w2 ⟨rfl,hb⟩;have B2:Hid (Below w.heap.size w w2):=B1.out.trans (hb.mono B1.out.size);have b2:Hid (Blk w2 w.heap.size #[.string q.mod,.string q.name,.int .i64 q.arity,.int .i64 q.clause] 31):=bA.out.next hb;clear hb
 cases hG:Za4 d ms with
 | false =>
  have HX:Hid (X=1):=(by show _=_;rw [HV.out,hG];rfl);go_wp2;go_ret;exact ⟨by rw [HX.out];rfl,B2.out⟩
 | true =>
  obtain ⟨y0,y1,y2,y3⟩:=sqB4 b2.out;have HG:=hid hG;clear hG;go_wp2_with fail;refine (Zjj d w2 _ ms q (HR.out _ B2.out)).mono ?_;rintro e w3 ⟨he,hb⟩;have B3:Hid (Below w.heap.size w w3):=B2.out.trans (hb.mono B2.out.size);have b3:Hid (Blk w3 w.heap.size #[.string q.mod,.string q.name,.int .i64 q.arity,.int .i64 q.clause] 31):=b2.out.next hb;clear hb y0 y1 y2 y3
  rcases he with ⟨rfl,hno⟩ | ⟨gf,o,k,j,m,f,rfl,hP⟩
  . have HX:Hid (X=2):=by show _=_;rw [HV.out,HG.out,hno];rfl
    clear hno;go_wp2;go_ret;exact ⟨by rw [HX.out];rfl,B3.out⟩
  . have HA:Hid (ms.any (ZcZ q)=true):=List.any_eq_true.2 ⟨m,List.mem_of_getElem? hP.at_k,by
     unfold ZcZ;rw [hP.nm,Bool.true_and,List.any_eq_true]
     exact ⟨f,List.mem_of_getElem? hP.at_j,List.find?_some hP.first⟩⟩
    clear hP;go_wp2_with fail;refine (Z3 to _ HST.out (HTAB.out.below B3.out).keys).mono ?_;rintro e w4 ⟨rfl,rfl⟩
    cases h2:Zas to with
    | false =>
     have HX:Hid (X=3):=(by show _=_;rw [HV.out,HG.out,HA.out,h2];rfl);go_wp2;go_ret;exact ⟨by rw [HX.out];rfl,B3.out⟩
    | true =>
     have H2:=hid h2;clear h2;have y0:=b3.out.cell 0 _ rfl;have y2:=b3.out.cell 2 _ rfl;go_wp2_with fail;refine (ZhK d _ _ ms q.mod to q.arity (HR.out _ B3.out)).mono ?_;rintro e w5 ⟨rfl,hb⟩;have B5:Hid (Below w.heap.size w w5):=B3.out.trans (hb.mono B3.out.size);clear hb
     cases h3:Za5 ms q.mod to q.arity with
     | true =>
      have HX:Hid (X=4):=(by show _=_;rw [HV.out,HG.out,HA.out,H2.out,h3];rfl);go_wp2;go_ret;exact ⟨by rw [HX.out];rfl,B5.out⟩
     | false =>
      have HX:Hid (X=0):=(by show _=_;rw [HV.out,HG.out,HA.out,H2.out,h3];rfl);go_wp2;go_ret;exact ⟨by rw [HX.out];rfl,B5.out⟩
end
end Go.Proofs.YtdhlonogmnkemaaGreatDoor
