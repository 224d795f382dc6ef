/-
  CheckImplH CheckEq GoodTop
-/
import Derived.Test.YtbdhpganbbandaaGreatDoorP38
import Derived.Test.YtbdhpganbbandaaGreatDoorP42
set_option maxHeartbeats 16000000
set_option linter.unusedVariables false
set_option maxRecDepth 100000
namespace Go.Proofs.YtbdhpganbbandaaGreatDoor
open Go.ChangeShapes Go.WideShapes Go.ChangeAt Go.RowKit
section
open Go.Proofs.Tryz
def callQ (ms:List Md) (m:Md) (d:Nat) (f:Fn'):List Pb:=(f.clauses.flatMap λc=>c.2.flatMap (preX d)).foldl (stK f.name f.arity ms m) []
def looseQ (m:Md) (d:Nat) (f:Fn'):List Pb:=if (looseM d m).any (sameRf f.name f.arity) then [⟨m.name,f.name,f.arity,cLoose⟩] else []
def modQ (ms:List Md) (d:Nat) (m:Md):List Pb:=m.exports.flatMap (exportP m) ++ m.funs.flatMap λf=>looseQ m d f ++ callQ ms m d f
theorem okS_cLoose:okS cLoose:=by unfold okS cLoose maxLen;decide
theorem loose_ok {w:World} {d:Nat} {v:Value} {m:Md} (h:Rows w All 3 (HFn w All d) v m.funs):∀ r ∈ looseM d m,okS r.name/\okI r.arity:=by
 intro r hr;unfold looseM at hr
 split at hr
 . obtain ⟨f,hf,rfl⟩:=looseL_mem hr
   obtain ⟨i,hi⟩:=List.mem_iff_getElem?.1 hf;obtain ⟨p,cap,_,_,_,hx⟩:=h;obtain ⟨g,off,_,_,_,hat⟩:=hx (by intro e;rw [e] at hi;simp at hi);obtain ⟨cs,_,_,hv⟩:=hat i f hi;obtain ⟨cv,_,h1,h2,_⟩:=hv;exact ⟨h1,h2⟩
 . cases hr
theorem problems_any (d:Nat) (w:World) (pv:Value) (ms:List Md) (hT:Tabs w) (h:Rows w All 3 (HMd w All d) pv ms) (hw:∀ m ∈ ms,wtMd d m<=16777216) (hLen:(ms.flatMap (modQ ms d)).length<=16777216)
 (hRun:∀ m ∈ ms,∀ f ∈ m.funs,Runs (λ(s:List Pb) _=>s.length+1<=16777216) (stK f.name f.arity ms m) [] (f.clauses.flatMap λc=>c.2.flatMap (preX d))) :
 Calls prog 80 #[.agg #[pv]] w λe w'=>∃ u,e=.returned u/\OwnP w' w.heap.size u (ms.flatMap (modQ ms d))/\Bz w w':=by
 have HTAB:=hid hT;have HMS:Hid (∀ w',Bz w w'->Rows w' All 3 (HMd w' All d) pv ms):=λw' hw=>h.mono (sqO hw) sqj (λ_ _ _ h=>h.mono (sqO hw) sqj);obtain ⟨p,cap,rfl,hcl,hcm,hx⟩:=h;have HX:=hid hx;have HLEN:=hid hLen;have HWM:=hid hw;have HRUN:=hid hRun;have hnb:=sqM hcl hcm;obtain ⟨ip,hip,hpz0,hpz1,hpz2⟩:=info_parts info_pb;generalize hn:ms.length=n at *;have HN:=hid hn;obtain ⟨W1,hW1⟩:∃ W1,W1=w.alloc (.cells #[.slice p n cap] 128):=⟨_,rfl⟩;have b1:Blk W1 w.heap.size #[.slice p n cap] 128:=(by rw [hW1];exact Blk.new);have hs1:W1.heap.size=w.heap.size+1:=(by rw [hW1,alloc_hs]);have hb1:Bz w W1:=(by rw [hW1];exact (sqN _ _));have hal:Bz W1 (W1.alloc (.cells #[] 121)):=(sqN _ _);have B2:Hid (Bz w (W1.alloc (.cells #[] 121))):=hb1.trans (hal.mono hb1.size);have b2:Hid (Blk (W1.alloc (.cells #[] 121)) w.heap.size #[.slice p n cap] 128):=b1.next hal
 have O2:Hid (OwnP (W1.alloc (.cells #[] 121)) w.heap.size (.slice (some ⟨w.heap.size+1,0,none⟩) 0 0) []):=by
  have:=(OwnG.fresh (w:=W1) (e:=121) (c:=4) (R:=HPb)).base (B':=w.heap.size) (by omega);rw [hs1] at this;exact this
 have HW1:=hid hW1;clear hx hn b1 hb1 hal hs1 hW1 hT hw hLen hRun hcl hcm;go_enter func80,ntmps80;go_wp2_with fail;rw [<-HW1.out]
 go_loopw [3,13] (λov iv wx=>∃ a:Nat,a<=n/\iv=.int .i64 a/\Hid (OwnP wx w.heap.size ov ((ms.take a).flatMap (modQ ms d)))/\Hid (Bz w wx)/\Hid (Blk wx w.heap.size #[.slice p n cap] 128)) (λ_ iv _=>n - (intOf iv).toNat)
 case atStart=>exact ⟨0,Nat.zero_le _,rfl,by show OwnP _ _ _ _;simpa using O2.out,B2,b2⟩
 case round =>
  obtain ⟨a,ha,rfl,ho,hb,bb⟩:=hrel;clear O2 B2 b2;by_cases hlt:a<n
  . obtain ⟨m,hmk⟩:=sqA (l:=ms) (k:=a) HN.out hlt
    have hmm:=List.mem_of_getElem? hmk;obtain ⟨g,off,rfl,-,hgl,hat⟩:=HX.out (sqE hmk);obtain ⟨cs,hcsl,hcs,hm⟩:=hat a m hmk;have HMM:Hid (∀ w',Bz w w'->HMd w' All d cs m):=λw' hw=>hm.mono (sqO hw) sqj;have HWT:Hid (wtMd d m<=16777216):=HWM.out m hmm
    have HEL:Hid (m.exports.length<=16777216):=by
     have:=HWT.out;unfold wtMd wtS at this;show _<=_;omega
    have HRF:Hid (∀ f ∈ m.funs,Runs (λ(s:List Pb) _=>s.length+1<=16777216) (stK f.name f.arity ms m) [] (f.clauses.flatMap λc=>c.2.flatMap (preX d))):=HRUN.out m hmm;obtain ⟨ev,fv,rfl,hms,he,hf⟩:=hm;obtain ⟨pe,ce,rfl,-⟩:=he;obtain ⟨pf,cf,rfl,hcf,hcmf,hxf⟩:=hf;have HXF:=hid hxf;obtain ⟨a0,a1,a2⟩:=sqC3 hcs (by omega);rw [<-hb.out.cell (p:=⟨g,_,none⟩) hgl] at a0 a1 a2;simp at a0 a1 a2;have hki:(a:Int)<(n:Int):=(by omega);have hk0:=sqI a;have hnf:m.funs.length<=9223372036854775807:=(by unfold maxLen at hcmf;omega);obtain ⟨HJ,HL⟩:=flat_takeG (modQ ms d) ms a m hmk;have HJJ:Hid ((ms.take (a+1)).flatMap (modQ ms d)=((ms.take a).flatMap (modQ ms d) ++ m.exports.flatMap (exportP m)) ++ m.funs.flatMap λf=>looseQ m d f ++ callQ ms m d f):=(by show _=_;rw [HJ];simp only [modQ,List.append_assoc])
    have HLL:Hid (((ms.take a).flatMap (modQ ms d)).length+((m.exports.flatMap (exportP m)).length+(m.funs.flatMap λf=>looseQ m d f ++ callQ ms m d f).length)<=16777216):=by
     have h1:=HLEN.out;have h2:(modQ ms d m).length=(m.exports.flatMap (exportP m)).length+(m.funs.flatMap λf=>looseQ m d f ++ callQ ms m d f).length:=(by simp only [modQ,List.length_append]);show _<=_;omega
    generalize hA0:(ms.take a).flatMap (modQ ms d)=A0 at *;generalize hn1:m.exports.length=ne at *;have HN1:=hid hn1;generalize hn2:m.funs.length=nf at *;have HN2:=hid hn2;obtain ⟨W5,hW5⟩:∃ W5,W5=wr.alloc (.cells #[.string m.name,.slice pe ne ce,.slice pf nf cf] 61):=⟨_,rfl⟩;obtain ⟨bm,hbm⟩:∃ bm,bm=wr.heap.size:=⟨_,rfl⟩;have hal:Bz wr W5:=(by rw [hW5];exact (sqN _ _));have b5:Hid (Blk W5 bm #[.string m.name,.slice pe ne ce,.slice pf nf cf] 61):=(by show Blk _ _ _ _;rw [hW5,hbm];exact Blk.new);have bp5:Hid (Blk W5 w.heap.size #[.slice (some ⟨g,off,none⟩) n cap] 128):=bb.out.next hal;have HB5:Hid (Bz w W5):=hb.out.trans (hal.mono hb.out.size);have HO5:Hid (OwnP W5 w.heap.size u3 A0):=ho.out.next hal;have HW5:=hid hW5;have HBM:Hid (wr.heap.size=bm):=hbm.symm;have HMSN:=hid hms;obtain ⟨y0,y1,y2⟩:=sqB3 b5.out;rw [hW5,hbm] at y0 y1 y2;clear hxf hcs hcsl hat HJ HL hA0 ho hb bb hW5 hbm hms hn1 hn2 hmk hal hcf hcmf hmm;go_wp2_with fail;rw [<-HW5.out,HBM.out];clear a0 a1 a2 y0 y1 y2;refine (exportProblems_any d _ _ m (HMM.out _ HB5.out) (by rw [HN1.out];exact HEL.out)).mono ?_;rintro e w6 ⟨u6,rfl,o6,hb6⟩;have R6:Hid (Rows w6 All 4 HPb u6 (m.exports.flatMap (exportP m))):=o6.rows;have b6:Hid (Blk w6 bm #[.string m.name,.slice pe ne ce,.slice pf nf cf] 61):=b5.out.next hb6;have bp6:Hid (Blk w6 w.heap.size #[.slice (some ⟨g,off,none⟩) n cap] 128):=bp5.out.next hb6;have HB6:Hid (Bz w w6):=HB5.out.trans (hb6.mono HB5.out.size);have HO6:Hid (OwnP w6 w.heap.size u3 A0):=HO5.out.next hb6;clear hb6 o6;go_wp2_with (at_builtin;refine wpList_append_own_rows rfl _ _ 84 rfl _ 56 underlying84 info_pb rfl (by decide) HO6.out rfl u6 (m.exports.flatMap (exportP m)) rfl R6.out pb_oneCell (by have:=HLL.out;omega) (by decide) ?_;intro v7 w7 ho7 hb7 hap7;have n7:=(hap7.blk b6.out (by decide)).cell 0 _ rfl;have n8:=(hap7.blk b6.out (by decide)).cell 1 _ rfl;have n9:=(hap7.blk b6.out (by decide)).cell 2 _ rfl);have HO7:=hid ho7;have HB7:Hid (Bz w w7):=HB6.out.trans hb7;have b7:Hid (Blk w7 bm #[.string m.name,.slice pe ne ce,.slice pf nf cf] 61):=hap7.blk b6.out (by decide);have bp7:Hid (Blk w7 w.heap.size #[.slice (some ⟨g,off,none⟩) n cap] 128):=hap7.blk bp6.out (by decide);clear ho7 hb7 hap7;clear n7 n8 n9;refine (implLoose_any d _ _ m (HTAB.out.below HB7.out) (HMM.out _ HB7.out) HWT.out).mono ?_;rintro e w8 ⟨u8',rfl,o8,hb8⟩;have HLR:Hid (OwnR w8 0 u8' (looseM d m)):=o8.base (Nat.zero_le _);have b8:Hid (Blk w8 bm #[.string m.name,.slice pe ne ce,.slice pf nf cf] 61):=b7.out.next hb8;have bp8:Hid (Blk w8 w.heap.size #[.slice (some ⟨g,off,none⟩) n cap] 128):=bp7.out.next hb8;have HB8:Hid (Bz w w8):=HB7.out.trans (hb8.mono HB7.out.size);have HO8:Hid (OwnP w8 w.heap.size v7 (A0 ++ m.exports.flatMap (exportP m))):=HO7.out.next hb8;clear hb8 o8 HO7 HB7 b7 bp7 HO6 HB6 b6 bp6 R6 HO5 HB5 b5 bp5
    have HLOK:Hid (∀ r ∈ looseM d m,okS r.name/\okI r.arity):=by
     obtain ⟨_,_,he,_,_,hf⟩:=HMM.out w (Below.refl _ _);simp only [List.cons.injEq,and_true] at he;exact loose_ok hf
    generalize hQ:(λf:Fn'=>looseQ m d f ++ callQ ms m d f)=Q9 at *;have HQ:=hid hQ;generalize hA1:A0 ++ m.exports.flatMap (exportP m)=A1 at *
    have HLL2:Hid (A1.length+(m.funs.flatMap Q9).length<=16777216):=by
     have:=HLL.out;show _<=_;rw [<-hA1,List.length_append];omega
    clear hQ HLL hA1;have z2:=b8.out.cell 2 _ rfl;go_wp2_with fail;clear z2
    go_loopw [3,26] (λov iv wx=>∃ b:Nat,b<=nf/\iv=.int .i64 b/\Hid (OwnP wx w.heap.size ov (A1 ++ (m.funs.take b).flatMap Q9))/\Hid (Bz w wx)/\Hid (Blk wx w.heap.size #[.slice (some ⟨g,off,none⟩) n cap] 128)/\Hid (Blk wx bm #[.string m.name,.slice pe ne ce,.slice pf nf cf] 61)/\Hid (OwnR wx 0 u8' (looseM d m))) (λ_ iv _=>nf - (intOf iv).toNat)
    case atStart=>exact ⟨0,Nat.zero_le _,rfl,by show OwnP _ _ _ _;simpa using HO8.out,HB8,bp8,b8,HLR⟩
    case round =>
     obtain ⟨b,hbn,rfl,ho,hb,bb,bq,hl⟩:=hrel;clear HLR b8 bp8 HB8 HO8;by_cases hlt2:b<nf
     . obtain ⟨f,hfk⟩:∃ f,m.funs[b]?=some f:=⟨m.funs[b]'(by rw [HN2.out];exact hlt2),List.getElem?_eq_getElem _⟩
       have hff:=List.mem_of_getElem? hfk;obtain ⟨g2,off2,rfl,-,hgl2,hat2⟩:=HXF.out (sqE hfk);obtain ⟨cs2,hcsl2,hcs2,hf2⟩:=hat2 b f hfk;have HFF:Hid (∀ w',Bz w w'->HFn w' All d cs2 f):=λw' hw=>hf2.mono (sqO hw) sqj;obtain ⟨cv,rfl,hfs,hfn,hfc⟩:=hf2;obtain ⟨pc,cc,rfl,-⟩:=hfc;obtain ⟨a0,a1,a2⟩:=sqC3 hcs2 (by omega);rw [<-hb.out.cell (p:=⟨g2,_,none⟩) hgl2] at a0 a1 a2;simp at a0 a1 a2;have hkb:(b:Int)<(nf:Int):=(by omega);have hb0:=sqI b;have HR2:Hid (Runs (λ(s:List Pb) _=>s.length+1<=16777216) (stK f.name f.arity ms m) [] (f.clauses.flatMap λc=>c.2.flatMap (preX d))):=HRF.out f hff;obtain ⟨HJ,HL⟩:=flat_takeG Q9 m.funs b f hfk;have HJ9:Hid (A1 ++ (m.funs.take (b+1)).flatMap Q9=(A1 ++ (m.funs.take b).flatMap Q9) ++ (looseQ m d f ++ callQ ms m d f)):=(by show _=_;rw [HJ,<-HQ.out,List.append_assoc])
       have HL9:Hid ((A1 ++ (m.funs.take b).flatMap Q9).length+((looseQ m d f).length+(callQ ms m d f).length)<=16777216):=by
        have h1:=HLL2.out;have h2:(Q9 f).length=(looseQ m d f).length+(callQ ms m d f).length:=(by rw [<-HQ.out];simp only [List.length_append]);show _<=_;rw [List.length_append];omega
       have HLQ:Hid (looseQ m d f=if (looseM d m).any (sameRf f.name f.arity) then [⟨m.name,f.name,f.arity,cLoose⟩] else []):=rfl;generalize hA2:A1 ++ (m.funs.take b).flatMap Q9=A2 at *;generalize hn3:f.clauses.length=nc at *;obtain ⟨W9,hW9⟩:∃ W9,W9=wr.alloc (.cells #[.string f.name,.int .i64 f.arity,.slice pc nc cc] 57):=⟨_,rfl⟩;obtain ⟨bf,hbf⟩:∃ bf,bf=wr.heap.size:=⟨_,rfl⟩;have hal:Bz wr W9:=(by rw [hW9];exact (sqN _ _));have bf9:Hid (Blk W9 bf #[.string f.name,.int .i64 f.arity,.slice pc nc cc] 57):=(by show Blk _ _ _ _;rw [hW9,hbf];exact Blk.new);have bm9:Hid (Blk W9 bm #[.string m.name,.slice pe ne ce,.slice (some ⟨g2,off2,none⟩) nf cf] 61):=bq.out.next hal;have bp9:Hid (Blk W9 w.heap.size #[.slice (some ⟨g,off,none⟩) n cap] 128):=bb.out.next hal;have HB9:Hid (Bz w W9):=hb.out.trans (hal.mono hb.out.size);have HO9:Hid (OwnP W9 w.heap.size u3 A2):=ho.out.next hal;have HL8:Hid (OwnR W9 0 u8' (looseM d m)):=hl.out.next hal;have HW9:=hid hW9;have HBF:Hid (wr.heap.size=bf):=hbf.symm;have HFS:=hid hfs;have HFI:=hid hfn;clear HJ HL hA2 hn3 hW9 hbf hal hcs2 hcsl2 hat2 ho hb bb bq hl hfs hfn hfk hff;go_wp2_with fail;rw [<-HW9.out,HBF.out];clear a0 a1 a2;refine (refOf_any f.name f.arity pc nc cc _).mono ?_;rintro e w10 ⟨rfl,hb10⟩;have bf10:Hid (Blk w10 bf #[.string f.name,.int .i64 f.arity,.slice pc nc cc] 57):=bf9.out.next hb10;have bm10:Hid (Blk w10 bm #[.string m.name,.slice pe ne ce,.slice (some ⟨g2,off2,none⟩) nf cf] 61):=bm9.out.next hb10;have bp10:Hid (Blk w10 w.heap.size #[.slice (some ⟨g,off,none⟩) n cap] 128):=bp9.out.next hb10;have HB10:Hid (Bz w w10):=HB9.out.trans (hb10.mono HB9.out.size);have HO10:Hid (OwnP w10 w.heap.size u3 A2):=HO9.out.next hb10;have HL10:Hid (OwnR w10 0 u8' (looseM d m)):=HL8.out.next hb10;clear hb10 bf9 bm9 bp9 HB9 HO9 HL8 HW9 HBF;go_wp2_with fail;refine (containsR_any _ _ (looseM d m) f.name f.arity (ORs.rows (HL10.out.tree HLOK.out))).mono ?_;rintro e w11 ⟨rfl,hb11⟩;have bf11:Hid (Blk w11 bf #[.string f.name,.int .i64 f.arity,.slice pc nc cc] 57):=bf10.out.next hb11;have bm11:Hid (Blk w11 bm #[.string m.name,.slice pe ne ce,.slice (some ⟨g2,off2,none⟩) nf cf] 61):=bm10.out.next hb11;have bp11:Hid (Blk w11 w.heap.size #[.slice (some ⟨g,off,none⟩) n cap] 128):=bp10.out.next hb11;have HB11:Hid (Bz w w11):=HB10.out.trans (hb11.mono HB10.out.size);have HO11:Hid (OwnP w11 w.heap.size u3 A2):=HO10.out.next hb11;have HL11:Hid (OwnR w11 0 u8' (looseM d m)):=HL10.out.next hb11;clear hb11 bf10 bm10 bp10 HB10 HO10 HL10;obtain ⟨fz0,fz1,fz2⟩:=sqB3 bf11.out;obtain ⟨mz0,mz1,mz2⟩:=sqB3 bm11.out;have pz0:=bp11.out.cell 0 _ rfl
       cases hLS:(looseM d m).any (sameRf f.name f.arity) with
       | false =>
        have HQ0:Hid (looseQ m d f = []):=(by show _=_;rw [HLQ.out,hLS];rfl);go_wp2_with fail;clear fz0 fz1 fz2 mz0 mz1 mz2 pz0;refine (callProblems_any d _ _ ms _ m _ f (HMS.out _ HB11.out) (HMM.out _ HB11.out) (HFF.out _ HB11.out) HR2.out).mono ?_;rintro e w15 ⟨u15,rfl,o15,hb15⟩;have R15:Hid (Rows w15 All 4 HPb u15 (callQ ms m d f)):=o15.rows;have bm15:Hid (Blk w15 bm #[.string m.name,.slice pe ne ce,.slice (some ⟨g2,off2,none⟩) nf cf] 61):=bm11.out.next hb15;have bp15:Hid (Blk w15 w.heap.size #[.slice (some ⟨g,off,none⟩) n cap] 128):=bp11.out.next hb15;have HB15:Hid (Bz w w15):=HB11.out.trans (hb15.mono HB11.out.size);have HO15:Hid (OwnP w15 w.heap.size u3 A2):=HO11.out.next hb15;have HL15:Hid (OwnR w15 0 u8' (looseM d m)):=HL11.out.next hb15;clear hb15 o15;go_wp2_with (at_builtin;refine wpList_append_own_rows rfl _ _ 84 rfl _ 56 underlying84 info_pb rfl (by decide) HO15.out rfl u15 (callQ ms m d f) rfl R15.out pb_oneCell (by have:=HL9.out;rw [HQ0.out] at this;simp only [List.length_nil] at this;omega) (by decide) ?_;intro v16 w16 ho16 hb16 hap16);have HO16:Hid (OwnP w16 w.heap.size v16 (A1 ++ (m.funs.take (b+1)).flatMap Q9)):=(by show OwnP _ _ _ _;rw [HJ9.out,HQ0.out];simpa using ho16);have HB16:Hid (Bz w w16):=HB15.out.trans hb16;have bp16:Hid (Blk w16 w.heap.size #[.slice (some ⟨g,off,none⟩) n cap] 128):=hap16.blk bp15.out (by decide);have bm16:Hid (Blk w16 bm #[.string m.name,.slice pe ne ce,.slice (some ⟨g2,off2,none⟩) nf cf] 61):=hap16.blk bm15.out (by decide);have HL16:Hid (OwnR w16 0 u8' (looseM d m)):=⟨hap16.owns HL15.out.1 (by decide),Nat.zero_le _⟩;clear ho16 hb16 hap16;go_wp2_with fail;exact ⟨⟨b+1,by omega,by go_num,HO16,HB16,bp16,bm16,HL16⟩,by simp [intOf];omega⟩
       | true =>
        have HQ1:Hid (looseQ m d f = [⟨m.name,f.name,f.arity,cLoose⟩]):=(by show _=_;rw [HLQ.out,hLS];rfl);have HPB:Hid (HPb [.string m.name,.string f.name,.int .i64 f.arity,.string ⟨#[108,111,111,115,101]⟩] ⟨m.name,f.name,f.arity,cLoose⟩):=⟨rfl,HMSN.out,HFS.out,HFI.out,okS_cLoose⟩
        have HL91:Hid (A2.length+1<=16777216):=by
         have:=HL9.out;rw [HQ1.out] at this;show _<=_;simp only [List.length_cons,List.length_nil] at this;omega
        have NXT:Hid (∀ w9,Below w.heap.size w11 w9->ApartE 121 w11 w9->Blk w9 bf #[.string f.name,.int .i64 f.arity,.slice pc nc cc] 57/\Blk w9 bm #[.string m.name,.slice pe ne ce,.slice (some ⟨g2,off2,none⟩) nf cf] 61/\Blk w9 w.heap.size #[.slice (some ⟨g,off,none⟩) n cap] 128/\OwnR w9 0 u8' (looseM d m)/\Bz w w9):=λw9 hb9 hap9 =>
         ⟨hap9.blk bf11.out (by decide),hap9.blk bm11.out (by decide),hap9.blk bp11.out (by decide),⟨hap9.owns HL11.out.1 (by decide),Nat.zero_le _⟩,HB11.out.trans hb9⟩
        go_wp2_with fail
        go_region_law
         (first
          | (go_simp;go_at_call 91;refine (refOf_any _ _ _ _ _ _).mono ?_;rintro e w12 ⟨rfl,hb12⟩;have K12:Hid (Bz w11 w12):=⟨hb12.os,hb12.tape,hb12.output,hb12.size,hb12.block⟩;have m12:=bm11.out.next K12.out;obtain ⟨mx0,mx1,mx2⟩:=sqB3 m12;clear hb12 m12;dsimp only)
          | (go_simp;go_at_call 115;refine (problemOf_any _ m.name pe (some ⟨g2,off2,none⟩) ne ce nf cf f.name f.arity ⟨#[108,111,111,115,101]⟩).mono ?_;rintro e w13 ⟨rfl,hb13⟩;have K13:Hid (Bz w11 w13):=K12.out.trans (hb13.mono K12.out.size);have HOA:Hid (OwnP (w13.alloc (.cells #[.string m.name,.string f.name,.int .i64 f.arity,.string ⟨#[108,111,111,115,101]⟩] 121)) w.heap.size u3 A2):=(HO11.out.next K13.out).next ((sqN _ _));have HGA:Hid (Blk (w13.alloc (.cells #[.string m.name,.string f.name,.int .i64 f.arity,.string ⟨#[108,111,111,115,101]⟩] 121)) w13.heap.size #[.string m.name,.string f.name,.int .i64 f.arity,.string ⟨#[108,111,111,115,101]⟩] 121):=Blk.new;have KA13:Hid (Bz w11 (w13.alloc (.cells #[.string m.name,.string f.name,.int .i64 f.arity,.string ⟨#[108,111,111,115,101]⟩] 121))):=K13.out.alloc K13.out.size _;clear hb13;dsimp only)
          | (refine step_append_blk (by rfl) _ _ _ (by rfl) _ 56 underlying84 info_pb rfl (by decide) HOA.out w13.heap.size #[.string m.name,.string f.name,.int .i64 f.arity,.string ⟨#[108,111,111,115,101]⟩] HGA.out ⟨m.name,f.name,f.arity,cLoose⟩ HPB.out rfl (pb_oneCell _ _ HPB.out) (by rfl) (by rfl) HL91.out (by decide) ?_;intro v9 w9 ho9 hb9 hap9;have HO14:=hid ho9;have nx9:=NXT.out w9 ((KA13.out.mono HB11.out.size).trans hb9) ((ApartE.of_below KA13.out).trans hap9);have HNX:=hid nx9;obtain ⟨fv0,fv1,fv2⟩:=sqB3 nx9.1;obtain ⟨mv0,mv1,mv2⟩:=sqB3 nx9.2.1;have pv0:=nx9.2.2.1.cell 0 _ rfl;clear ho9 hb9 hap9 nx9))
        all_goals
         go_wp2_with fail;clear fz0 fz1 fz2 mz0 mz1 mz2 pz0 fv0 fv1 fv2 mv0 mv1 mv2 pv0;refine (callProblems_any d _ _ ms _ m _ f (HMS.out _ HNX.out.2.2.2.2) (HMM.out _ HNX.out.2.2.2.2) (HFF.out _ HNX.out.2.2.2.2) HR2.out).mono ?_;rintro e w15 ⟨u15,rfl,o15,hb15⟩;have R15:Hid (Rows w15 All 4 HPb u15 (callQ ms m d f)):=o15.rows;have bm15:Hid (Blk w15 bm #[.string m.name,.slice pe ne ce,.slice (some ⟨g2,off2,none⟩) nf cf] 61):=HNX.out.2.1.next hb15;have bp15:Hid (Blk w15 w.heap.size #[.slice (some ⟨g,off,none⟩) n cap] 128):=HNX.out.2.2.1.next hb15;have HB15:Hid (Bz w w15):=HNX.out.2.2.2.2.trans (hb15.mono HNX.out.2.2.2.2.size);have HO15:Hid (OwnP w15 w.heap.size v9 (A2 ++ [⟨m.name,f.name,f.arity,cLoose⟩])):=HO14.out.next hb15;have HL15:Hid (OwnR w15 0 u8' (looseM d m)):=HNX.out.2.2.2.1.next hb15;clear hb15 o15;go_wp2_with (at_builtin;refine wpList_append_own_rows rfl _ _ 84 rfl _ 56 underlying84 info_pb rfl (by decide) HO15.out rfl u15 (callQ ms m d f) rfl R15.out pb_oneCell (by have:=HL9.out;rw [HQ1.out] at this;simp only [List.length_append,List.length_cons,List.length_nil] at this ⊢;omega) (by decide) ?_;intro v16 w16 ho16 hb16 hap16);have HO16:Hid (OwnP w16 w.heap.size v16 (A1 ++ (m.funs.take (b+1)).flatMap Q9)):=(by show OwnP _ _ _ _;rw [HJ9.out,HQ1.out];simpa using ho16);have HB16:Hid (Bz w w16):=HB15.out.trans hb16;have bp16:Hid (Blk w16 w.heap.size #[.slice (some ⟨g,off,none⟩) n cap] 128):=hap16.blk bp15.out (by decide);have bm16:Hid (Blk w16 bm #[.string m.name,.slice pe ne ce,.slice (some ⟨g2,off2,none⟩) nf cf] 61):=hap16.blk bm15.out (by decide);have HL16:Hid (OwnR w16 0 u8' (looseM d m)):=⟨hap16.owns HL15.out.1 (by decide),Nat.zero_le _⟩;clear ho16 hb16 hap16;go_wp2_with fail;exact ⟨⟨b+1,by omega,by go_num,HO16,HB16,bp16,bm16,HL16⟩,by simp [intOf];omega⟩
     . have HR:Hid (OwnP wr w.heap.size u3 ((ms.take (a+1)).flatMap (modQ ms d))):=by
        have h1:=ho.out;rw [show m.funs.take b=m.funs from List.take_of_length_le (by rw [HN2.out];omega)] at h1;show OwnP _ _ _ _;rw [HJJ.out];exact h1
       clear ho;go_wp2_with fail;exact ⟨⟨a+1,by omega,by go_num,HR,hb,bb⟩,by simp [intOf];omega⟩
  . have HR:Hid (OwnP wr w.heap.size u3 (ms.flatMap (modQ ms d))):=by
     have h1:=ho.out
     rwa [show ms.take a=ms from List.take_of_length_le (by rw [HN.out];omega)] at h1
    clear ho;go_wp2;go_ret;exact ⟨_,rfl,HR.out,hb.out⟩
end
theorem pgOk_mem {d:Nat} {ms:List Md} (h:pgOk d ms=true):∀ m ∈ ms,mdOk d m=true:=by
 intro m hm;obtain ⟨k,hk⟩:=List.mem_iff_getElem?.1 hm;have hl:k<ms.length:=(List.getElem?_eq_some_iff.1 hk).1
 cases hb:mdOk d m with
 | true=>rfl
 | false =>
  have h1:=mdsAt_bad hk hb;unfold pgOk at h;rw [rangeT_at _ _ k hl h1] at h;simp at h
theorem flatMap_none {α β:Type} {f:α->List β}:∀ {l:List α},(∀ x ∈ l,f x = [])->l.flatMap f = []
 | [],_=>rfl
 | x :: l,h=>by rw [List.flatMap_cons,h x List.mem_cons_self,flatMap_none (λy hy=>h y (List.mem_cons_of_mem _ hy))];rfl
theorem flatMap_same {α β:Type} {f g:α->List β}:∀ {l:List α},(∀ x ∈ l,f x=g x)->l.flatMap f=l.flatMap g
 | [],_=>rfl
 | x :: l,h=>by rw [List.flatMap_cons,List.flatMap_cons,h x List.mem_cons_self,flatMap_same (λy hy=>h y (List.mem_cons_of_mem _ hy))]
theorem pat_none (ms:List Md) (m:Md):∀ (d:Nat) (x:Ex) (deep:Int),exOk d x true deep=true->(preX d x).flatMap (callL ms m) = []
 | 0,_,_,h=>by simp [exOk] at h
 | d+1,.mk k n t mo ks cs,deep,h=>by
  obtain ⟨h1,h2,h3,h4,h5,h6⟩:=exOk_parts h;have hk:=h4 rfl;have hcs:cs = []:=h1 (by omega);subst hcs;have hc:callL ms m (.mk k n t mo ks []) = []:=(by unfold callL;rw [if_neg (by simp only [Ex.kind];omega)])
  have hkids:ks.flatMap (λy=>(preX d y).flatMap (callL ms m)) = []:=flatMap_none (λy hy=>by
   obtain ⟨p,hp,he⟩:=h5 y hy;rw [hp rfl] at he
   exact pat_none ms m d y _ he)
  simp only [preX,Ex.kids,Ex.clauses,List.flatMap_nil,List.append_nil,List.flatMap_cons,hc,List.nil_append,List.flatMap_assoc];exact hkids
theorem pre_codes (ms:List Md) (m:Md):∀ (d:Nat) (x:Ex) (p:Bool) (deep:Int),exOk d x p deep=true->(preX d x).flatMap (callL ms m)=codesX ms m d x
 | 0,_,_,_,h=>by simp [exOk] at h
 | d+1,.mk k n t mo ks cs,p,deep,h=>by
  obtain ⟨h1,h2,h3,h4,h5,h6⟩:=exOk_parts h
  have hkids:ks.flatMap (λy=>(preX d y).flatMap (callL ms m))=ks.flatMap (codesX ms m d):=flatMap_same (λy hy=>by
   obtain ⟨q,_,he⟩:=h5 y hy
   exact pre_codes ms m d y q _ he)
  have hcl:cs.flatMap (λc:Cl=>(c.1.flatMap (preX d) ++ c.2.flatMap (preX d)).flatMap (callL ms m))=cs.flatMap (λc:Cl=>c.2.flatMap (codesX ms m d)):=flatMap_same (λc hc=>by
   rw [List.flatMap_append,List.flatMap_assoc,List.flatMap_assoc];rw [flatMap_none (λy hy=>pat_none ms m d y _ ((h6 c hc).1 y hy)),List.nil_append]
   exact flatMap_same (λy hy=>pre_codes ms m d y false _ ((h6 c hc).2 y hy)))
  simp only [preX,codesX,withinX,bodiesOf,Ex.kids,Ex.clauses,List.flatMap_cons,List.flatMap_append,List.flatMap_assoc] at *;rw [hkids,hcl]
/-! Codes, each once. -/
theorem onceS_append:∀ (a b l:List ByteArray),onceS l (a ++ b)=onceS (onceS l a) b
 | [],b,l=>rfl
 | y :: a,b,l=>onceS_append a b _
theorem onceS_ahead (pre:List ByteArray):∀ (C l:List ByteArray),(∀ c ∈ C,hasS pre c=false)->onceS (pre ++ l) C=pre ++ onceS l C
 | [],l,_=>rfl
 | y :: C,l,h=>by
  have h1:hasS (pre ++ l) y=hasS l y:=by
   have:=h y List.mem_cons_self;unfold hasS at *;rw [List.any_append,this,Bool.false_or]
  show onceS (if hasS (pre ++ l) y then pre ++ l else (pre ++ l) ++ [y]) C=pre ++ onceS (if hasS l y then l else l ++ [y]) C;rw [h1]
  split
  . exact onceS_ahead pre C l (λc hc=>h c (List.mem_cons_of_mem _ hc))
  . rw [List.append_assoc]
    exact onceS_ahead pre C _ (λc hc=>h c (List.mem_cons_of_mem _ hc))
theorem foldC_once (ms:List Md) (m:Md) (d:Nat):∀ (l:List Ex) (o:List ByteArray),l.foldl (λo b=>onceS o (codesX ms m d b)) o=onceS o (l.flatMap (codesX ms m d))
 | [],o=>rfl
 | x :: l,o=>by
  rw [List.foldl_cons,foldC_once ms m d l,List.flatMap_cons,onceS_append]
theorem codeOf_ne (x:Ex):(codeOf x).toList≠[]:=by unfold codeOf;split <;> simp [cCall,cFar,ByteArray.toList_eq]
theorem codeOf_loose (x:Ex):hasS [cLoose] (codeOf x)=false:=by unfold codeOf;split <;> simp [hasS,cCall,cFar,cLoose,ByteArray.toList_eq]
theorem callL_wrong (ms:List Md) (m:Md) (x:Ex):callL ms m x=if x.kind=8 then (if wrongB ms m x then [codeOf x] else []) else []:=by
 unfold callL;rw [callC_wrong]
 cases wrongB ms m x
 . simp
 . simp only [if_true,if_neg (codeOf_ne x)]
theorem callL_ahead (ms:List Md) (m:Md) (x:Ex):∀ c ∈ callL ms m x,hasS [cLoose] c=false:=by
 rw [callL_wrong]
 split
 . split
   . intro c hc
     rw [List.mem_singleton.1 hc];exact codeOf_loose x
   . intro c hc;cases hc
 . intro c hc;cases hc
theorem codesX_ahead (ms:List Md) (m:Md):∀ (d:Nat) (x:Ex),∀ c ∈ codesX ms m d x,hasS [cLoose] c=false
 | 0,_,c,h=>by cases h
 | d+1,x,c,h=>by
  simp only [codesX,List.mem_append,List.mem_flatMap] at h
  rcases h with h | ⟨y,_,h⟩
  . exact callL_ahead ms m x c h
  . exact codesX_ahead ms m d y c h
theorem st_fold (ms:List Md) (m:Md) (fs:ByteArray) (fn:Int):∀ (L:List Ex) (s:List ByteArray),
 L.foldl (stK fs fn ms m) (s.map λc=>⟨m.name,fs,fn,c⟩)=(onceS s (L.flatMap (callL ms m))).map λc=>⟨m.name,fs,fn,c⟩
 | [],s=>rfl
 | x :: L,s=>by
  have hst:stK fs fn ms m (s.map λc=>⟨m.name,fs,fn,c⟩) x=(onceS s (callL ms m x)).map λc=>⟨m.name,fs,fn,c⟩:=by
   unfold stK stC;rw [callL_wrong]
   have ha:(s.map λc=>(⟨m.name,fs,fn,c⟩:Pb)).any (samePb ⟨m.name,fs,fn,codeOf x⟩)=hasS s (codeOf x):=by
    rw [List.any_map];unfold hasS
    congr 1
    funext y
    simp only [Function.comp,samePb,beq_self_eq_true,Bool.true_and];exact Bool.beq_comm
   split
   . rw [ha]
     cases wrongB ms m x
     . simp [onceS]
     . simp only [Bool.true_and,if_true,onceS]
       cases hasS s (codeOf x) <;> simp
   . simp [onceS]
  rw [List.foldl_cons,hst,st_fold ms m fs fn L,List.flatMap_cons,onceS_append]
theorem bodies_pre (f:Fn') (d:Nat):(f.clauses.flatMap λc:Cl=>c.2.flatMap (preX d))=(bodiesOf f.clauses).flatMap (preX d):=by
 unfold bodiesOf;rw [List.flatMap_assoc]
/-! A function is told by its name and arity. -/
theorem fn_once {d:Nat} {m:Md} (h:mdOk d m=true) {f g:Fn'} (hf:f ∈ m.funs) (hg:g ∈ m.funs) (h1:g.name.toList=f.name.toList) (h2:g.arity=f.arity):g=f:=by
 unfold mdOk fnsB at h;simp only [Bool.and_eq_true,List.all_eq_true] at h;have hall:=h.2.2.2;obtain ⟨i,hi⟩:=List.mem_iff_getElem?.1 hf;obtain ⟨j,hj⟩:=List.mem_iff_getElem?.1 hg
 have key:∀ (i j:Nat) (f g:Fn'),m.funs[i]?=some f->m.funs[j]?=some g->f.name.toList=g.name.toList->f.arity=g.arity->¬ i<j:=by
  intro i j f g hi hj e1 e2 hlt;have hl:j<m.funs.length:=(List.getElem?_eq_some_iff.1 hj).1;have h3:=hall j (by simpa using hl);unfold fnsAt at h3;rw [hj] at h3;simp only [Bool.and_eq_true,Bool.not_eq_true'] at h3
  have h4:=List.any_eq_false.1 h3.2 f (by
   refine List.mem_iff_getElem?.2 ⟨i,?_⟩
   rw [List.getElem?_take_of_lt hlt];exact hi)
  apply h4
  simp [sameR,e1,e2]
 have e1:=key i j f g hi hj h1.symm h2.symm;have e2:=key j i g f hj hi h1 h2;have:i=j:=(by omega);subst this;rw [hi] at hj;exact (Option.some.inj hj).symm
theorem loose_any {d:Nat} {m:Md} (h:mdOk d m=true) {f:Fn'} (hf:f ∈ m.funs):(looseM d m).any (sameRf f.name f.arity)=looseF d f:=by
 unfold looseM;rw [if_pos h]
 cases hl:looseF d f with
 | true =>
  rw [List.any_eq_true];refine ⟨rfOf f,?_,by simp [sameRf,rfOf]⟩;unfold looseL;exact List.mem_map.2 ⟨f,List.mem_filter.2 ⟨hf,hl⟩,rfl⟩
 | false =>
  rw [List.any_eq_false];intro r hr hs;unfold looseL at hr;obtain ⟨g,hg,rfl⟩:=List.mem_map.1 hr;obtain ⟨hg1,hg2⟩:=List.mem_filter.1 hg;simp only [sameRf,rfOf,Bool.and_eq_true,beq_iff_eq] at hs;have:=fn_once h hf hg1 hs.1 hs.2;subst this;rw [hl] at hg2
  cases hg2
theorem funQ_eq {d:Nat} {ms:List Md} {m:Md} (h:mdOk d m=true) {f:Fn'} (hf:f ∈ m.funs):looseQ m d f ++ callQ ms m d f=funP ms m d f:=by
 have hc:=mdOk_clauses h f hf
 have h1:callQ ms m d f=(onceS [] ((bodiesOf f.clauses).flatMap (codesX ms m d))).map λc=>⟨m.name,f.name,f.arity,c⟩:=by
  unfold callQ;have:=st_fold ms m f.name f.arity (f.clauses.flatMap λc=>c.2.flatMap (preX d)) [];rw [List.map_nil] at this;rw [this,bodies_pre,List.flatMap_assoc]
  rw [flatMap_same (f:=λy=>(preX d y).flatMap (callL ms m)) (g:=codesX ms m d) (λy hy=>by
   unfold bodiesOf at hy;obtain ⟨c,hcm,hy⟩:=List.mem_flatMap.1 hy
   exact pre_codes ms m d y false _ ((hc c hcm).2 y hy))]
 have h2:looseQ m d f=(lsL (looseF d f)).map λc=>⟨m.name,f.name,f.arity,c⟩:=by
  unfold looseQ lsL;rw [loose_any h hf]
  cases looseF d f <;> rfl
 have h3:funC ms m d f=lsL (looseF d f) ++ onceS [] ((bodiesOf f.clauses).flatMap (codesX ms m d)):=by
  unfold funC;rw [foldC_once]
  have h4:∀ c ∈ (bodiesOf f.clauses).flatMap (codesX ms m d),hasS (lsL (looseF d f)) c=false:=by
   intro c hc;obtain ⟨y,_,hy⟩:=List.mem_flatMap.1 hc;unfold lsL
   split
   . exact codesX_ahead ms m d y c hy
   . rfl
  have:=onceS_ahead (lsL (looseF d f)) _ [] h4
  rwa [List.append_nil] at this
 unfold funP;rw [h3,h1,h2,List.map_append]
theorem modQ_eq {d:Nat} {ms:List Md} {m:Md} (h:mdOk d m=true):modQ ms d m=modP ms d m:=by
 unfold modQ modP;rw [flatMap_same (λf hf=>funQ_eq h hf)]
theorem allQ_eq {d:Nat} {ms:List Md} (h:pgOk d ms=true):ms.flatMap (modQ ms d)=ms.flatMap (modP ms d) :=
 flatMap_same (λm hm=>modQ_eq (pgOk_mem h m hm))
/-! The list is short. -/
theorem flat_lenW {α β:Type} (f:α->List β) (g:α->Nat):∀ (l:List α),(∀ x ∈ l,(f x).length<=1+g x)->(l.flatMap f).length<=wtS g l
 | [],_=>by simp [wtS]
 | x :: l,h=>by
  have h1:=flat_lenW f g l (λy hy=>h y (List.mem_cons_of_mem _ hy));have h2:=h x List.mem_cons_self;rw [List.flatMap_cons,List.length_append];unfold wtS at *;simp only [List.length_cons,List.map_cons,List.sum_cons];omega
theorem preX_len:∀ (d:Nat) (x:Ex),(preX d x).length<=1+wtEx d x
 | 0,x=>by simp [preX]
 | d+1,x=>by
  have h1:=flat_lenW (preX d) (wtEx d) x.kids (λy _=>preX_len d y)
  have h2:=flat_lenW (λc:Cl=>c.1.flatMap (preX d) ++ c.2.flatMap (preX d)) (wtCl (wtEx d)) x.clauses (λc _=>by
   have h3:=flat_lenW (preX d) (wtEx d) c.1 (λy _=>preX_len d y);have h4:=flat_lenW (preX d) (wtEx d) c.2 (λy _=>preX_len d y);unfold wtCl;rw [List.length_append]
   omega)
  simp only [preX,wtEx,List.length_cons,List.length_append];omega
theorem stK_len (fs:ByteArray) (fn:Int) (ms:List Md) (m:Md) (s:List Pb) (x:Ex):(stK fs fn ms m s x).length<=s.length+1:=by
 unfold stK stC
 split
 . split
   . simp
   . omega
 . omega
theorem runs_of (fs:ByteArray) (fn:Int) (ms:List Md) (m:Md):∀ (L:List Ex) (s:List Pb),s.length+L.length<=16777216->Runs (λ(s:List Pb) _=>s.length+1<=16777216) (stK fs fn ms m) s L
 | [],s,_=>trivial
 | x :: L,s,h=>by
  simp only [List.length_cons] at h;have:=stK_len fs fn ms m s x;exact ⟨by omega,runs_of fs fn ms m L _ (by omega)⟩
theorem wt_mem {α:Type} (f:α->Nat) {l:List α} {x:α} (h:x ∈ l):f x<=wtS f l:=by
 obtain ⟨k,hk⟩:=List.mem_iff_getElem?.1 h;have h1:=sum_take_succ f l k x hk;have h2:=sum_take_le f l (k+1);unfold wtS;omega
theorem runs_all {d:Nat} {ms:List Md} (hw:wtS (wtMd d) ms<=16777216):∀ m ∈ ms,∀ f ∈ m.funs,Runs (λ(s:List Pb) _=>s.length+1<=16777216) (stK f.name f.arity ms m) [] (f.clauses.flatMap λc=>c.2.flatMap (preX d)):=by
 intro m hm f hf;refine runs_of _ _ _ _ _ _ ?_;have h1:=wt_mem (wtMd d) hm;have h2:=wt_mem (wtFn d) hf
 have h3:=flat_lenW (λc:Cl=>c.2.flatMap (preX d)) (wtCl (wtEx d)) f.clauses (λc _=>by
  have h4:=flat_lenW (preX d) (wtEx d) c.2 (λy _=>preX_len d y);unfold wtCl
  omega)
 have h5:wtMd d m=m.name.size+wtS wtRf m.exports+wtS (wtFn d) m.funs:=rfl;have h6:wtFn d f=f.name.size+wtS (wtCl (wtEx d)) f.clauses:=rfl;rw [List.length_nil];omega
section
open Go.Proofs.Tryz
def goodB (d:Nat) (ms:List Md):Bool:=pgOk d ms && (checkP d ms).isEmpty
theorem implGood_any (d:Nat) (w:World) (v:Value) (ms:List Md) (hT:Tabs w) (h:Rows w All 3 (HMd w All d) v ms) (hw:wtS (wtMd d) ms<=16777216) :
 Calls prog 53 #[v] w λe w'=>e=.returned (.bool (goodB d ms))/\Bz w w':=by
 have HTAB:=hid hT;have HMS:Hid (∀ w',Bz w w'->Rows w' All 3 (HMd w' All d) v ms):=λw' hw=>h.mono (sqO hw) sqj (λ_ _ _ h=>h.mono (sqO hw) sqj);have HWM:Hid (∀ m ∈ ms,wtMd d m<=16777216):=λm hm=>Nat.le_trans (wt_mem (wtMd d) hm) hw;have HRUN:=hid (runs_all hw);have HLEN:=hid (Nat.le_trans (allP_len ms ms d) hw);have HO0:=hid h;obtain ⟨p,cap,rfl,-⟩:=h;clear hT hw;go_enter func53,ntmps53;go_wp2_with fail;refine (implProgramOk_any d _ _ ms HTAB.out HO0.out).mono ?_;rintro e w1 ⟨rfl,hb1⟩;have HB1:=hid hb1;clear hb1
 cases hG:pgOk d ms with
 | false =>
  have HC:Hid (goodB d ms=false):=(by show _=_;unfold goodB;rw [hG];rfl);go_wp2;go_ret;exact ⟨by rw [HC.out];rfl,HB1.out⟩
 | true =>
  have HC:Hid (goodB d ms=(ms.flatMap (modQ ms d)).isEmpty):=(by show _=_;unfold goodB checkP;rw [hG,if_pos rfl,allQ_eq hG,Bool.true_and]);have HLQ:Hid ((ms.flatMap (modQ ms d)).length<=16777216):=(by show _<=_;rw [allQ_eq hG];exact HLEN.out);go_wp2_with fail;refine (problems_any d _ _ ms (HTAB.out.below HB1.out) (HMS.out _ HB1.out) HWM.out HLQ.out HRUN.out).mono ?_;rintro e w2 ⟨u2,rfl,ho2,hb2⟩;obtain ⟨p2,q2,rfl,hm2⟩:=ho2.slice;have HB2:=hid (HB1.out.trans (hb2.mono HB1.out.size));clear ho2 hb2
  cases hL:ms.flatMap (modQ ms d) with
  | nil =>
   have HC2:Hid (goodB d ms=true):=(by show _=_;rw [HC.out,hL];rfl);rw [hL,List.length_nil] at *;go_wp2;go_ret;exact ⟨by rw [HC2.out];rfl,HB2.out⟩
  | cons q l =>
   have HC2:Hid (goodB d ms=false):=(by show _=_;rw [HC.out,hL];rfl);have hz:¬ (((ms.flatMap (modQ ms d)).length:Nat):Int)=0:=(by rw [hL,List.length_cons];omega);generalize (ms.flatMap (modQ ms d)).length=n2 at *;clear hL HC;go_wp2;go_ret;exact ⟨by rw [HC2.out];first | rfl | simp,HB2.out⟩
theorem specGood_any (d:Nat) (w:World) (v:Value) (ms:List Md) (h:Rows w All 3 (HMd w All d) v ms) (hw:wtS (wtMd d) ms<=16777216) :
 Calls prog 16 #[v] w λe w'=>e=.returned (.bool (goodB d ms))/\Bz w w':=by
 have HMS:Hid (∀ w',Bz w w'->Rows w' All 3 (HMd w' All d) v ms):=λw' hw=>h.mono (sqO hw) sqj (λ_ _ _ h=>h.mono (sqO hw) sqj);have HO0:=hid h;have HWW:=hid hw;obtain ⟨p,cap,rfl,-⟩:=h;clear hw;go_enter func16,ntmps16;go_wp2_with fail;refine (specProgramOk_any d _ _ ms HO0.out).mono ?_;rintro e w1 ⟨rfl,hb1⟩;have HB1:=hid hb1;clear hb1
 cases hG:pgOk d ms with
 | false =>
  have HC:Hid (goodB d ms=false):=(by show _=_;unfold goodB;rw [hG];rfl);go_wp2;go_ret;exact ⟨by rw [HC.out];rfl,HB1.out⟩
 | true =>
  have HC:Hid (goodB d ms=(checkP d ms).isEmpty):=(by show _=_;unfold goodB;rw [hG,Bool.true_and]);go_wp2_with fail;refine (specCheck_any d _ _ ms (HMS.out _ HB1.out) HWW.out).mono ?_;rintro e w2 ⟨u2,rfl,ho2,hb2⟩;obtain ⟨p2,q2,rfl,hm2⟩:=ho2.slice;have HB2:=hid (HB1.out.trans (hb2.mono HB1.out.size));clear ho2 hb2
  cases hL:checkP d ms with
  | nil =>
   have HC2:Hid (goodB d ms=true):=(by show _=_;rw [HC.out,hL];rfl);rw [hL,List.length_nil] at *;go_wp2;go_ret;exact ⟨by rw [HC2.out];rfl,HB2.out⟩
  | cons q l =>
   have HC2:Hid (goodB d ms=false):=(by show _=_;rw [HC.out,hL];rfl);have hz:¬ (((checkP d ms).length:Nat):Int)=0:=(by rw [hL,List.length_cons];omega);generalize (checkP d ms).length=n2 at *;clear hL HC;go_wp2;go_ret;exact ⟨by rw [HC2.out];first | rfl | simp,HB2.out⟩
end
end Go.Proofs.YtbdhpganbbandaaGreatDoor
