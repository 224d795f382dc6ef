/-
  RemGM CopyProg ChgV OwnPlain
-/
import Derived.Test.YtbdhpganbbandaaGreatDoorP08
set_option maxHeartbeats 16000000
set_option linter.unusedVariables false
set_option maxRecDepth 100000
namespace Go.Proofs.YtbdhpganbbandaaGreatDoor
open Go.ChangeShapes Go.WideShapes Go.ChangeAt Go.RowKit
section
open Go.Proofs.Tryz
namespace RemG
def FunR (F:FuncId) (cp:List Value) (ft:Int->ByteArray->ByteArray->Nat->ByteArray) (Cap:World->Prop) (d:Nat):Prop:=∀ (w:World) (N mb:Nat) (PL:Nat->Prop) (es:Array MapEntry) (z:Nat) (cs:List Value) (x:Fn'),CapK Cap N mb->Ctx Cap w N mb PL es z->HFn w PL d cs x->SizeOf.sizeOf x.clauses<=z->wtFn d x<=16777216 ->
 Calls prog 90 #[RV F cp ft mb,.agg cs.toArray] w (ResM w mb es λw' u fp=>∃ cs',u=.agg cs'.toArray/\OFn w' d cs' (mapF (fT ft) d x) fp)
def FunsR (F:FuncId) (cp:List Value) (ft:Int->ByteArray->ByteArray->Nat->ByteArray) (Cap:World->Prop) (d:Nat):Prop:=∀ (w:World) (N mb:Nat) (PL:Nat->Prop) (es:Array MapEntry) (z:Nat) (v:Value) (cl:List Fn'),CapK Cap N mb->Ctx Cap w N mb PL es z->Rows w PL 3 (HFn w PL d) v cl->(∀ x ∈ cl,SizeOf.sizeOf x.clauses<=z)->wtS (wtFn d) cl<=16777216 ->
 Calls prog 89 #[v,.func (.func 90) #[RV F cp ft mb] #[]] w (ResM w mb es λw' u fp=>ORows w' 57 3 (OFn w' d) u (cl.map (mapF (fT ft) d)) fp)
def ModR (F:FuncId) (cp:List Value) (ft:Int->ByteArray->ByteArray->Nat->ByteArray) (Cap:World->Prop) (d:Nat):Prop:=∀ (w:World) (N mb:Nat) (PL:Nat->Prop) (es:Array MapEntry) (z:Nat) (cs:List Value) (x:Md),CapK Cap N mb->Ctx Cap w N mb PL es z->HMd w PL d cs x->(∀ f ∈ x.funs,SizeOf.sizeOf f.clauses<=z)->wtMd d x<=16777216 ->
 Calls prog 59 #[RV F cp ft mb,.agg cs.toArray] w (ResM w mb es λw' u fp=>∃ cs',u=.agg cs'.toArray/\OMd w' d cs' (mapM (fT ft) d x) fp)
def ModsR (F:FuncId) (cp:List Value) (ft:Int->ByteArray->ByteArray->Nat->ByteArray) (Cap:World->Prop) (d:Nat):Prop:=∀ (w:World) (N mb:Nat) (PL:Nat->Prop) (es:Array MapEntry) (z:Nat) (v:Value) (cl:List Md),CapK Cap N mb->Ctx Cap w N mb PL es z->Rows w PL 3 (HMd w PL d) v cl->(∀ x ∈ cl,(∀ f ∈ x.funs,SizeOf.sizeOf f.clauses<=z))->wtS (wtMd d) cl<=16777216 ->
 Calls prog 57 #[v,.func (.func 59) #[RV F cp ft mb] #[]] w (ResM w mb es λw' u fp=>ORows w' 61 3 (OMd w' d) u (cl.map (mapM (fT ft) d)) fp)
theorem fun_of {F:FuncId} {cp:List Value} {ft:Int->ByteArray->ByteArray->Nat->ByteArray} {Cap:World->Prop} {d:Nat} (hCl:ClsR F cp ft Cap d):FunR F cp ft Cap d:=by
 intro w N mb PL es z cs x hC hc hr hz hw;have HCK:=hid hC;have HC:=hid hc;obtain ⟨cv,rfl,o1,o2,hcl⟩:=hr;obtain ⟨t0,a0,cls⟩:=x;simp only at *;have hw':wtFn d ⟨t0,a0,cls⟩=t0.size+wtS (wtCl (wtEx d)) cls:=rfl;have HOK:Hid (okS t0/\okI a0):=⟨o1,o2⟩;have HCS:=hid hcl;have HZ2:=hid hz;have HW2:Hid (wtS (wtCl (wtEx d)) cls<=16777216):=(by show _<=_;omega);obtain ⟨p1,c1,rfl,hl1,hm1,-⟩:=hcl;generalize hn1:cls.length=n1 at *;have HL1:=hid hn1;obtain ⟨W3,hW3⟩:∃ W3,W3=((w.alloc (.cells #[.func (.func F) #[] cp.toArray,.map (some mb)] 71)).alloc (.cells #[.string t0,.int .i64 a0,.slice p1 n1 c1] 57)).alloc (.cells #[.string ⟨#[]⟩,.int .i64 0,.slice none 0 0] 57):=⟨_,rfl⟩;have HW3:=hid hW3;have B3:Hid (Bz w W3):=(by show Below _ _ _;rw [hW3];exact (((sqN _ _)).alloc (by simp) _).alloc (by simp only [alloc_hs];omega) _);have b3:Hid (Blk W3 w.heap.size #[.func (.func F) #[] cp.toArray,.map (some mb)] 71):=(by show Blk _ _ _ _;rw [hW3];exact Blk.new.alloc.alloc)
 have e3:Hid (Blk W3 (w.heap.size+1) #[.string t0,.int .i64 a0,.slice p1 n1 c1] 57):=by
  have:=Blk.new (w:=w.alloc (.cells #[.func (.func F) #[] cp.toArray,.map (some mb)] 71)) (cs:=#[.string t0,.int .i64 a0,.slice p1 n1 c1]) (t:=57);rw [alloc_hs] at this;show Blk _ _ _ _;rw [hW3];exact this.alloc
 have r3:Hid (Blk W3 (w.heap.size+2) #[.string ⟨#[]⟩,.int .i64 0,.slice none 0 0] 57):=by
  have:=Blk.new (w:=(w.alloc (.cells #[.func (.func F) #[] cp.toArray,.map (some mb)] 71)).alloc (.cells #[.string t0,.int .i64 a0,.slice p1 n1 c1] 57)) (cs:=#[.string ⟨#[]⟩,.int .i64 0,.slice none 0 0]) (t:=57);rw [alloc_hs,alloc_hs] at this;show Blk _ _ _ _;rw [hW3];exact this
 have S3:Hid (W3.heap.size=w.heap.size+3):=(by show _=_;rw [hW3,alloc_hs,alloc_hs,alloc_hs]);have C3:=hid (HC.out.next HCK.out B3.out (sqR _));have P3:=hid (HCS.out.mono (sqO B3.out) sqj (λ_ _ _ h=>h.mono (sqO B3.out) sqj (λ_ _ h=>h.mono (sqO B3.out) sqj)));have hml:=HC.out.mlt;have hmN:=HC.out.lt;have hNw:=HC.out.le;unfold ClsR RV at hCl;unfold RV;obtain ⟨y0,y1⟩:=sqB2 b3.out;obtain ⟨x0,x1,x2⟩:=sqB3 e3.out;clear hW3 hC hc hz hw hw' hn1 o1 o2;go_enter func90,ntmps90;go_wp2_with fail;rw [<-HW3.out];refine (hCl _ N mb PL es z _ cls HCK.out C3.out P3.out HZ2.out HW2.out).mono ?_;rintro e w4 ⟨u4,fp,rfl,ho4,hnd4,hrg4,hb4,hmm4⟩;obtain ⟨pu4,cu4,hu4,hcl4,hcm4⟩:=ho4.shape;rw [List.length_map,HL1.out] at hu4;subst hu4;have HO4:=hid ho4;have ND4:Hid (fp.Nodup/\∀ a ∈ fp,W3.heap.size<=a/\a<w4.heap.size):=⟨hnd4,hrg4⟩;have K4:=hid hb4;have g3:=S3.out;have g4:=hb4.size;have MS4:=hid hmm4;have e4:=hid (hb4.blk e3.out e3.out.lt (by omega));have r4:=hid (hb4.blk r3.out r3.out.lt (by omega));have f9:=e4.out.frozen 2;obtain ⟨f0,f1,f2⟩:=sqF3 r4.out;obtain ⟨v0,v1,v2⟩:=sqB3 e4.out;obtain ⟨s0,s1,s2⟩:=sqB3 r4.out;clear ho4 hnd4 hrg4 hb4 hmm4 hcl4 hcm4 y0 y1 x0 x1 x2;go_wp2_with fail;obtain ⟨W7,hW7⟩:∃ W7,W7=(((w4.setCell ⟨w.heap.size+1,2,none⟩ (.slice pu4 n1 cu4)).setCell ⟨w.heap.size+2,0,none⟩ (.string t0)).setCell ⟨w.heap.size+2,1,none⟩ (.int .i64 a0)).setCell ⟨w.heap.size+2,2,none⟩ (.slice pu4 n1 cu4):=⟨_,rfl⟩;have bz:Blk W7 (w.heap.size+2) #[.string t0,.int .i64 a0,.slice pu4 n1 cu4] 57:=(by rw [hW7];exact (((r4.out.other (by show w.heap.size+2≠w.heap.size+1;omega)).same rfl).same rfl).same rfl)
 have K7:Below (w.heap.size+1) w4 W7:=by
  rw [hW7];exact ((((Below.refl _ w4).setCell (by show w.heap.size+1<=w.heap.size+1;omega) _).setCell (by show w.heap.size+1<=w.heap.size+2;omega) _).setCell (by show w.heap.size+1<=w.heap.size+2;omega) _).setCell (by show w.heap.size+1<=w.heap.size+2;omega) _
 have o7:∀ a,w.heap.size+3<=a->W7.heap[a]?=w4.heap[a]?:=λa ha=>by
  rw [hW7,Below.heap_setCell _ _ _ _ (by show a≠w.heap.size+2;omega),Below.heap_setCell _ _ _ _ (by show a≠w.heap.size+2;omega),Below.heap_setCell _ _ _ _ (by show a≠w.heap.size+2;omega),Below.heap_setCell _ _ _ _ (by show a≠w.heap.size+1;omega)]
 have s7:=K7.size;obtain ⟨j0,j1,j2⟩:=sqB3 bz
 have o4:ORows W7 44 2 (OCl W7 (OEx W7 d)) (.slice pu4 n1 cu4) (cls.map (mapC (fT ft) d)) fp:=by
  have kk:KeepOn fp w4 W7:=λa ha=>by
   have h:=ND4.out.2 a ha;exact o7 a (by omega)
  exact HO4.out.keep kk (λcs x f _ hs h=>OCls.keep h (kk.sub hs))
 have rg:∀ a ∈ fp,w.heap.size<=a/\a<W7.heap.size:=λa ha=>by
  have h:=ND4.out.2 a ha;omega
 have of:OffB mb w.heap.size w W7:=(OffB.of_below B3.out).trans ((K4.out.mono (by omega)).trans (OffB.of_below (K7.mono (by omega))));have ms:MapSt W7 mb es:=MS4.out.keep (K7.block mb (by omega))
 have fin:ResM w mb es (λw' u fp=>∃ cs',u=.agg cs'.toArray/\OFn w' d cs' (mapF (fT ft) d ⟨t0,a0,cls⟩) fp) (.returned (.agg #[.string t0,.int .i64 a0,.slice pu4 n1 cu4])) W7 :=
  ⟨_,fp,rfl,⟨[.string t0,.int .i64 a0,.slice pu4 n1 cu4],rfl,⟨_,rfl,HOK.out.1,HOK.out.2,o4⟩⟩,ND4.out.1,rg,of,ms⟩
 rw [hW7] at fin j0 j1 j2;exact bodyPost_ret (v:=.agg #[.string t0,.int .i64 a0,.slice pu4 n1 cu4]) (by simp [results,results90,go_sem,j0,j1,j2]) rfl fin
theorem fillFun_of {F:FuncId} {cp:List Value} {ft:Int->ByteArray->ByteArray->Nat->ByteArray} {Cap:World->Prop} {d:Nat} (hE:FunR F cp ft Cap d) (w0 w:World) (G n N mb:Nat) (PL:Nat->Prop) (es:Array MapEntry) (z:Nat) (v:Value) (xs:List Fn') (M:List Value) (hC:CapK Cap N mb)
 (hM:MadeB mb w0 w G n 57 3 (λw=>OFn w d) (xs.map (mapF (fT ft) d)) 0 M []) (hc:Ctx Cap w N mb PL es z) (hr:Rows w PL 3 (HFn w PL d) v xs) (hn:xs.length=n) (hz:∀ x ∈ xs,SizeOf.sizeOf x.clauses<=z) (hw:wtS (wtFn d) xs<=16777216) (hNG:N<=G) :
 Calls prog 125 #[.slice (some ⟨G,0,none⟩) n n,v,.func (.func 90) #[RV F cp ft mb] #[]] w λe w'=>e=.returned (.tuple #[])/\(∃ ys fps,MadeB mb w0 w' G n 57 3 (λw=>OFn w d) (xs.map (mapF (fT ft) d)) n ys fps)/\MapSt w' mb es/\Off [mb,G] w w':=by
 obtain ⟨p,cap,rfl,hcl,hcm,hx⟩:=hr;rw [hn] at hcl ⊢;have HN:=hid hn;have HX:=hid hx;have HM0:=hid hM;have HC:=hid hc;have HCK:=hid hC;have HZ:=hid hz;have HWT:=hid hw;have hnb:n<=16777216:=(by unfold wtS at hw;omega);have HNG:=hid hNG;clear hx hn hM hc hC hz hw hNG;unfold RV;go_enter func125,ntmps125;go_wp2_with fail
 go_loopw [10] (λiv wr=>∃ (k:Nat) (ys:List Value) (fps:List (List Nat)),k<=n/\iv=.int .i64 k/\Hid (MadeB mb w0 wr G n 57 3 (λw=>OFn w d) (xs.map (mapF (fT ft) d)) k ys fps)/\Hid (MapSt wr mb es)/\Hid (Off [mb,G] w wr)) (λiv _=>n - (intOf iv).toNat)
 case atStart=>exact ⟨0,M,[],Nat.zero_le _,rfl,HM0.out,HC.out.mp,Off.refl _ _⟩
 case round =>
  obtain ⟨k,ys,fps,hk,rfl,HM,HMS,HOG⟩:=hrel;have HOF:=hid (offB_of_off HOG.out HNG.out HC.out.le);by_cases hlt:k<n
  . obtain ⟨x,hxk⟩:=sqA (l:=xs) (k:=k) HN.out hlt
    obtain ⟨g,off,rfl,hg,hgl,hat⟩:=HX.out (sqE hxk);obtain ⟨cs,hcl6,hcs,hex⟩:=hat k x hxk;have hgP:=HC.out.pl g hg;have HXR:=hid (hex.mono (HC.out.same HOF.out (sqR _)) sqj);obtain ⟨tt,tk,r1,m1,s1,rfl⟩:=HFn.shapeR hex;obtain ⟨a0,a1,a2⟩:=sqC3 hcs (by omega);rw [<-HOF.out.cellAt (p:=⟨g,_,none⟩) hgP.1 hgP.2.1] at a0 a1 a2;clear hcs hat;simp at a0 a1 a2;have hki:(k:Int)<(n:Int):=(by omega);have hk0:=sqI k
    have HWX:Hid (wtFn d x<=16777216):=by
     show _<=_;have h1:=HWT.out;have h2:=sum_take_succ (wtFn d) xs k x hxk;have h3:=sum_take_le (wtFn d) xs (k+1);unfold wtS at h1;omega
    have HZX:=hid (HZ.out x (List.mem_of_getElem? hxk));have HYK:Hid ((xs.map (mapF (fT ft) d))[k]?=some (mapF (fT ft) d x)):=(by show _=_;rw [List.getElem?_map,hxk];rfl);obtain ⟨W5,hW5⟩:∃ W5,W5=wr.alloc (.cells #[.string tt,.int .i64 tk,.slice r1 m1 s1] 57):=⟨_,rfl⟩;have K5:Hid (Bz wr W5):=(by show Below _ _ _;rw [hW5];exact (sqN _ _));have HW5:=hid hW5;have CR:=hid (HC.out.off HCK.out HOF.out (sqR _) HMS.out (sqR _));have C5:=hid (CR.out.next HCK.out K5.out (sqR _));have X5:=hid (HXR.out.mono (CR.out.same (OffB.of_below (b:=mb) K5.out) CR.out.le) sqj);clear hW5 hex hcl6;go_wp2_with fail;rw [<-HW5.out];refine (hE W5 N mb PL es z _ x HCK.out C5.out X5.out HZX.out HWX.out).mono ?_;rintro e w1 ⟨u,fp,rfl,⟨cs',rfl,hx1⟩,hnd,hrg,hb1,hm1⟩;obtain ⟨sx,sk,p1,n1,q1,hsh⟩:=hx1.shape;subst hsh;have K6:Hid (OffB mb wr.heap.size wr w1):=(OffB.of_below K5.out).trans (hb1.mono K5.out.size);have HX1:=hid hx1;have HND:Hid fp.Nodup:=hnd;have HRG:Hid (∀ a ∈ fp,wr.heap.size<=a/\a<w1.heap.size):=λa ha=>⟨Nat.le_trans K5.out.size (hrg a ha).1,(hrg a ha).2⟩;have HM1:=hid hm1;have hGl:=HM.out.sz;have hGm:=HM.out.lt;have o1:w1.ownsRow G 57 3 (.slice (some ⟨G,0,none⟩) n n) n ys:=ownsG_blk HM.out.own (K6.out.block G (by omega) (by omega));have HO1:=hid o1;have f0:=o1.frozenAt (k * 3);obtain ⟨y0,g0⟩:=own_someR o1 (k * 3) (by omega);have f1:=o1.frozenAt (k * 3+1);obtain ⟨y1,g1⟩:=own_someR o1 (k * 3+1) (by omega);have f2:=o1.frozenAt (k * 3+2);obtain ⟨y2,g2⟩:=own_someR o1 (k * 3+2) (by omega);clear o1 hb1 hx1 hnd hrg hm1 hGl hGm a0 a1 a2;go_wp2_with fail;have sd:=stored3 HO1.out (k * 3) (.string sx) (.int .i64 sk) (.slice p1 n1 q1);have hlen:ys.length=n * 3:=HO1.out.1;have HMN:=MadeB.step (O:=λw=>OFn w d) (c:=3) (λw w' cs x f h hk=>OFn.keep h hk) HM.out HYK.out K6.out HX1.out HND.out HRG.out rfl sd.1 sd.2 (λm hm=>set3_other hm) (λj hj=>set3_self (by omega) j hj);refine ⟨⟨k+1,_,_,by omega,by go_num,HMN,HM1.out.keep (sd.2.block mb (by have:=CR.out.mlt;have:=K6.out.size;omega) (by have:=HM.out.lt;simp;omega)),HOG.out.trans ((off_of_offB K6.out).trans (Off.of_grown sd.2 (by simp)))⟩,by simp [intOf];omega⟩
  . obtain rfl:k=n:=by omega
    go_wp2;go_end0;exact ⟨rfl,⟨_,_,HM.out⟩,HMS.out,HOG.out⟩
theorem eachFun_of {F:FuncId} {cp:List Value} {ft:Int->ByteArray->ByteArray->Nat->ByteArray} {Cap:World->Prop} {d:Nat} (hE:FunR F cp ft Cap d):FunsR F cp ft Cap d:=by
 intro w N mb PL es z v cl hC hc hr hz hw;have HCK:=hid hC;have HC:=hid hc;have HR:=hid hr;have HZ:=hid hz;have HWT:=hid hw;obtain ⟨p,cap,rfl,hcl,hcm,hx⟩:=hr;have hnb:cl.length<=16777216:=(by unfold wtS at hw;omega);clear hC hc hz hw hx;unfold RV
 cases p with
 | none =>
  obtain rfl:=rows_nil_of_none HR.out;go_enter func89,ntmps89;go_wp2_with fail;refine (blankFun_nil _ _).mono ?_;rintro e w2 ⟨rfl,rfl⟩;go_wp2_with fail;refine (fillFun_nil _ _ _ _ _ _).mono ?_;rintro e w3 ⟨rfl,rfl⟩;go_wp2;go_ret;exact ⟨_,[],rfl,orows_nil none 0 (Nat.zero_le _),by simp,by simp,OffB.refl _ _ _,HC.out.mp⟩
 | some a =>
  generalize hn:cl.length=n at *;have HN:=hid hn;clear hn;go_enter func89,ntmps89;go_wp2_with fail;refine (blankFun_some _ a n cap hnb).mono ?_;rintro e w2 ⟨rfl,M,hM,hw2⟩;have K2:Hid (Bz w w2):=(by show Below _ _ _;rw [hw2];exact (sqN _ _))
  have HM0:Hid (MadeB mb w w2 w.heap.size n 57 3 (λw=>OFn w d) (cl.map (mapF (fT ft) d)) 0 M.toList []):=by
   show MadeB _ _ _ _ _ _ _ _ _ _ _ _;rw [hw2];exact MadeB.start hM (by unfold maxLen;omega) HC.out.mlt
  have C2:=hid (HC.out.next HCK.out K2.out (sqR _));have R2:=hid (HR.out.mono (sqO K2.out) sqj (λ_ _ _ h=>h.mono (sqO K2.out) sqj));have CFL:=fillFun_of hE w w2 w.heap.size n N mb PL es z (.slice (some a) n cap) cl M.toList HCK.out HM0.out C2.out R2.out HN.out HZ.out HWT.out HC.out.le;unfold RV at CFL;have HCF:=hid CFL;clear CFL hw2 hM;go_wp2_with fail;refine HCF.out.mono ?_;rintro e w3 ⟨rfl,⟨ys,fps,hM3⟩,hm3,hof3⟩;obtain ⟨fp,r1,r2,r3⟩:=hM3.done (show (cl.map (mapF (fT ft) d)).length=n by rw [List.length_map];exact HN.out) (by unfold maxLen;omega);have R1:=hid r1;have RR:Hid (fp.Nodup/\∀ a ∈ fp,w.heap.size<=a/\a<w3.heap.size):=⟨r2,r3⟩;have O3:=hid hM3.off;have M3:=hid hm3;clear hM3 hm3 hof3 r1 r2 r3;go_wp2;go_ret;exact ⟨_,fp,rfl,R1.out,RR.out.1,RR.out.2,O3.out,M3.out⟩
theorem mod_of {F:FuncId} {cp:List Value} {ft:Int->ByteArray->ByteArray->Nat->ByteArray} {Cap:World->Prop} {d:Nat} (hF:FunsR F cp ft Cap d):ModR F cp ft Cap d:=by
 intro w N mb PL es z cs x hC hc hr hz hw;have HCK:=hid hC;have HC:=hid hc;obtain ⟨ev,fv,rfl,o1,hev,hfv⟩:=hr;obtain ⟨t0,rs,fs⟩:=x;simp only at *;have hw':wtMd d ⟨t0,rs,fs⟩=t0.size+wtS wtRf rs+wtS (wtFn d) fs:=rfl;have HOK:=hid o1;have HRS:=hid hev;have HFS:=hid hfv;have HZ2:=hid hz;have HW1:Hid (rs.length<=16777216):=(by show _<=_;unfold wtS at hw';omega);have HW2:Hid (wtS (wtFn d) fs<=16777216):=(by show _<=_;omega);obtain ⟨p1,c1,rfl,-⟩:=hev;obtain ⟨p2,c2,rfl,-⟩:=hfv;generalize hn1:rs.length=n1 at *;generalize hn2:fs.length=n2 at *;have HL1:=hid hn1;have HL2:=hid hn2;obtain ⟨W3,hW3⟩:∃ W3,W3=((w.alloc (.cells #[.func (.func F) #[] cp.toArray,.map (some mb)] 71)).alloc (.cells #[.string t0,.slice p1 n1 c1,.slice p2 n2 c2] 61)).alloc (.cells #[.string ⟨#[]⟩,.slice none 0 0,.slice none 0 0] 61):=⟨_,rfl⟩;have HW3:=hid hW3;have B3:Hid (Bz w W3):=(by show Below _ _ _;rw [hW3];exact (((sqN _ _)).alloc (by simp) _).alloc (by simp only [alloc_hs];omega) _);have b3:Hid (Blk W3 w.heap.size #[.func (.func F) #[] cp.toArray,.map (some mb)] 71):=(by show Blk _ _ _ _;rw [hW3];exact Blk.new.alloc.alloc)
 have e3:Hid (Blk W3 (w.heap.size+1) #[.string t0,.slice p1 n1 c1,.slice p2 n2 c2] 61):=by
  have:=Blk.new (w:=w.alloc (.cells #[.func (.func F) #[] cp.toArray,.map (some mb)] 71)) (cs:=#[.string t0,.slice p1 n1 c1,.slice p2 n2 c2]) (t:=61);rw [alloc_hs] at this;show Blk _ _ _ _;rw [hW3];exact this.alloc
 have r3:Hid (Blk W3 (w.heap.size+2) #[.string ⟨#[]⟩,.slice none 0 0,.slice none 0 0] 61):=by
  have:=Blk.new (w:=(w.alloc (.cells #[.func (.func F) #[] cp.toArray,.map (some mb)] 71)).alloc (.cells #[.string t0,.slice p1 n1 c1,.slice p2 n2 c2] 61)) (cs:=#[.string ⟨#[]⟩,.slice none 0 0,.slice none 0 0]) (t:=61);rw [alloc_hs,alloc_hs] at this;show Blk _ _ _ _;rw [hW3];exact this
 have S3:Hid (W3.heap.size=w.heap.size+3):=(by show _=_;rw [hW3,alloc_hs,alloc_hs,alloc_hs]);have C3:=hid (HC.out.next HCK.out B3.out (sqR _));have P3:=hid (HRS.out.mono (sqO B3.out) sqj (λ_ _ _ h=>h));have hml:=HC.out.mlt;have hmN:=HC.out.lt;have hNw:=HC.out.le
 have HPL:Hid (∀ g,PL g->g<W3.heap.size):=λg hg=>by have:=(C3.out.pl g hg).1;have:=C3.out.le;omega
 unfold FunsR RV at hF;unfold RV;obtain ⟨y0,y1⟩:=sqB2 b3.out;obtain ⟨x0,x1,x2⟩:=sqB3 e3.out;clear hW3 hC hc hz hw hw' hn1 hn2 o1;go_enter func59,ntmps59;go_wp2_with fail;rw [<-HW3.out];refine (eachRef_any d W3 PL _ rs P3.out HPL.out (by rw [HL1.out];exact HW1.out)).mono ?_;rintro e w4 ⟨u4,fp,rfl,ho4,hnd4,hrg4,hb4⟩;obtain ⟨pu4,cu4,hu4,hcl4,hcm4⟩:=ho4.shape;rw [HL1.out] at hu4;subst hu4;have HO4:=hid ho4;have ND4:Hid (fp.Nodup/\∀ a ∈ fp,W3.heap.size<=a/\a<w4.heap.size):=⟨hnd4,hrg4⟩;have K4:=hid hb4;have g3:=S3.out;have g4:=hb4.size;have b4:=hid (b3.out.next hb4);have e4:=hid (e3.out.next hb4);have r4:=hid (r3.out.next hb4);have ff:=e4.out.frozen 1;obtain ⟨v0,v1,v2⟩:=sqB3 e4.out;obtain ⟨s0,s1⟩:=sqB2 b4.out;clear ho4 hnd4 hrg4 hb4 hcl4 hcm4 y0 y1 x0 x1 x2;go_wp2_with fail;obtain ⟨V4,hV4⟩:∃ V4,V4=w4.setCell ⟨w.heap.size+1,1,none⟩ (.slice pu4 n1 cu4):=⟨_,rfl⟩;rw [<-hV4]
 have q4:∀ a,a≠w.heap.size+1->V4.heap[a]?=w4.heap[a]?:=λa ha=>by rw [hV4];exact Below.heap_setCell _ _ _ _ ha
 have OV4:Hid (OffB mb (w.heap.size+1) w4 V4):=(by show OffB _ _ _ _;rw [hV4];exact (OffB.refl _ _ _).setCell (by show _<=w.heap.size+1;exact Nat.le_refl _) _);have Q4:=hid q4;have sV4:V4.heap.size=w4.heap.size:=(by rw [hV4];simp [World.setCell]);have E4:Hid (Blk V4 (w.heap.size+1) #[.string t0,.slice pu4 n1 cu4,.slice p2 n2 c2] 61):=(by show Blk _ _ _ _;rw [hV4];exact e4.out.same rfl);have R4:Hid (Blk V4 (w.heap.size+2) #[.string ⟨#[]⟩,.slice none 0 0,.slice none 0 0] 61):=(q4 _ (by omega)).trans r4.out;have O4:Hid (OffB mb w.heap.size w V4):=(OffB.of_below B3.out).trans ((OffB.of_below (K4.out.mono (by omega))).trans (OV4.out.mono (by omega)));have C4:Hid (Ctx Cap V4 N mb PL es z):=HC.out.off HCK.out O4.out HC.out.le (HC.out.mp.keep ((q4 mb (by omega)).trans ((K4.out.block mb (by omega)).trans (B3.out.block mb hml)))) (sqR _);have T4:=hid (HFS.out.mono (HC.out.same O4.out HC.out.le) sqj (λ_ _ _ h=>h.mono (HC.out.same O4.out HC.out.le) sqj));clear hV4 q4 v0 v1 v2 s0 s1 ff;refine (hF _ N mb PL es z _ fs HCK.out C4.out T4.out HZ2.out HW2.out).mono ?_;rintro e w5 ⟨u5,fq,rfl,ho5,hnd5,hrg5,hb5,hmm5⟩;obtain ⟨pu5,cu5,hu5,hcl5,hcm5⟩:=ho5.shape;rw [List.length_map,HL2.out] at hu5;subst hu5;have HO5:=hid ho5;have ND5:Hid (fq.Nodup/\∀ a ∈ fq,w4.heap.size<=a/\a<w5.heap.size):=⟨hnd5,λa ha=>⟨by have:=(hrg5 a ha).1;omega,(hrg5 a ha).2⟩⟩;have K5:=hid hb5;have g5:=hb5.size;have MS5:=hid hmm5;have e5:=hid (hb5.blk E4.out E4.out.lt (by omega));have r5:=hid (hb5.blk R4.out R4.out.lt (by omega));have f9:=e5.out.frozen 2;obtain ⟨f0,f1,f2⟩:=sqF3 r5.out;obtain ⟨v0,v1,v2⟩:=sqB3 e5.out;obtain ⟨s0,s1,s2⟩:=sqB3 r5.out;clear ho5 hnd5 hrg5 hb5 hmm5 hcl5 hcm5;go_wp2_with fail;obtain ⟨W7,hW7⟩:∃ W7,W7=(((w5.setCell ⟨w.heap.size+1,2,none⟩ (.slice pu5 n2 cu5)).setCell ⟨w.heap.size+2,0,none⟩ (.string t0)).setCell ⟨w.heap.size+2,1,none⟩ (.slice pu4 n1 cu4)).setCell ⟨w.heap.size+2,2,none⟩ (.slice pu5 n2 cu5):=⟨_,rfl⟩;have bz:Blk W7 (w.heap.size+2) #[.string t0,.slice pu4 n1 cu4,.slice pu5 n2 cu5] 61:=(by rw [hW7];exact (((r5.out.other (by show w.heap.size+2≠w.heap.size+1;omega)).same rfl).same rfl).same rfl)
 have K7:Below (w.heap.size+1) w5 W7:=by
  rw [hW7];exact ((((Below.refl _ w5).setCell (by show w.heap.size+1<=w.heap.size+1;omega) _).setCell (by show w.heap.size+1<=w.heap.size+2;omega) _).setCell (by show w.heap.size+1<=w.heap.size+2;omega) _).setCell (by show w.heap.size+1<=w.heap.size+2;omega) _
 have o7:∀ a,w.heap.size+3<=a->W7.heap[a]?=w5.heap[a]?:=λa ha=>by
  rw [hW7,Below.heap_setCell _ _ _ _ (by show a≠w.heap.size+2;omega),Below.heap_setCell _ _ _ _ (by show a≠w.heap.size+2;omega),Below.heap_setCell _ _ _ _ (by show a≠w.heap.size+2;omega),Below.heap_setCell _ _ _ _ (by show a≠w.heap.size+1;omega)]
 have s7:=K7.size;obtain ⟨j0,j1,j2⟩:=sqB3 bz
 have o4:ORows W7 110 2 (ORf W7 d) (.slice pu4 n1 cu4) rs fp:=by
  have kk:KeepOn fp w4 W7:=λa ha=>by
   have h:=ND4.out.2 a ha;exact (o7 a (by omega)).trans ((K5.out.block a (by omega) (by omega)).trans (Q4.out a (by omega)))
  exact HO4.out.keep kk (λcs x f _ hs h=>h)
 have o5:ORows W7 57 3 (OFn W7 d) (.slice pu5 n2 cu5) (fs.map (mapF (fT ft) d)) fq:=by
  have kk:KeepOn fq w5 W7:=λa ha=>by
   have h:=ND5.out.2 a ha;exact o7 a (by omega)
  exact HO5.out.keep kk (λcs x f _ hs h=>h.keep (kk.sub hs))
 have nd:(fp ++ fq).Nodup:=by
  rw [List.nodup_append];refine ⟨ND4.out.1,ND5.out.1,λa ha b hb=>?_⟩;have h:=ND4.out.2 a ha;have h':=ND5.out.2 b hb;omega
 have rg:∀ a ∈ fp ++ fq,w.heap.size<=a/\a<W7.heap.size:=λa ha=>by
  rcases List.mem_append.1 ha with ha | ha
  . have h:=ND4.out.2 a ha;omega
  . have h:=ND5.out.2 a ha;omega
 have of:OffB mb w.heap.size w W7:=O4.out.trans ((K5.out.mono (by omega)).trans (OffB.of_below (K7.mono (by omega))));have ms:MapSt W7 mb es:=MS5.out.keep (K7.block mb (by omega))
 have fin:ResM w mb es (λw' u fp=>∃ cs',u=.agg cs'.toArray/\OMd w' d cs' (mapM (fT ft) d ⟨t0,rs,fs⟩) fp) (.returned (.agg #[.string t0,.slice pu4 n1 cu4,.slice pu5 n2 cu5])) W7 :=
  ⟨_,fp ++ fq,rfl,⟨[.string t0,.slice pu4 n1 cu4,.slice pu5 n2 cu5],rfl,⟨_,_,fp,fq,rfl,rfl,HOK.out,o4,o5⟩⟩,nd,rg,of,ms⟩
 rw [hW7] at fin j0 j1 j2;exact bodyPost_ret (v:=.agg #[.string t0,.slice pu4 n1 cu4,.slice pu5 n2 cu5]) (by simp [results,results59,go_sem,j0,j1,j2]) rfl fin
theorem fillModule_of {F:FuncId} {cp:List Value} {ft:Int->ByteArray->ByteArray->Nat->ByteArray} {Cap:World->Prop} {d:Nat} (hE:ModR F cp ft Cap d) (w0 w:World) (G n N mb:Nat) (PL:Nat->Prop) (es:Array MapEntry) (z:Nat) (v:Value) (xs:List Md) (M:List Value) (hC:CapK Cap N mb)
 (hM:MadeB mb w0 w G n 61 3 (λw=>OMd w d) (xs.map (mapM (fT ft) d)) 0 M []) (hc:Ctx Cap w N mb PL es z) (hr:Rows w PL 3 (HMd w PL d) v xs) (hn:xs.length=n) (hz:∀ x ∈ xs,(∀ f ∈ x.funs,SizeOf.sizeOf f.clauses<=z)) (hw:wtS (wtMd d) xs<=16777216) (hNG:N<=G) :
 Calls prog 86 #[.slice (some ⟨G,0,none⟩) n n,v,.func (.func 59) #[RV F cp ft mb] #[]] w λe w'=>e=.returned (.tuple #[])/\(∃ ys fps,MadeB mb w0 w' G n 61 3 (λw=>OMd w d) (xs.map (mapM (fT ft) d)) n ys fps)/\MapSt w' mb es/\Off [mb,G] w w':=by
 obtain ⟨p,cap,rfl,hcl,hcm,hx⟩:=hr;rw [hn] at hcl ⊢;have HN:=hid hn;have HX:=hid hx;have HM0:=hid hM;have HC:=hid hc;have HCK:=hid hC;have HZ:=hid hz;have HWT:=hid hw;have hnb:n<=16777216:=(by unfold wtS at hw;omega);have HNG:=hid hNG;clear hx hn hM hc hC hz hw hNG;unfold RV;go_enter func86,ntmps86;go_wp2_with fail
 go_loopw [10] (λiv wr=>∃ (k:Nat) (ys:List Value) (fps:List (List Nat)),k<=n/\iv=.int .i64 k/\Hid (MadeB mb w0 wr G n 61 3 (λw=>OMd w d) (xs.map (mapM (fT ft) d)) k ys fps)/\Hid (MapSt wr mb es)/\Hid (Off [mb,G] w wr)) (λiv _=>n - (intOf iv).toNat)
 case atStart=>exact ⟨0,M,[],Nat.zero_le _,rfl,HM0.out,HC.out.mp,Off.refl _ _⟩
 case round =>
  obtain ⟨k,ys,fps,hk,rfl,HM,HMS,HOG⟩:=hrel;have HOF:=hid (offB_of_off HOG.out HNG.out HC.out.le);by_cases hlt:k<n
  . obtain ⟨x,hxk⟩:=sqA (l:=xs) (k:=k) HN.out hlt
    obtain ⟨g,off,rfl,hg,hgl,hat⟩:=HX.out (sqE hxk);obtain ⟨cs,hcl6,hcs,hex⟩:=hat k x hxk;have hgP:=HC.out.pl g hg;have HXR:=hid (hex.mono (HC.out.same HOF.out (sqR _)) sqj);obtain ⟨tt,r1,m1,s1,r2,m2,s2,rfl⟩:=HMd.shapeR hex;obtain ⟨a0,a1,a2⟩:=sqC3 hcs (by omega);rw [<-HOF.out.cellAt (p:=⟨g,_,none⟩) hgP.1 hgP.2.1] at a0 a1 a2;clear hcs hat;simp at a0 a1 a2;have hki:(k:Int)<(n:Int):=(by omega);have hk0:=sqI k
    have HWX:Hid (wtMd d x<=16777216):=by
     show _<=_;have h1:=HWT.out;have h2:=sum_take_succ (wtMd d) xs k x hxk;have h3:=sum_take_le (wtMd d) xs (k+1);unfold wtS at h1;omega
    have HZX:=hid (HZ.out x (List.mem_of_getElem? hxk));have HYK:Hid ((xs.map (mapM (fT ft) d))[k]?=some (mapM (fT ft) d x)):=(by show _=_;rw [List.getElem?_map,hxk];rfl);obtain ⟨W5,hW5⟩:∃ W5,W5=wr.alloc (.cells #[.string tt,.slice r1 m1 s1,.slice r2 m2 s2] 61):=⟨_,rfl⟩;have K5:Hid (Bz wr W5):=(by show Below _ _ _;rw [hW5];exact (sqN _ _));have HW5:=hid hW5;have CR:=hid (HC.out.off HCK.out HOF.out (sqR _) HMS.out (sqR _));have C5:=hid (CR.out.next HCK.out K5.out (sqR _));have X5:=hid (HXR.out.mono (CR.out.same (OffB.of_below (b:=mb) K5.out) CR.out.le) sqj);clear hW5 hex hcl6;go_wp2_with fail;rw [<-HW5.out];refine (hE W5 N mb PL es z _ x HCK.out C5.out X5.out HZX.out HWX.out).mono ?_;rintro e w1 ⟨u,fp,rfl,⟨cs',rfl,hx1⟩,hnd,hrg,hb1,hm1⟩;obtain ⟨sx,p1,n1,q1,p2,n2,q2,hsh⟩:=hx1.shape;subst hsh;have K6:Hid (OffB mb wr.heap.size wr w1):=(OffB.of_below K5.out).trans (hb1.mono K5.out.size);have HX1:=hid hx1;have HND:Hid fp.Nodup:=hnd;have HRG:Hid (∀ a ∈ fp,wr.heap.size<=a/\a<w1.heap.size):=λa ha=>⟨Nat.le_trans K5.out.size (hrg a ha).1,(hrg a ha).2⟩;have HM1:=hid hm1;have hGl:=HM.out.sz;have hGm:=HM.out.lt;have o1:w1.ownsRow G 61 3 (.slice (some ⟨G,0,none⟩) n n) n ys:=ownsG_blk HM.out.own (K6.out.block G (by omega) (by omega));have HO1:=hid o1;have f0:=o1.frozenAt (k * 3);obtain ⟨y0,g0⟩:=own_someR o1 (k * 3) (by omega);have f1:=o1.frozenAt (k * 3+1);obtain ⟨y1,g1⟩:=own_someR o1 (k * 3+1) (by omega);have f2:=o1.frozenAt (k * 3+2);obtain ⟨y2,g2⟩:=own_someR o1 (k * 3+2) (by omega);clear o1 hb1 hx1 hnd hrg hm1 hGl hGm a0 a1 a2;go_wp2_with fail;have sd:=stored3 HO1.out (k * 3) (.string sx) (.slice p1 n1 q1) (.slice p2 n2 q2);have hlen:ys.length=n * 3:=HO1.out.1;have HMN:=MadeB.step (O:=λw=>OMd w d) (c:=3) (λw w' cs x f h hk=>OMd.keep h hk) HM.out HYK.out K6.out HX1.out HND.out HRG.out rfl sd.1 sd.2 (λm hm=>set3_other hm) (λj hj=>set3_self (by omega) j hj);refine ⟨⟨k+1,_,_,by omega,by go_num,HMN,HM1.out.keep (sd.2.block mb (by have:=CR.out.mlt;have:=K6.out.size;omega) (by have:=HM.out.lt;simp;omega)),HOG.out.trans ((off_of_offB K6.out).trans (Off.of_grown sd.2 (by simp)))⟩,by simp [intOf];omega⟩
  . obtain rfl:k=n:=by omega
    go_wp2;go_end0;exact ⟨rfl,⟨_,_,HM.out⟩,HMS.out,HOG.out⟩
theorem eachModule_of {F:FuncId} {cp:List Value} {ft:Int->ByteArray->ByteArray->Nat->ByteArray} {Cap:World->Prop} {d:Nat} (hE:ModR F cp ft Cap d):ModsR F cp ft Cap d:=by
 intro w N mb PL es z v cl hC hc hr hz hw;have HCK:=hid hC;have HC:=hid hc;have HR:=hid hr;have HZ:=hid hz;have HWT:=hid hw;obtain ⟨p,cap,rfl,hcl,hcm,hx⟩:=hr;have hnb:cl.length<=16777216:=(by unfold wtS at hw;omega);clear hC hc hz hw hx;unfold RV
 cases p with
 | none =>
  obtain rfl:=rows_nil_of_none HR.out;go_enter func57,ntmps57;go_wp2_with fail;refine (blankModule_nil _ _).mono ?_;rintro e w2 ⟨rfl,rfl⟩;go_wp2_with fail;refine (fillModule_nil _ _ _ _ _ _).mono ?_;rintro e w3 ⟨rfl,rfl⟩;go_wp2;go_ret;exact ⟨_,[],rfl,orows_nil none 0 (Nat.zero_le _),by simp,by simp,OffB.refl _ _ _,HC.out.mp⟩
 | some a =>
  generalize hn:cl.length=n at *;have HN:=hid hn;clear hn;go_enter func57,ntmps57;go_wp2_with fail;refine (blankModule_some _ a n cap hnb).mono ?_;rintro e w2 ⟨rfl,M,hM,hw2⟩;have K2:Hid (Bz w w2):=(by show Below _ _ _;rw [hw2];exact (sqN _ _))
  have HM0:Hid (MadeB mb w w2 w.heap.size n 61 3 (λw=>OMd w d) (cl.map (mapM (fT ft) d)) 0 M.toList []):=by
   show MadeB _ _ _ _ _ _ _ _ _ _ _ _;rw [hw2];exact MadeB.start hM (by unfold maxLen;omega) HC.out.mlt
  have C2:=hid (HC.out.next HCK.out K2.out (sqR _));have R2:=hid (HR.out.mono (sqO K2.out) sqj (λ_ _ _ h=>h.mono (sqO K2.out) sqj));have CFL:=fillModule_of hE w w2 w.heap.size n N mb PL es z (.slice (some a) n cap) cl M.toList HCK.out HM0.out C2.out R2.out HN.out HZ.out HWT.out HC.out.le;unfold RV at CFL;have HCF:=hid CFL;clear CFL hw2 hM;go_wp2_with fail;refine HCF.out.mono ?_;rintro e w3 ⟨rfl,⟨ys,fps,hM3⟩,hm3,hof3⟩;obtain ⟨fp,r1,r2,r3⟩:=hM3.done (show (cl.map (mapM (fT ft) d)).length=n by rw [List.length_map];exact HN.out) (by unfold maxLen;omega);have R1:=hid r1;have RR:Hid (fp.Nodup/\∀ a ∈ fp,w.heap.size<=a/\a<w3.heap.size):=⟨r2,r3⟩;have O3:=hid hM3.off;have M3:=hid hm3;clear hM3 hm3 hof3 r1 r2 r3;go_wp2;go_ret;exact ⟨_,fp,rfl,R1.out,RR.out.1,RR.out.2,O3.out,M3.out⟩
theorem mods {F:FuncId} {cp:List Value} {ft:Int->ByteArray->ByteArray->Nat->ByteArray} {Cap:World->Prop} (hCh:ChgR F cp ft Cap) (hok:∀ k t m n,okS t->okS (ft k t m n)) (d:Nat):ModsR F cp ft Cap d:=eachModule_of (mod_of (eachFun_of (fun_of (clauses hCh hok d))))
end RemG
theorem mkOpen (w:World):Sem.run prog (Instr.makeMap 69 none) w=.ok (.map (some w.heap.size)) (w.alloc (.map #[] 0)):=by kernel_rfl
theorem remake_any (w:World) (F:Fn) (bs cs:Array Value):Calls prog 27 #[.func F bs cs] w λe w'=>e=.returned (.agg #[.func F bs cs,.map (some (w.heap.size+1))])/\MapSt w' (w.heap.size+1) #[]/\Bz w w'/\w'.heap.size=w.heap.size+2:=by
 obtain ⟨W1,hW1⟩:∃ W1,W1=w.alloc (.cells #[.nilFunc,.map none] 71):=⟨_,rfl⟩;have S1:W1.heap.size=w.heap.size+1:=(by rw [hW1,alloc_hs]);have r1:Blk W1 w.heap.size #[.nilFunc,.map none] 71:=(by rw [hW1];exact Blk.new);have K1:Bz w W1:=(by rw [hW1];exact (sqN _ _));have K2:Bz w (W1.alloc (.map #[] 0)):=K1.alloc K1.size _;have r2:Blk (W1.alloc (.map #[] 0)) w.heap.size #[.nilFunc,.map none] 71:=r1.alloc;have mk:=mkOpen W1;rw [S1] at mk;obtain ⟨y0,y1⟩:=sqB2 r2;obtain ⟨f0,f1⟩:=sqF2 r2;obtain ⟨W3,hW3⟩:∃ W3,W3=((W1.alloc (.map #[] 0)).setCell ⟨w.heap.size,0,none⟩ (.func F bs cs)).setCell ⟨w.heap.size,1,none⟩ (.map (some (w.heap.size+1))):=⟨_,rfl⟩;have r3:Blk W3 w.heap.size #[.func F bs cs,.map (some (w.heap.size+1))] 71:=(by rw [hW3];exact (r2.same rfl).same rfl);have K3:Hid (Bz w W3):=(by show Below _ _ _;rw [hW3];exact (K2.setCell (sqR _) _).setCell (sqR _) _)
 have M3:Hid (MapSt W3 (w.heap.size+1) #[]):=by
  refine ⟨0,?_⟩;rw [hW3,Below.heap_setCell _ _ _ _ (by show w.heap.size+1≠w.heap.size;omega),Below.heap_setCell _ _ _ _ (by show w.heap.size+1≠w.heap.size;omega),<-S1];exact heap_alloc_new W1 _
 have S3:Hid (W3.heap.size=w.heap.size+2):=(by show _=_;rw [hW3];simp [World.setCell,S1]);obtain ⟨j0,j1⟩:=sqB2 r3;have HW1:=hid hW1;have HW3:=hid hW3;have J:Hid (W3.cell? ⟨w.heap.size,0,none⟩=some (.func F bs cs)/\W3.cell? ⟨w.heap.size,1,none⟩=some (.map (some (w.heap.size+1)))):=⟨j0,j1⟩
 have hst:Sem.run prog (store ⟨w.heap.size,0,none⟩ (.func F bs cs)) (W1.alloc (.map #[] 0))=.ok () ((W1.alloc (.map #[] 0)).setCell ⟨w.heap.size,0,none⟩ (.func F bs cs)):=by
  rw [run_store prog _ _ _ _ rfl];simp [y0,f0]
 clear hW1 hW3 r3 r1 K1 K2 r2 j0 j1 S1;go_enter func27,ntmps27;go_wp2_with (rw [<-HW1.out]);have j0:=J.out.1;have j1:=J.out.2;rw [HW3.out] at j0 j1;have k3:=K3.out;have m3:=M3.out;have s3:=S3.out;rw [HW3.out] at k3 m3 s3;exact bodyPost_ret (v:=.agg #[.func F bs cs,.map (some (w.heap.size+1))]) (by simp [results,results27,go_sem,j0,j1]) rfl ⟨rfl,m3,k3,s3⟩
theorem chgU:RemG.ChgR 58 [] ftU (λ_=>True):=⟨enters func58 (by kernel_rfl) rfl,λw k n t m p1 p2 n1 q1 n2 q2 _ _=>unchangedExp_any w k n t m p1 p2 n1 q1 n2 q2⟩
theorem capU (N mb:Nat):CapK (λ_=>True) N mb:=λ_ _ _ _=>trivial
theorem sizes_some (ms:List Md):∃ z,∀ x ∈ ms,∀ f ∈ x.funs,SizeOf.sizeOf f.clauses<=z:=by
 induction ms with
 | nil=>exact ⟨0,λx hx=>by simp at hx⟩
 | cons m ms ih =>
  obtain ⟨z,hz⟩:=ih
  have key:∀ fs:List Fn',∃ z',∀ f ∈ fs,SizeOf.sizeOf f.clauses<=z':=by
   intro fs
   induction fs with
   | nil=>exact ⟨0,λf hf=>by simp at hf⟩
   | cons f fs ih =>
    obtain ⟨z',hz'⟩:=ih;refine ⟨z'+SizeOf.sizeOf f.clauses,λg hg=>?_⟩
    rcases List.mem_cons.1 hg with rfl | hg
    . omega
    . have:=hz' g hg;omega
  obtain ⟨z',hz'⟩:=key m.funs;refine ⟨z+z',λx hx f hf=>?_⟩
  rcases List.mem_cons.1 hx with rfl | hx
  . have:=hz' f hf;omega
  . have:=hz x hx f hf;omega
theorem copyProgram_any (d:Nat) (w:World) (PL:Nat->Prop) (v:Value) (ms:List Md) (h:Rows w PL 3 (HMd w PL d) v ms) (hP:∀ g,PL g->g<w.heap.size/\PlainAt w g) (hw:wtS (wtMd d) ms<=16777216) :
 Calls prog 25 #[v] w λe w'=>∃ u fp,e=.returned u/\ORows w' 61 3 (OMd w' d) u ms fp/\fp.Nodup/\(∀ a ∈ fp,w.heap.size<=a/\a<w'.heap.size)/\Bz w w':=by
 obtain ⟨z,hz⟩:=sizes_some ms;have HZ:=hid hz;have HR:=hid h;have HP:=hid hP;have HW:=hid hw;have hM:=RemG.mods chgU (λk t m n h=>h) d;unfold RemG.ModsR RemG.RV at hM;obtain ⟨p,cap,rfl,-⟩:=h;clear hz hP hw;go_enter func25,ntmps25;go_wp2_with fail;refine (remake_any w _ _ _).mono ?_;rintro e w1 ⟨rfl,hm1,hb1,hs1⟩
 have C1:Hid (Ctx (λ_=>True) w1 w1.heap.size (w.heap.size+1) PL #[] z):=by
  refine ⟨λg hg=>?_,hm1,KeysIn.none _ _ _,by omega,Nat.le_refl _,trivial⟩;have:=HP.out g hg;obtain ⟨h1,cs,t,h2⟩:=this;exact ⟨by omega,by omega,cs,t,(hb1.block g h1).trans h2⟩
 have R1:=hid (HR.out.mono ⟨hb1.size,λg hg hl=>hb1.block g hl⟩ sqj (λ_ _ _ h=>h.mono ⟨hb1.size,λg hg hl=>hb1.block g hl⟩ sqj));have B1:=hid hb1;clear hm1 hb1;go_wp2_with fail;refine (hM w1 w1.heap.size (w.heap.size+1) PL #[] z _ ms (capU _ _) C1.out R1.out HZ.out HW.out).mono ?_;rintro e w2 ⟨u,fp,rfl,ho,hnd,hrg,hof,-⟩
 have HO:Hid (ORows w2 61 3 (OMd w2 d) u ms fp):=by
  have h:ms.map (mapM (fT ftU) d)=ms:=(by rw [fT_U];exact mapMs_id d ms);rw [h] at ho;exact ho
 have HN:Hid (fp.Nodup/\∀ a ∈ fp,w.heap.size<=a/\a<w2.heap.size):=⟨hnd,λa ha=>⟨by have:=(hrg a ha).1;have:=B1.out.size;omega,(hrg a ha).2⟩⟩;have B2:=hid (B1.out.trans (hof.below B1.out.size (by omega)));clear ho hnd hrg hof;go_wp2;go_ret;exact ⟨u,fp,rfl,HO.out,HN.out.1,HN.out.2,B2.out⟩
def CapV (N mb bf bt:Nat) (sf st:ByteArray) (w:World):Prop:=Blk w bf #[.string sf] 9∧Blk w bt #[.string st] 9∧bf<N∧bt<N∧bf≠mb∧bt≠mb
theorem capV (N mb bf bt:Nat) (sf st:ByteArray):CapK (CapV N mb bf bt sf st) N mb:=fun w w' ho h =>
 ⟨ho.blk h.1 h.2.2.1 h.2.2.2.2.1,ho.blk h.2.1 h.2.2.2.1 h.2.2.2.2.2,h.2.2⟩
theorem chgV (N mb bf bt:Nat) (sf st:ByteArray):RemG.ChgR 28 [.pointer (some ⟨bf,0,none⟩),.pointer (some ⟨bt,0,none⟩)] (ftV sf st) (CapV N mb bf bt sf st):=by
 refine ⟨enters func28 (by kernel_rfl) rfl,?_⟩;intro w k n t m p1 p2 n1 q1 n2 q2 hc _;show Calls prog 28 #[.agg #[.int .i64 k,.int .i64 n,.string t,.string m,.slice p1 n1 q1,.slice p2 n2 q2],.pointer (some ⟨bf,0,none⟩),.pointer (some ⟨bt,0,none⟩)] w _;obtain ⟨h1,h2,-⟩:=hc;obtain ⟨W2,hW2⟩:∃ W2,W2=(w.alloc (.cells #[.int .i64 k,.int .i64 n,.string t,.string m,.slice p1 n1 q1,.slice p2 n2 q2] 74)).alloc (.cells #[.int .i64 0,.int .i64 0,.string ⟨#[]⟩,.string ⟨#[]⟩,.slice none 0 0,.slice none 0 0] 74):=⟨_,rfl⟩;have HW2:=hid hW2;have B2:Hid (Bz w W2):=(by show Below _ _ _;rw [hW2];exact ((sqN _ _)).alloc (by simp) _);have e2:Hid (Blk W2 w.heap.size #[.int .i64 k,.int .i64 n,.string t,.string m,.slice p1 n1 q1,.slice p2 n2 q2] 74):=(by show Blk _ _ _ _;rw [hW2];exact Blk.new.alloc)
 have r2:Hid (Blk W2 (w.heap.size+1) #[.int .i64 0,.int .i64 0,.string ⟨#[]⟩,.string ⟨#[]⟩,.slice none 0 0,.slice none 0 0] 74):=by
  have:=Blk.new (w:=w.alloc (.cells #[.int .i64 k,.int .i64 n,.string t,.string m,.slice p1 n1 q1,.slice p2 n2 q2] 74)) (cs:=#[.int .i64 0,.int .i64 0,.string ⟨#[]⟩,.string ⟨#[]⟩,.slice none 0 0,.slice none 0 0]) (t:=74);rw [alloc_hs] at this;show Blk _ _ _ _;rw [hW2];exact this
 have hlf:=h1.lt;have hlt:=h2.lt;have u1:=h1.next B2.out;have u2:=h2.next B2.out;have c1:=u1.cell 0 _ rfl;have c2:=u2.cell 0 _ rfl;obtain ⟨y0,y1,y2,y3,y4,y5⟩:=sqB6 e2.out;obtain ⟨x0,x1,x2,x3,x4,x5⟩:=sqB6 r2.out;obtain ⟨f0,f1,f2,f3,f4,f5⟩:=sqF6 r2.out;have g2:=e2.out.frozen 2
 have FIN:Hid (∀ (W3:World) (x:ByteArray),Blk W3 w.heap.size #[.int .i64 k,.int .i64 n,.string x,.string m,.slice p1 n1 q1,.slice p2 n2 q2] 74→Blk W3 (w.heap.size+1) #[.int .i64 0,.int .i64 0,.string ⟨#[]⟩,.string ⟨#[]⟩,.slice none 0 0,.slice none 0 0] 74→Bz w W3 →
  Blk ((((((W3.setCell ⟨w.heap.size+1,0,none⟩ (.int .i64 k)).setCell ⟨w.heap.size+1,1,none⟩ (.int .i64 n)).setCell ⟨w.heap.size+1,2,none⟩ (.string x)).setCell ⟨w.heap.size+1,3,none⟩ (.string m)).setCell ⟨w.heap.size+1,4,none⟩ (.slice p1 n1 q1)).setCell ⟨w.heap.size+1,5,none⟩ (.slice p2 n2 q2)) (w.heap.size+1) #[.int .i64 k,.int .i64 n,.string x,.string m,.slice p1 n1 q1,.slice p2 n2 q2] 74 ∧
  Bz w ((((((W3.setCell ⟨w.heap.size+1,0,none⟩ (.int .i64 k)).setCell ⟨w.heap.size+1,1,none⟩ (.int .i64 n)).setCell ⟨w.heap.size+1,2,none⟩ (.string x)).setCell ⟨w.heap.size+1,3,none⟩ (.string m)).setCell ⟨w.heap.size+1,4,none⟩ (.slice p1 n1 q1)).setCell ⟨w.heap.size+1,5,none⟩ (.slice p2 n2 q2))):=fun W3 x hE hR hB =>
  ⟨(((((hR.same rfl).same rfl).same rfl).same rfl).same rfl).same rfl,(((((hB.setCell (Nat.le_succ _) _).setCell (Nat.le_succ _) _).setCell (Nat.le_succ _) _).setCell (Nat.le_succ _) _).setCell (Nat.le_succ _) _).setCell (Nat.le_succ _) _⟩
 clear hW2 u1 u2 h1 h2;by_cases hk:k=2
 · subst hk
   cases hq:(t.toList == sf.toList) with
   | true =>
    have HV:Hid (ftV sf st 2 t m n1=st):=(by show _=_;simp [ftV,hq]);obtain ⟨W3,hW3⟩:∃ W3,W3=W2.setCell ⟨w.heap.size,2,none⟩ (.string st):=⟨_,rfl⟩;have HW3:=hid hW3;have e3:Hid (Blk W3 w.heap.size #[.int .i64 2,.int .i64 n,.string st,.string m,.slice p1 n1 q1,.slice p2 n2 q2] 74):=(by show Blk _ _ _ _;rw [hW3];exact e2.out.same rfl);have r3:Hid (Blk W3 (w.heap.size+1) #[.int .i64 0,.int .i64 0,.string ⟨#[]⟩,.string ⟨#[]⟩,.slice none 0 0,.slice none 0 0] 74):=(by show Blk _ _ _ _;rw [hW3];exact r2.out.other (by show w.heap.size+1≠w.heap.size;omega));have B3:Hid (Bz w W3):=(by show Below _ _ _;rw [hW3];exact B2.out.setCell (sqR _) _);clear hW3;obtain ⟨w0,w1,w2,w3,w4,w5⟩:=sqB6 e3.out;obtain ⟨v0,v1,v2,v3,v4,v5⟩:=sqB6 r3.out;obtain ⟨h0,h1,h2,h3,h4,h5⟩:=sqF6 r3.out;go_enter func28,ntmps28;go_wp2_with (first | rw [← HW2.out] | rw [← HW3.out]);obtain ⟨bz,hz⟩:=FIN.out W3 st e3.out r3.out B3.out;obtain ⟨j0,j1,j2,j3,j4,j5⟩:=sqB6 bz;exact bodyPost_ret (v:=.agg #[.int .i64 2,.int .i64 n,.string st,.string m,.slice p1 n1 q1,.slice p2 n2 q2]) (by simp [results,results28,go_sem,j0,j1,j2,j3,j4,j5]) rfl ⟨by rw [HV.out],hz⟩
   | false =>
    have HV:Hid (ftV sf st 2 t m n1=t):=(by show _=_;simp [ftV,hq]);go_enter func28,ntmps28;go_wp2_with (rw [← HW2.out]);obtain ⟨bz,hz⟩:=FIN.out W2 t e2.out r2.out B2.out;obtain ⟨j0,j1,j2,j3,j4,j5⟩:=sqB6 bz;exact bodyPost_ret (v:=.agg #[.int .i64 2,.int .i64 n,.string t,.string m,.slice p1 n1 q1,.slice p2 n2 q2]) (by simp [results,results28,go_sem,j0,j1,j2,j3,j4,j5]) rfl ⟨by rw [HV.out],hz⟩
 · have HV:Hid (ftV sf st k t m n1=t):=by show _=_;simp [ftV,hk]
   go_enter func28,ntmps28;go_wp2_with (rw [← HW2.out]);obtain ⟨bz,hz⟩:=FIN.out W2 t e2.out r2.out B2.out;obtain ⟨j0,j1,j2,j3,j4,j5⟩:=sqB6 bz;exact bodyPost_ret (v:=.agg #[.int .i64 k,.int .i64 n,.string t,.string m,.slice p1 n1 q1,.slice p2 n2 q2]) (by simp [results,results28,go_sem,j0,j1,j2,j3,j4,j5]) rfl ⟨by rw [HV.out],hz⟩
end
theorem orows_plain {α:Type} {w:World} {e:TypeId} {c:Nat} {R:List Value->α->List Nat->Prop} {v:Value} {xs:List α} {fp:List Nat} (h:ORows w e c R v xs fp) (hR:∀ cs x f,R cs x f->∀ a ∈ f,PlainAt w a):∀ a ∈ fp,PlainAt w a:=by
 rcases h with ⟨_,rfl,_⟩ | ⟨hne,cells,g,cap',fps,ho,hv',hl,rfl,hat⟩
 . intro a ha;simp at ha
 . intro a ha
   rcases List.mem_cons.1 ha with rfl | ha
   . rcases ho.2 with hn | ⟨g',cap2,cur,hv2,hb,hg,hr⟩
     . rw [hn.1] at hv';cases hv'
     . have:g'=a:=by rw [hv'] at hv2;simp at hv2;exact hv2.1.symm
       subst this;exact ⟨cur,e,hg⟩
   . obtain ⟨f,hf,ha⟩:=List.mem_flatten.1 ha
     obtain ⟨i,hi,rfl⟩:=List.mem_iff_getElem.1 hf;obtain ⟨cs,_,_,hr⟩:=hat i (xs[i]'(by rw [<-hl];exact hi)) _ (List.getElem?_eq_getElem _) (List.getElem?_eq_getElem hi);exact hR _ _ _ hr a ha
theorem OCl.plain' {w:World} {O:List Value->Ex->List Nat->Prop} {cs:List Value} {c:Cl} {fp:List Nat} (h:OCl w O cs c fp) (hO:∀ cs x f,O cs x f->∀ a ∈ f,PlainAt w a):∀ a ∈ fp,PlainAt w a:=by
 obtain ⟨pv,bv,f1,f2,rfl,rfl,h1,h2⟩:=h;intro a ha
 rcases List.mem_append.1 ha with ha | ha
 . exact orows_plain h1 hO a ha
 . exact orows_plain h2 hO a ha
theorem OEx.plain {w:World}:∀ {d:Nat} {cs:List Value} {e:Ex} {fp:List Nat},OEx w d cs e fp->∀ a ∈ fp,PlainAt w a
 | 0,_,_,_,h=>h.elim
 | d+1,cs,e,fp,h=>by
  obtain ⟨kv,cv,f1,f2,rfl,rfl,h1,h2,h3,h4,hr,hc⟩:=h;intro a ha
  rcases List.mem_append.1 ha with ha | ha
  . exact orows_plain hr (λcs x f h=>h.plain) a ha
  . exact orows_plain hc (λcs x f h=>h.plain' (λcs x f h=>h.plain)) a ha
theorem OFn.plain {w:World} {d:Nat} {cs:List Value} {f:Fn'} {fp:List Nat} (h:OFn w d cs f fp):∀ a ∈ fp,PlainAt w a:=by
 obtain ⟨cv,rfl,h1,h2,h3⟩:=h;exact orows_plain h3 (λcs x f h=>h.plain' (λcs x f h=>h.plain))
theorem OMd.plain {w:World} {d:Nat} {cs:List Value} {m:Md} {fp:List Nat} (h:OMd w d cs m fp):∀ a ∈ fp,PlainAt w a:=by
 obtain ⟨ev,fv,f1,f2,rfl,rfl,h1,h2,h3⟩:=h;intro a ha
 rcases List.mem_append.1 ha with ha | ha
 . exact orows_plain h2 (λcs x f h=>by rw [h.2];simp) a ha
 . exact orows_plain h3 (λcs x f h=>h.plain) a ha
theorem mods_plain {w:World} {d:Nat} {v:Value} {ms:List Md} {fp:List Nat} (h:ORows w 61 3 (OMd w d) v ms fp):∀ a ∈ fp,PlainAt w a:=orows_plain h (λcs x f h=>h.plain)
theorem mods_lt {w:World} {d:Nat} {v:Value} {ms:List Md} {fp:List Nat} (h:ORows w 61 3 (OMd w d) v ms fp):∀ a ∈ fp,a<w.heap.size:=h.lt (λcs x f h=>h.lt)
theorem mods_tree {w:World} {d:Nat} {v:Value} {ms:List Md} {fp:List Nat} {S:Nat->Prop} (h:ORows w 61 3 (OMd w d) v ms fp) (hS:∀ a ∈ fp,S a):Rows w S 3 (HMd w S d) v ms:=h.rows hS (λcs x f _ hs h=>h.tree (λa ha=>hS a (hs a ha)))
theorem mods_keep {w w':World} {d:Nat} {v:Value} {ms:List Md} {fp:List Nat} (h:ORows w 61 3 (OMd w d) v ms fp) (hk:KeepOn fp w w'):ORows w' 61 3 (OMd w' d) v ms fp:=h.keep hk (λcs x f _ hs h=>h.keep (hk.sub hs))
end Go.Proofs.YtbdhpganbbandaaGreatDoor
