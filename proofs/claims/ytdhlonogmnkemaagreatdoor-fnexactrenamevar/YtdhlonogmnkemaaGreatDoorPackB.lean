/-
  Texts of the proof, packed: RemU, RemUM, CopyProg, RemV, ChgV, Chars, Names, FirstN, VarOk, AtomOk, ModOkMath, ModOkSpecA, ModOkSpecB, ModOkSpecC, ModOkSpecD, OrdBase, ModOkImplA, ModOkRefs, ModOkImplB, ModOkFuns, ModOkImplC.
-/
import Derived.Test.YtdhlonogmnkemaaGreatDoorPackA
import Derived.Test.YtdhlonogmnkemaaGreatDoorRows
import Derived.WalkKit
import Derived.ProofKit
import Derived.OpenShut
import Derived.WalkSpells
import Derived.Lib.Bytealg
import Derived.Laws.Cover1
set_option maxHeartbeats 16000000
namespace Go.Proofs.YtdhlonogmnkemaaGreatDoor
open Go.ChangeShapes Go.WideShapes Go.ChangeAt Go.RowKit Go.Proofs.Tryz
set_option linter.unusedVariables false
set_option maxRecDepth 100000
namespace RemU
def RV (mb:Nat):Value:=.agg #[.func (.func 72) #[] #[],.map (some mb)]
def ExpR (Cap:World→Prop) (d:Nat):Prop:=∀ (w:World) (N mb:Nat) (PL:Nat→Prop) (es:Array MapEntry) (z:Nat) (cs:List Value) (x:Ex),CapK Cap N mb→Ctx Cap w N mb PL es z→HEx w PL d cs x→SizeOf.sizeOf x≤z→wtEx d x≤16777216 →
 Calls prog 121 #[RV mb,.agg cs.toArray] w (ResM w mb es fun w' u fp=>∃ cs',u=.agg cs'.toArray∧OEx w' d cs' (mapX (fT ftU) d x) fp)
def ExpsR (Cap:World→Prop) (d:Nat):Prop:=∀ (w:World) (N mb:Nat) (PL:Nat→Prop) (es:Array MapEntry) (z:Nat) (v:Value) (xs:List Ex),CapK Cap N mb→Ctx Cap w N mb PL es z→Rows w PL 6 (HEx w PL d) v xs→SizeOf.sizeOf xs≤z→wtS (wtEx d) xs≤16777216 →
 Calls prog 76 #[RV mb,v] w (ResM w mb es fun w' u fp=>ORows w' 76 6 (OEx w' d) u (xs.map (mapX (fT ftU) d)) fp)
def ClR (Cap:World→Prop) (d:Nat):Prop:=∀ (w:World) (N mb:Nat) (PL:Nat→Prop) (es:Array MapEntry) (z:Nat) (cs:List Value) (c:Cl),CapK Cap N mb→Ctx Cap w N mb PL es z→HCl w PL (HEx w PL d) cs c→SizeOf.sizeOf c≤z→wtCl (wtEx d) c≤16777216 →
 Calls prog 32 #[RV mb,.agg cs.toArray] w (ResM w mb es fun w' u fp=>∃ cs',u=.agg cs'.toArray∧OCl w' (OEx w' d) cs' (mapC (fT ftU) d c) fp)
def ClsR (Cap:World→Prop) (d:Nat):Prop:=∀ (w:World) (N mb:Nat) (PL:Nat→Prop) (es:Array MapEntry) (z:Nat) (v:Value) (cl:List Cl),CapK Cap N mb→Ctx Cap w N mb PL es z→Rows w PL 2 (HCl w PL (HEx w PL d)) v cl→SizeOf.sizeOf cl≤z→wtS (wtCl (wtEx d)) cl≤16777216 →
 Calls prog 161 #[v,.func (.func 32) #[RV mb] #[]] w (ResM w mb es fun w' u fp=>ORows w' 46 2 (OCl w' (OEx w' d)) u (cl.map (mapC (fT ftU) d)) fp)
theorem fillExp_of {Cap:World→Prop} {d:Nat} (hE:ExpR Cap d) (w0 w:World) (G n N mb:Nat) (PL:Nat→Prop) (es:Array MapEntry) (z:Nat) (v:Value) (xs:List Ex) (M:List Value) (hC:CapK Cap N mb)
 (hM:MadeB mb w0 w G n 76 6 (fun w=>OEx w d) (xs.map (mapX (fT ftU) d)) 0 M []) (hc:Ctx Cap w N mb PL es z) (hr:Rows w PL 6 (HEx w PL d) v xs) (hn:xs.length=n) (hz:∀ x ∈ xs,SizeOf.sizeOf x≤z) (hw:wtS (wtEx d) xs≤16777216) (hNG:N≤G) :
 Calls prog 120 #[.slice (some ⟨G,0,none⟩) n n,v,.func (.func 121) #[RV mb] #[]] w fun e w'=>e=.returned (.tuple #[])∧(∃ ys fps,MadeB mb w0 w' G n 76 6 (fun w=>OEx w d) (xs.map (mapX (fT ftU) d)) n ys fps)∧MapSt w' mb es∧Off [mb,G] w w':=by
 obtain ⟨p,cap,rfl,hcl,hcm,hx⟩:=hr;rw [hn] at hcl ⊢;have HN:=hid hn;have HX:=hid hx;have HM0:=hid hM;have HC:=hid hc;have HCK:=hid hC;have HZ:=hid hz;have HWT:=hid hw;have hnb:n≤16777216:=(by unfold wtS at hw;omega);have HNG:=hid hNG;clear hx hn hM hc hC hz hw hNG;unfold RV;go_enter func120,ntmps120;go_wp2_with fail
 go_loopw [10] (fun iv wr=>∃ (k:Nat) (ys:List Value) (fps:List (List Nat)),k≤n∧iv=.int .i64 k∧Hid (MadeB mb w0 wr G n 76 6 (fun w=>OEx w d) (xs.map (mapX (fT ftU) d)) k ys fps)∧Hid (MapSt wr mb es)∧Hid (Off [mb,G] w wr)) (fun iv _=>n - (intOf iv).toNat)
 case atStart=>exact ⟨0,M,[],Nat.zero_le _,rfl,HM0.out,HC.out.mp,Off.refl _ _⟩
 case round =>
  obtain ⟨k,ys,fps,hk,rfl,HM,HMS,HOG⟩:=hrel;have HOF:=hid (offB_of_off HOG.out HNG.out HC.out.le);by_cases hlt:k<n
  · obtain ⟨x,hxk⟩:=sqA (l:=xs) (k:=k) HN.out hlt
    obtain ⟨g,off,rfl,hg,hgl,hat⟩:=HX.out (sqE hxk);obtain ⟨cs,hcl6,hcs,hex⟩:=hat k x hxk;have hgP:=HC.out.pl g hg;have HXR:=hid (hex.mono (HC.out.same HOF.out (sqR _)) (fun _ h=>h));obtain ⟨tk,tn,tt,te,r1,m1,s1,r2,m2,s2,rfl⟩:=HEx.shapeR hex;obtain ⟨a0,a1,a2,a3,a4,a5⟩:=sqC6 hcs (by omega);rw [← HOF.out.cellAt (p:=⟨g,_,none⟩) hgP.1 hgP.2.1] at a0 a1 a2 a3 a4 a5;clear hcs hat;simp at a0 a1 a2 a3 a4 a5;have hki:(k:Int)<(n:Int):=(by omega);have hk0:=sqI k
    have HWX:Hid (wtEx d x≤16777216):=by
     show _≤_;have h1:=HWT.out;have h2:=sum_take_succ (wtEx d) xs k x hxk;have h3:=sum_take_le (wtEx d) xs (k+1);unfold wtS at h1;omega
    have HZX:=hid (HZ.out x (List.mem_of_getElem? hxk));have HYK:Hid ((xs.map (mapX (fT ftU) d))[k]?=some (mapX (fT ftU) d x)):=(by show _=_;rw [List.getElem?_map,hxk];rfl);obtain ⟨W5,hW5⟩:∃ W5,W5=wr.alloc (.cells #[.int .i64 tk,.int .i64 tn,.string tt,.string te,.slice r1 m1 s1,.slice r2 m2 s2] 76):=⟨_,rfl⟩;have K5:Hid (Bz wr W5):=(by show Below _ _ _;rw [hW5];exact (sqN _ _));have HW5:=hid hW5;have CR:=hid (HC.out.off HCK.out HOF.out (sqR _) HMS.out (sqR _));have C5:=hid (CR.out.next HCK.out K5.out (sqR _));have X5:=hid (HXR.out.mono (CR.out.same (OffB.of_below (b:=mb) K5.out) CR.out.le) (fun _ h=>h));clear hW5 hex hcl6;go_wp2_with fail;rw [← HW5.out];refine (hE W5 N mb PL es z _ x HCK.out C5.out X5.out HZX.out HWX.out).mono ?_;rintro e w1 ⟨u,fp,rfl,⟨cs',rfl,hx1⟩,hnd,hrg,hb1,hm1⟩;obtain ⟨sk,sn,sx,se,p1,n1,q1,p2,n2,q2,hsh⟩:=hx1.shape;subst hsh;have K6:Hid (OffB mb wr.heap.size wr w1):=(OffB.of_below K5.out).trans (hb1.mono K5.out.size);have HX1:=hid hx1;have HND:Hid fp.Nodup:=hnd;have HRG:Hid (∀ a ∈ fp,wr.heap.size≤a∧a<w1.heap.size):=fun a ha=>⟨Nat.le_trans K5.out.size (hrg a ha).1,(hrg a ha).2⟩;have HM1:=hid hm1;have hGl:=HM.out.sz;have hGm:=HM.out.lt;have o1:w1.ownsRow G 76 6 (.slice (some ⟨G,0,none⟩) n n) n ys:=ownsG_blk HM.out.own (K6.out.block G (by omega) (by omega));have HO1:=hid o1;have f0:=o1.frozenAt (k * 6);obtain ⟨y0,g0⟩:=own_someR o1 (k * 6) (by omega);have f1:=o1.frozenAt (k * 6+1);obtain ⟨y1,g1⟩:=own_someR o1 (k * 6+1) (by omega);have f2:=o1.frozenAt (k * 6+2);obtain ⟨y2,g2⟩:=own_someR o1 (k * 6+2) (by omega);have f3:=o1.frozenAt (k * 6+3);obtain ⟨y3,g3⟩:=own_someR o1 (k * 6+3) (by omega);have f4:=o1.frozenAt (k * 6+4);obtain ⟨y4,g4⟩:=own_someR o1 (k * 6+4) (by omega);have f5:=o1.frozenAt (k * 6+5);obtain ⟨y5,g5⟩:=own_someR o1 (k * 6+5) (by omega);clear o1 hb1 hx1 hnd hrg hm1 hGl hGm a0 a1 a2 a3 a4 a5;go_wp2_with fail;have sd:=stored6 HO1.out (k * 6) (.int .i64 sk) (.int .i64 sn) (.string sx) (.string se) (.slice p1 n1 q1) (.slice p2 n2 q2);have hlen:ys.length=n * 6:=HO1.out.1;have HMN:=MadeB.step (O:=fun w=>OEx w d) (c:=6) (fun w w' cs x f h hk=>OEx.keep h hk) HM.out HYK.out K6.out HX1.out HND.out HRG.out rfl sd.1 sd.2 (fun m hm=>set6_other hm) (fun j hj=>set6_self (by omega) j hj);refine ⟨⟨k+1,_,_,by omega,by go_num,HMN,HM1.out.keep (sd.2.block mb (by have:=CR.out.mlt;have:=K6.out.size;omega) (by have:=HM.out.lt;simp;omega)),HOG.out.trans ((off_of_offB K6.out).trans (Off.of_grown sd.2 (by simp)))⟩,by simp [intOf];omega⟩
  · obtain rfl:k=n:=by omega
    go_wp2_with fail;go_end0;exact ⟨rfl,⟨_,_,HM.out⟩,HMS.out,HOG.out⟩
theorem fillClause_of {Cap:World→Prop} {d:Nat} (hE:ClR Cap d) (w0 w:World) (G n N mb:Nat) (PL:Nat→Prop) (es:Array MapEntry) (z:Nat) (v:Value) (xs:List Cl) (M:List Value) (hC:CapK Cap N mb)
 (hM:MadeB mb w0 w G n 46 2 (fun w=>OCl w (OEx w d)) (xs.map (mapC (fT ftU) d)) 0 M []) (hc:Ctx Cap w N mb PL es z) (hr:Rows w PL 2 (HCl w PL (HEx w PL d)) v xs) (hn:xs.length=n) (hz:∀ x ∈ xs,SizeOf.sizeOf x≤z) (hw:wtS (wtCl (wtEx d)) xs≤16777216) (hNG:N≤G) :
 Calls prog 196 #[.slice (some ⟨G,0,none⟩) n n,v,.func (.func 32) #[RV mb] #[]] w fun e w'=>e=.returned (.tuple #[])∧(∃ ys fps,MadeB mb w0 w' G n 46 2 (fun w=>OCl w (OEx w d)) (xs.map (mapC (fT ftU) d)) n ys fps)∧MapSt w' mb es∧Off [mb,G] w w':=by
 obtain ⟨p,cap,rfl,hcl,hcm,hx⟩:=hr;rw [hn] at hcl ⊢;have HN:=hid hn;have HX:=hid hx;have HM0:=hid hM;have HC:=hid hc;have HCK:=hid hC;have HZ:=hid hz;have HWT:=hid hw;have hnb:n≤16777216:=(by unfold wtS at hw;omega);have HNG:=hid hNG;clear hx hn hM hc hC hz hw hNG;unfold RV;go_enter func196,ntmps196;go_wp2_with fail
 go_loopw [10] (fun iv wr=>∃ (k:Nat) (ys:List Value) (fps:List (List Nat)),k≤n∧iv=.int .i64 k∧Hid (MadeB mb w0 wr G n 46 2 (fun w=>OCl w (OEx w d)) (xs.map (mapC (fT ftU) d)) k ys fps)∧Hid (MapSt wr mb es)∧Hid (Off [mb,G] w wr)) (fun iv _=>n - (intOf iv).toNat)
 case atStart=>exact ⟨0,M,[],Nat.zero_le _,rfl,HM0.out,HC.out.mp,Off.refl _ _⟩
 case round =>
  obtain ⟨k,ys,fps,hk,rfl,HM,HMS,HOG⟩:=hrel;have HOF:=hid (offB_of_off HOG.out HNG.out HC.out.le);by_cases hlt:k<n
  · obtain ⟨x,hxk⟩:=sqA (l:=xs) (k:=k) HN.out hlt
    obtain ⟨g,off,rfl,hg,hgl,hat⟩:=HX.out (sqE hxk);obtain ⟨cs,hcl6,hcs,hex⟩:=hat k x hxk;have hgP:=HC.out.pl g hg;have HXR:=hid (hex.mono (HC.out.same HOF.out (sqR _)) (fun _ h=>h) (fun _ _ h=>h.mono (HC.out.same HOF.out (sqR _)) (fun _ h=>h)));obtain ⟨r1,m1,s1,r2,m2,s2,rfl⟩:=HCl.shapeR hex;obtain ⟨a0,a1⟩:=sqC2 hcs (by omega);rw [← HOF.out.cellAt (p:=⟨g,_,none⟩) hgP.1 hgP.2.1] at a0 a1;clear hcs hat;simp at a0 a1;have hki:(k:Int)<(n:Int):=(by omega);have hk0:=sqI k
    have HWX:Hid (wtCl (wtEx d) x≤16777216):=by
     show _≤_;have h1:=HWT.out;have h2:=sum_take_succ (wtCl (wtEx d)) xs k x hxk;have h3:=sum_take_le (wtCl (wtEx d)) xs (k+1);unfold wtS at h1;omega
    have HZX:=hid (HZ.out x (List.mem_of_getElem? hxk));have HYK:Hid ((xs.map (mapC (fT ftU) d))[k]?=some (mapC (fT ftU) d x)):=(by show _=_;rw [List.getElem?_map,hxk];rfl);obtain ⟨W5,hW5⟩:∃ W5,W5=wr.alloc (.cells #[.slice r1 m1 s1,.slice r2 m2 s2] 46):=⟨_,rfl⟩;have K5:Hid (Bz wr W5):=(by show Below _ _ _;rw [hW5];exact (sqN _ _));have HW5:=hid hW5;have CR:=hid (HC.out.off HCK.out HOF.out (sqR _) HMS.out (sqR _));have C5:=hid (CR.out.next HCK.out K5.out (sqR _));have X5:=hid (HXR.out.mono (CR.out.same (OffB.of_below (b:=mb) K5.out) CR.out.le) (fun _ h=>h) (fun _ _ h=>h.mono (CR.out.same (OffB.of_below (b:=mb) K5.out) CR.out.le) (fun _ h=>h)));clear hW5 hex hcl6;go_wp2_with fail;rw [← HW5.out];refine (hE W5 N mb PL es z _ x HCK.out C5.out X5.out HZX.out HWX.out).mono ?_;rintro e w1 ⟨u,fp,rfl,⟨cs',rfl,hx1⟩,hnd,hrg,hb1,hm1⟩;obtain ⟨p1,n1,q1,p2,n2,q2,hsh⟩:=OCls.shape hx1;subst hsh;have K6:Hid (OffB mb wr.heap.size wr w1):=(OffB.of_below K5.out).trans (hb1.mono K5.out.size);have HX1:=hid hx1;have HND:Hid fp.Nodup:=hnd;have HRG:Hid (∀ a ∈ fp,wr.heap.size≤a∧a<w1.heap.size):=fun a ha=>⟨Nat.le_trans K5.out.size (hrg a ha).1,(hrg a ha).2⟩;have HM1:=hid hm1;have hGl:=HM.out.sz;have hGm:=HM.out.lt;have o1:w1.ownsRow G 46 2 (.slice (some ⟨G,0,none⟩) n n) n ys:=ownsG_blk HM.out.own (K6.out.block G (by omega) (by omega));have HO1:=hid o1;have f0:=o1.frozenAt (k * 2);obtain ⟨y0,g0⟩:=own_someR o1 (k * 2) (by omega);have f1:=o1.frozenAt (k * 2+1);obtain ⟨y1,g1⟩:=own_someR o1 (k * 2+1) (by omega);clear o1 hb1 hx1 hnd hrg hm1 hGl hGm a0 a1;go_wp2_with fail;have sd:=stored2 HO1.out (k * 2) (.slice p1 n1 q1) (.slice p2 n2 q2);have hlen:ys.length=n * 2:=HO1.out.1;have HMN:=MadeB.step (O:=fun w=>OCl w (OEx w d)) (c:=2) (fun w w' cs x f h hk=>OCls.keep h hk) HM.out HYK.out K6.out HX1.out HND.out HRG.out rfl sd.1 sd.2 (fun m hm=>set2_other hm) (fun j hj=>set2_self (by omega) j hj);refine ⟨⟨k+1,_,_,by omega,by go_num,HMN,HM1.out.keep (sd.2.block mb (by have:=CR.out.mlt;have:=K6.out.size;omega) (by have:=HM.out.lt;simp;omega)),HOG.out.trans ((off_of_offB K6.out).trans (Off.of_grown sd.2 (by simp)))⟩,by simp [intOf];omega⟩
  · obtain rfl:k=n:=by omega
    go_wp2_with fail;go_end0;exact ⟨rfl,⟨_,_,HM.out⟩,HMS.out,HOG.out⟩
theorem exps_of {Cap:World→Prop} {d:Nat} (hE:ExpR Cap d):ExpsR Cap d:=by
 intro w N mb PL es z v xs hC hc hr hz hw;have HCK:=hid hC;have HC:=hid hc;have HR:=hid hr;have HZ:=hid hz;have HWT:=hid hw;obtain ⟨p,cap,rfl,hcl,hcm,hx⟩:=hr;have hnb:xs.length≤16777216:=(by unfold wtS at hw;omega);obtain ⟨W1,hW1⟩:∃ W1,W1=w.alloc (.cells #[.func (.func 72) #[] #[],.map (some mb)] 73):=⟨_,rfl⟩;have K1:Hid (Bz w W1):=(by show Below _ _ _;rw [hW1];exact (sqN _ _));have b1:Hid (Blk W1 w.heap.size #[.func (.func 72) #[] #[],.map (some mb)] 73):=(by show Blk _ _ _ _;rw [hW1];exact Blk.new);have s1:W1.heap.size=w.heap.size+1:=(by rw [hW1,alloc_hs]);have S1:=hid s1;have HW1:=hid hW1;clear hW1 hC hc hz hw s1;unfold RV
 cases p with
 | none =>
  obtain rfl:=rows_nil_of_none HR.out;clear hx;go_enter func76,ntmps76;go_wp2_with fail;rw [← HW1.out];refine (blankExp_nil _ _).mono ?_;rintro e w2 ⟨rfl,rfl⟩;go_wp2_with fail;go_ret;exact ⟨_,[],rfl,orows_nil none 0 (Nat.zero_le _),by simp,by simp,OffB.of_below K1.out,HC.out.mp.keep (K1.out.block mb HC.out.mlt)⟩
 | some a =>
  by_cases hne:xs = []
  · subst hne
    clear hx;go_enter func76,ntmps76;go_wp2_with fail;rw [← HW1.out];refine (blankExp_some _ a 0 cap (by omega)).mono ?_;rintro e w2 ⟨rfl,M,hM,rfl⟩;have K2:Hid (Bz w (W1.alloc (.cells M 76))):=K1.out.alloc K1.out.size _;go_wp2_with fail;go_ret;exact ⟨_,[],rfl,orows_nil _ 0 (Nat.zero_le _),by simp,by simp,OffB.of_below K2.out,HC.out.mp.keep (K2.out.block mb HC.out.mlt)⟩
  · obtain ⟨g,off,ha,hg,hgl,-⟩:=hx hne
    simp only [Option.some.injEq] at ha;subst ha;have HNE:=hid hne;have hpos:0<xs.length:=List.length_pos_iff.2 hne;have hgP:=HC.out.pl g hg;have HGP:=hid hgP;generalize hn:xs.length=n at *;have HN:=hid hn;have hnz:((n:Int) == 0)=false:=(by simp;omega);have hnz2:¬ (n:Int)=0:=(by omega);have hn1:(0:Int)<(n:Int):=(by omega);clear hx hne hgP hg hn;go_enter func76,ntmps76;go_wp2_with fail;rw [← HW1.out];refine (blankExp_some _ ⟨g,off,none⟩ n cap hnb).mono ?_;rintro e w2 ⟨rfl,M,hM,hw2⟩
    have HM0:Hid (MadeB mb W1 w2 W1.heap.size n 76 6 (fun w=>OEx w d) (xs.map (mapX (fT ftU) d)) 0 M.toList []):=by
     show MadeB _ _ _ _ _ _ _ _ _ _ _ _;rw [hw2];exact MadeB.start hM (by unfold maxLen;omega) (by have:=HC.out.mlt;have:=K1.out.size;omega)
    have K2:Hid (Bz W1 w2):=(by show Below _ _ _;rw [hw2];exact (sqN _ _));have S2:Hid (w2.heap.size=w.heap.size+2):=(by show _=_;rw [hw2,alloc_hs,S1.out]);have b2:=hid (b1.out.next K2.out);obtain ⟨W3,hW3⟩:∃ W3,W3=w2.alloc (.cells #[.pointer (some ⟨g,off,none⟩),.int .i64 n] 161):=⟨_,rfl⟩;have K3:Hid (Bz w2 W3):=(by show Below _ _ _;rw [hW3];exact (sqN _ _));have b3:=hid (b2.out.next K3.out);have k3:Hid (Blk W3 w2.heap.size #[.pointer (some ⟨g,off,none⟩),.int .i64 n] 161):=(by show Blk _ _ _ _;rw [hW3];exact Blk.new);have S3:Hid (W3.heap.size=w.heap.size+3):=(by show _=_;rw [hW3,alloc_hs,S2.out]);have HW3:=hid hW3;have B3:=hid (K1.out.trans ((K2.out.mono K1.out.size).trans (K3.out.mono (Nat.le_trans K1.out.size K2.out.size))));have C3:=hid (HC.out.next HCK.out B3.out (sqR _));have R3:=hid (HR.out.mono (sqO B3.out) (fun _ h=>h) (fun _ _ _ h=>h.mono (sqO B3.out) (fun _ h=>h)));have P3:=hid (HGP.out.2.2.off (OffB.of_below (b:=mb) (N:=w.heap.size) B3.out) (by have:=HGP.out.1;have:=HC.out.le;omega) HGP.out.2.1);have N3:=hid (C3.out.ks.not C3.out.pl R3.out HZ.out);have M3:Hid (MadeB mb W1 W3 W1.heap.size n 76 6 (fun w=>OEx w d) (xs.map (mapX (fT ftU) d)) 0 M.toList []):=HM0.out.next (fun w w' cs x f h hk=>OEx.keep h hk) (OffB.of_below K3.out);obtain ⟨ck,hck⟩:=C3.out.mp;have HCKm:=hid hck;have RL:=hid (run_look C3.out.mp P3.out N3.out);obtain ⟨X,hX⟩:∃ X:MapEntry,X = { key:=keyV ⟨g,off,none⟩ n,val:=.slice (some ⟨W1.heap.size,0,none⟩) n n,born:=ck }:=⟨_,rfl⟩;have HXK:Hid (X.key=keyV ⟨g,off,none⟩ n):=(by show _=_;rw [hX]);obtain ⟨W4,hW4⟩:∃ W4:World,W4 = { W3 with heap:=W3.heap.setIfInBounds mb (.map (es.push X) (ck+1)) }:=⟨_,rfl⟩
    have RP:Hid ((Instr.mapUpdate 71 (.map (some mb)) (keyV ⟨g,off,none⟩ n) (.slice (some ⟨W1.heap.size,0,none⟩) n n)).run prog W3=.ok () W4):=by
     show _=_;rw [hW4,hX];exact run_put _ hck P3.out N3.out
    have hml:=HC.out.mlt;have hmN:=HC.out.lt;have hNw:=HC.out.le;have K4:Hid (OffB mb W3.heap.size W3 W4):=(by show OffB _ _ _ _;rw [hW4];exact offB_put _ _ _ _)
    have P4:Hid (MapSt W4 mb (es.push X)):=by
     refine ⟨ck+1,?_⟩;rw [hW4];exact put_at _ hck
    have b4:=hid (K4.out.blk b3.out b3.out.lt (by omega));have k4:=hid (K4.out.blk k3.out k3.out.lt (by rw [S2.out];omega));have R4:=hid (R3.out.mono (C3.out.same K4.out C3.out.le) (fun _ h=>h) (fun _ _ _ h=>h.mono (C3.out.same K4.out C3.out.le) (fun _ h=>h)));have hsz:1≤SizeOf.sizeOf xs:=size_pos xs
    have KS4:Hid (KeysIn W4 PL (es.push X) (SizeOf.sizeOf xs - 1)):=by
     have h1:=C3.out.ks.mono (C3.out.same K4.out C3.out.le) (sqR _);rw [hX];exact h1.push (by have:=HZ.out;omega) HNE.out R4.out (by omega) _ _
    have C4:Hid (Ctx Cap W4 N mb PL (es.push X) (SizeOf.sizeOf xs - 1)):=⟨C3.out.pl.off K4.out C3.out.le,P4.out,KS4.out,hmN,Nat.le_trans C3.out.le K4.out.size,HCK.out _ _ (K4.out.mono C3.out.le) C3.out.cap⟩;have M4:Hid (MadeB mb W1 W4 W1.heap.size n 76 6 (fun w=>OEx w d) (xs.map (mapX (fT ftU) d)) 0 M.toList []):=M3.out.next (fun w w' cs x f h hk=>OEx.keep h hk) K4.out
    have CFL:Hid (Calls prog 120 #[.slice (some ⟨W1.heap.size,0,none⟩) n n,.slice (some ⟨g,off,none⟩) n cap,.func (.func 121) #[.agg #[.func (.func 72) #[] #[],.map (some mb)]] #[]] W4 fun e w'=>e=.returned (.tuple #[])∧(∃ ys fps,MadeB mb W1 w' W1.heap.size n 76 6 (fun w=>OEx w d) (xs.map (mapX (fT ftU) d)) n ys fps)∧MapSt w' mb (es.push X)∧Off [mb,W1.heap.size] W4 w'):=by
     have:=fillExp_of hE W1 W4 W1.heap.size n N mb PL (es.push X) (SizeOf.sizeOf xs - 1) (.slice (some ⟨g,off,none⟩) n cap) xs M.toList HCK.out M4.out C4.out R4.out HN.out (fun x hx=>by have:=size_mem hx;omega) HWT.out (by rw [S1.out];omega);unfold RV at this;exact this
    obtain ⟨y0,y1⟩:=sqB2 b3.out;obtain ⟨x0,x1⟩:=sqB2 k3.out;obtain ⟨u0,u1⟩:=sqB2 b4.out;clear hw2 hW3 hck hM hX hW4 hsz;go_wp2_with (first | (rw [← HW3.out]) | (at_lookup;refine wpList_lookup_run _ rfl _ _ _ rfl _ _ _ rfl rfl RL.out ?_) | (at_mapUpdate;refine wpList_mapUpdate_run _ _ rfl _ _ _ _ rfl _ _ _ rfl rfl rfl RP.out ?_));refine CFL.out.mono ?_;rintro e w5 ⟨rfl,⟨ys,fps,hM5⟩,⟨ck5,hck5⟩,hof5⟩;have M5:=hid hM5;have b5:Hid (Blk w5 w.heap.size #[.func (.func 72) #[] #[],.map (some mb)] 73):=(hof5.block w.heap.size b4.out.lt (by rw [S1.out];simp;omega)).trans b4.out;have k5:Hid (Blk w5 w2.heap.size #[.pointer (some ⟨g,off,none⟩),.int .i64 n] 161):=(hof5.block w2.heap.size k4.out.lt (by rw [S1.out,S2.out];simp;omega)).trans k4.out;have K5:Hid (OffB mb w.heap.size W4 w5):=offB_of_off hof5 (by rw [S1.out];omega) (by have:=K4.out.size;have:=S3.out;omega);have P5:Hid (PlainAt w5 g):=(P3.out.off K4.out (by have:=HGP.out.1;have:=S3.out;omega) HGP.out.2.1).off K5.out (by have:=HGP.out.1;omega) HGP.out.2.1
    have N5:Hid (KeyNot w5 es.toList ⟨g,off,none⟩ n):=fun e he=>by
     obtain ⟨a',n',h1,h2,h3⟩:=N3.out e he;obtain ⟨a'',n'',q'',d'',ys'',j1,j2,j3,j4⟩:=C3.out.ks e he;have h4:=C3.out.pl _ (rows_first j3 j2);have e1:a'=a'':=(by rw [h1] at j1;simp [keyV] at j1;exact j1.1);subst e1;exact ⟨a',n',h1,(h2.off K4.out (by have:=h4.1;have:=S3.out;omega) h4.2.1).off K5.out (by have:=h4.1;omega) h4.2.1,h3⟩
    obtain ⟨W6,hW6⟩:∃ W6:World,W6 = { w5 with heap:=w5.heap.setIfInBounds mb (.map es ck5) }:=⟨_,rfl⟩
    have RD:Hid (∀ ty,(Builtin.delete_ #[71,161] ty #[.map (some mb),keyV ⟨g,off,none⟩ n]).run prog w5=.ok (.tuple #[]) W6):=fun ty=>by
     rw [hW6];exact run_del X HXK.out hck5 P5.out N5.out ty
    have K6:Hid (OffB mb w5.heap.size w5 W6):=by show OffB _ _ _ _;rw [hW6];exact offB_put _ _ _ _
    have P6:Hid (MapSt W6 mb es):=by
     refine ⟨ck5,?_⟩;rw [hW6];exact put_at _ hck5
    have M6:MadeB mb W1 W6 W1.heap.size n 76 6 (fun w=>OEx w d) (xs.map (mapX (fT ftU) d)) n ys fps:=M5.out.next (fun w w' cs x f h hk=>OEx.keep h hk) K6.out;obtain ⟨fp,r1,r2,r3⟩:=M6.done (show (xs.map (mapX (fT ftU) d)).length=n by rw [List.length_map];exact HN.out) (by unfold maxLen;omega);have R1:=hid r1;have R2:Hid (fp.Nodup∧∀ a ∈ fp,w.heap.size≤a∧a<W6.heap.size):=⟨r2,fun a ha=>⟨by have:=(r3 a ha).1;have:=S1.out;omega,(r3 a ha).2⟩⟩;have O6:Hid (OffB mb w.heap.size w W6):=(OffB.of_below B3.out).trans ((K4.out.mono (by have:=S3.out;omega)).trans (K5.out.trans (K6.out.mono (by have:=K5.out.size;have:=K4.out.size;have:=S3.out;omega))));obtain ⟨v0,v1⟩:=sqB2 b5.out;obtain ⟨t0,t1⟩:=sqB2 k5.out;clear M6 hM5 hck5 hof5 hW6 r1 r2 r3 y0 y1 x0 x1 u0 u1;go_wp2_with (at_delete;refine wpList_delete_run _ _ rfl _ _ _ _ rfl _ _ rfl rfl (RD.out _) ?_);go_ret;exact ⟨_,fp,rfl,R1.out,R2.out.1,R2.out.2,O6.out,P6.out⟩
theorem clause_of {Cap:World→Prop} {d:Nat} (hE:ExpsR Cap d):ClR Cap d:=by
 intro w N mb PL es z cs c hC hc hr hz hw;have HCK:=hid hC;have HC:=hid hc;obtain ⟨pv,bv,rfl,hp,hb⟩:=hr;have HP:=hid hp;have HB:=hid hb;have HZ1:Hid (SizeOf.sizeOf c.1≤z):=(by show _≤_;have:=size_pats c;omega);have HZ2:Hid (SizeOf.sizeOf c.2≤z):=(by show _≤_;have:=size_pats c;omega);have hw':wtCl (wtEx d) c=wtS (wtEx d) c.1+wtS (wtEx d) c.2:=rfl;have HW1:Hid (wtS (wtEx d) c.1≤16777216):=(by show _≤_;omega);have HW2:Hid (wtS (wtEx d) c.2≤16777216):=(by show _≤_;omega);obtain ⟨p1,c1,rfl,-⟩:=hp;obtain ⟨p2,c2,rfl,-⟩:=hb;generalize c.1.length=n1 at *;generalize c.2.length=n2 at *;obtain ⟨W2,hW2⟩:∃ W2,W2=(w.alloc (.cells #[.func (.func 72) #[] #[],.map (some mb)] 73)).alloc (.cells #[.slice p1 n1 c1,.slice p2 n2 c2] 46):=⟨_,rfl⟩;have K2:Hid (Bz w W2):=(by show Below _ _ _;rw [hW2];exact ((sqN _ _)).alloc (by simp) _);have b2:Hid (Blk W2 w.heap.size #[.func (.func 72) #[] #[],.map (some mb)] 73):=(by show Blk _ _ _ _;rw [hW2];exact Blk.new.alloc)
 have c2':Hid (Blk W2 (w.heap.size+1) #[.slice p1 n1 c1,.slice p2 n2 c2] 46):=by
  have:=Blk.new (w:=w.alloc (.cells #[.func (.func 72) #[] #[],.map (some mb)] 73)) (cs:=#[.slice p1 n1 c1,.slice p2 n2 c2]) (t:=46);rw [alloc_hs] at this;show Blk _ _ _ _;rw [hW2];exact this
 have S2:Hid (W2.heap.size=w.heap.size+2):=(by show _=_;rw [hW2,alloc_hs,alloc_hs]);obtain ⟨W3,hW3⟩:∃ W3,W3=W2.alloc (.cells #[.slice none 0 0,.slice none 0 0] 46):=⟨_,rfl⟩;have K3:Hid (Bz W2 W3):=(by show Below _ _ _;rw [hW3];exact (sqN _ _));have r3:Hid (Blk W3 (w.heap.size+2) #[.slice none 0 0,.slice none 0 0] 46):=(by show Blk _ _ _ _;rw [hW3,← S2.out];exact Blk.new);have HW3:Hid (W3=((w.alloc (.cells #[.func (.func 72) #[] #[],.map (some mb)] 73)).alloc (.cells #[.slice p1 n1 c1,.slice p2 n2 c2] 46)).alloc (.cells #[.slice none 0 0,.slice none 0 0] 46)):=(by show _=_;rw [hW3,hW2]);have B3:=hid (K2.out.trans (K3.out.mono K2.out.size));have S3:Hid (W3.heap.size=w.heap.size+3):=(by show _=_;rw [hW3,alloc_hs,S2.out]);have C3:=hid (HC.out.next HCK.out B3.out.drew (sqR _));have P3:=hid (HP.out.mono (sqO B3.out.drew) (fun _ h=>h) (fun _ _ _ h=>h.mono (sqO B3.out.drew) (fun _ h=>h)));have hml:=HC.out.mlt;have hmN:=HC.out.lt;have hNw:=HC.out.le;have z0:Hid (w.heap.size≠mb):=(by show _≠_;omega);have z1:Hid (w.heap.size+1≠mb):=(by show _≠_;omega);have b3:=hid (b2.out.next K3.out);have c3:=hid (c2'.out.next K3.out)
 have CELLS:Hid (∀ w',OffB mb (w.heap.size+2) W3 w'→w'.cell? ⟨w.heap.size,0,none⟩=some (.func (.func 72) #[] #[])∧w'.cell? ⟨w.heap.size,1,none⟩=some (.map (some mb))∧w'.cell? ⟨w.heap.size+1,0,none⟩=some (.slice p1 n1 c1)∧w'.cell? ⟨w.heap.size+1,1,none⟩=some (.slice p2 n2 c2)):=fun w' ho=>by
  have e1:=ho.blk b3.out (by have:=S2.out;omega) z0.out;have e2:=ho.blk c3.out (by have:=S2.out;omega) z1.out;exact ⟨e1.cell 0 _ rfl,e1.cell 1 _ rfl,e2.cell 0 _ rfl,e2.cell 1 _ rfl⟩
 have hfirst:=CELLS.out W3 (OffB.refl _ _ _);obtain ⟨q0,q1,q2,q3⟩:=hfirst;obtain ⟨e0,e1⟩:=sqB2 r3.out;obtain ⟨f0,f1⟩:=sqF2 r3.out;clear hW2 hW3 hC hc hz hw hw';unfold RV;unfold ExpsR RV at hE;go_enter func32,ntmps32;go_wp2_with fail;rw [← HW3.out]
 go_region_held3 (fun w'=>w'.cell? ⟨w.heap.size,0,none⟩=some (.func (.func 72) #[] #[])∧w'.cell? ⟨w.heap.size,1,none⟩=some (.map (some mb))∧w'.cell? ⟨w.heap.size+1,0,none⟩=some (.slice p1 n1 c1)∧w'.cell? ⟨w.heap.size+1,1,none⟩=some (.slice p2 n2 c2))
  (first | exact CELLS.out _ (OffB.refl _ _ _).drew | exact CELLS.out _ K5.out | exact CELLS.out _ K4.out | exact CELLS.out _ ((K5.out.setCell (sqR _) _).setCell (sqR _) _) | go_keep)
  (first
   | (have _:=K4;go_at_call 76;refine (hE _ N mb PL es z _ c.2 HCK.out C4.out R4.out HZ2.out HW2.out).mono ?_;rintro e w5 ⟨u5,fq,rfl,ho5,hnd5,hrg5,hb5,hm5⟩;obtain ⟨pu5,cu5,hu5,hcl5,hcm5⟩:=ho5.shape;subst hu5;have HO5:=hid ho5;have ND5:Hid (fq.Nodup∧∀ a ∈ fq,w4.heap.size≤a∧a<w5.heap.size):=⟨hnd5,hrg5⟩;have L5:=hid hb5;have K5:Hid (OffB mb (w.heap.size+2) W3 w5):=K4.out.trans (hb5.mono (by have h1:=K4.out.size;have h2:=S3.out;have h3:=S2.out;omega));have MS5:=hid hm5;have rr:=(L5.out.blk (M4.out.blk r3.out r3.out.lt (by have:=S2.out;omega)) (by have h1:=M4.out.size;have h2:=r3.out.lt;omega) (by have:=S2.out;omega));have HRR:=hid rr;obtain ⟨e2,e3⟩:=sqB2 rr;obtain ⟨f2,f3⟩:=sqF2 rr;clear ho5 hnd5 hrg5 hb5 hm5 rr)
   | (go_at_call 76;refine (hE _ N mb PL es z _ c.1 HCK.out C3.out P3.out HZ1.out HW1.out).mono ?_;rintro e w4 ⟨u4,fp,rfl,ho4,hnd4,hrg4,hb4,hm4⟩;obtain ⟨pu4,cu4,hu4,hcl4,hcm4⟩:=ho4.shape;subst hu4;have HO4:=hid ho4;have ND4:Hid (fp.Nodup∧∀ a ∈ fp,W3.heap.size≤a∧a<w4.heap.size):=⟨hnd4,hrg4⟩;have M4:Hid (OffB mb W3.heap.size W3 w4):=⟨hb4.os,hb4.tape,hb4.output,hb4.size,hb4.block⟩;have K4:Hid (OffB mb (w.heap.size+2) W3 w4):=M4.out.mono (by have h2:=S3.out;have h3:=S2.out;omega);have C4:=hid (C3.out.off HCK.out hb4 C3.out.le hm4 (sqR _));have R4:Hid (Rows w4 PL 6 (HEx w4 PL d) (.slice p2 n2 c2) c.2):=(by have ho:OffB mb w.heap.size w w4:=(OffB.of_below B3.out).trans (M4.out.mono (by have h2:=S3.out;omega));exact HB.out.mono (HC.out.same ho HC.out.le) (fun _ h=>h) (fun _ _ _ h=>h.mono (HC.out.same ho HC.out.le) (fun _ h=>h)));clear ho4 hnd4 hrg4 hb4 hm4))
 go_split_ands;go_wp2_with fail;have l1:(c.1.map (mapX (fT ftU) d)).length=c.1.length:=List.length_map _;have l2:(c.2.map (mapX (fT ftU) d)).length=c.2.length:=List.length_map _;have H4:=HO4.out;have H5:=HO5.out;rw [l1] at H4;rw [l2] at H5;obtain ⟨W6,hW6⟩:∃ W6,W6=(w5.setCell ⟨w.heap.size+2,0,none⟩ (.slice pu4 c.1.length cu4)).setCell ⟨w.heap.size+2,1,none⟩ (.slice pu5 c.2.length cu5):=⟨_,rfl⟩;have bz:Blk W6 (w.heap.size+2) #[.slice pu4 c.1.length cu4,.slice pu5 c.2.length cu5] 46:=(by rw [hW6];exact (HRR.out.same rfl).same rfl)
 have o6:∀ a,a≠w.heap.size+2→W6.heap[a]?=w5.heap[a]?:=fun a ha=>by rw [hW6,Below.heap_setCell _ _ _ _ ha,Below.heap_setCell _ _ _ _ ha]
 have K6:OffB mb (w.heap.size+2) W3 W6:=(by rw [hW6];exact (K5.out.setCell (sqR _) _).setCell (sqR _) _);have s6:W6.heap.size=w5.heap.size:=(by rw [hW6];simp [World.setCell]);have g1:=S3.out;have g2:=M4.out.size;have g3:=L5.out.size;obtain ⟨j0,j1⟩:=sqB2 bz
 have o4:ORows W6 76 6 (OEx W6 d) (.slice pu4 c.1.length cu4) (c.1.map (mapX (fT ftU) d)) fp:=by
  have kk:KeepOn fp w4 W6:=fun a ha=>by
   have h:=ND4.out.2 a ha;exact (o6 a (by omega)).trans (L5.out.block a h.2 (by omega))
  exact H4.keep kk (fun cs x f _ hs h=>h.keep (kk.sub hs))
 have o5:ORows W6 76 6 (OEx W6 d) (.slice pu5 c.2.length cu5) (c.2.map (mapX (fT ftU) d)) fq:=by
  have kk:KeepOn fq w5 W6:=fun a ha=>by
   have h:=ND5.out.2 a ha;exact o6 a (by omega)
  exact H5.keep kk (fun cs x f _ hs h=>h.keep (kk.sub hs))
 have nd:(fp ++ fq).Nodup:=by
  rw [List.nodup_append];refine ⟨ND4.out.1,ND5.out.1,fun a ha b hb=>?_⟩;have h:=ND4.out.2 a ha;have h':=ND5.out.2 b hb;omega
 have rg:∀ a ∈ fp ++ fq,w.heap.size≤a∧a<W6.heap.size:=fun a ha=>by
  rcases List.mem_append.1 ha with ha | ha
  · have h:=ND4.out.2 a ha;omega
  · have h:=ND5.out.2 a ha;omega
 have of:OffB mb w.heap.size w W6:=(OffB.of_below B3.out).trans (K6.mono (by omega));have ms:MapSt W6 mb es:=MS5.out.keep (o6 mb (by omega));have fin:ResM w mb es (fun w' u fp=>∃ cs',u=.agg cs'.toArray∧OCl w' (OEx w' d) cs' (mapC (fT ftU) d c) fp) (.returned (.agg #[.slice pu4 c.1.length cu4,.slice pu5 c.2.length cu5])) W6:=⟨_,fp ++ fq,rfl,⟨[.slice pu4 c.1.length cu4,.slice pu5 c.2.length cu5],rfl,⟨_,_,fp,fq,rfl,rfl,o4,o5⟩⟩,nd,rg,of,ms⟩;rw [hW6] at fin j0 j1;exact bodyPost_ret (v:=.agg #[.slice pu4 c.1.length cu4,.slice pu5 c.2.length cu5]) (by simp [results,results32,go_sem,j0,j1]) rfl fin
theorem eachCl_of {Cap:World→Prop} {d:Nat} (hE:ClR Cap d):ClsR Cap d:=by
 intro w N mb PL es z v cl hC hc hr hz hw;have HCK:=hid hC;have HC:=hid hc;have HR:=hid hr;have HZ:=hid hz;have HWT:=hid hw;obtain ⟨p,cap,rfl,hcl,hcm,hx⟩:=hr;have hnb:cl.length≤16777216:=(by unfold wtS at hw;omega);clear hC hc hz hw hx;unfold RV
 cases p with
 | none =>
  obtain rfl:=rows_nil_of_none HR.out;go_enter func161,ntmps161;go_wp2_with fail;refine (blankClause_nil _ _).mono ?_;rintro e w2 ⟨rfl,rfl⟩;go_wp2_with fail;refine (fillClause_nil _ _ _ _ _ _).mono ?_;rintro e w3 ⟨rfl,rfl⟩;go_wp2_with fail;go_ret;exact ⟨_,[],rfl,orows_nil none 0 (Nat.zero_le _),by simp,by simp,OffB.refl _ _ _,HC.out.mp⟩
 | some a =>
  generalize hn:cl.length=n at *;have HN:=hid hn;clear hn;go_enter func161,ntmps161;go_wp2_with fail;refine (blankClause_some _ a n cap hnb).mono ?_;rintro e w2 ⟨rfl,M,hM,hw2⟩;have K2:Hid (Bz w w2):=(by show Below _ _ _;rw [hw2];exact (sqN _ _))
  have HM0:Hid (MadeB mb w w2 w.heap.size n 46 2 (fun w=>OCl w (OEx w d)) (cl.map (mapC (fT ftU) d)) 0 M.toList []):=by
   show MadeB _ _ _ _ _ _ _ _ _ _ _ _;rw [hw2];exact MadeB.start hM (by unfold maxLen;omega) HC.out.mlt
  have C2:=hid (HC.out.next HCK.out K2.out (sqR _));have R2:=hid (HR.out.mono (sqO K2.out) (fun _ h=>h) (fun _ _ _ h=>h.mono (sqO K2.out) (fun _ h=>h) (fun _ _ h=>h.mono (sqO K2.out) (fun _ h=>h))));have CFL:=fillClause_of hE w w2 w.heap.size n N mb PL es z (.slice (some a) n cap) cl M.toList HCK.out HM0.out C2.out R2.out HN.out (fun x hx=>by have:=size_memC hx;have:=HZ.out;omega) HWT.out HC.out.le;unfold RV at CFL;have HCF:=hid CFL;clear CFL hw2 hM;go_wp2_with fail;refine HCF.out.mono ?_;rintro e w3 ⟨rfl,⟨ys,fps,hM3⟩,hm3,hof3⟩;obtain ⟨fp,r1,r2,r3⟩:=hM3.done (show (cl.map (mapC (fT ftU) d)).length=n by rw [List.length_map];exact HN.out) (by unfold maxLen;omega);have R1:=hid r1;have RR:Hid (fp.Nodup∧∀ a ∈ fp,w.heap.size≤a∧a<w3.heap.size):=⟨r2,r3⟩;have O3:=hid hM3.off;have M3:Hid (MapSt w3 mb es):=hm3;clear hM3 hm3 hof3 r1 r2 r3;go_wp2_with fail;go_ret;exact ⟨_,fp,rfl,R1.out,RR.out.1,RR.out.2,O3.out,M3.out⟩
def ChgR (Cap:World→Prop):Prop:=∀ (w:World) (k n:Int) (t m:ByteArray) (p1 p2:Option Addr) (n1 q1 n2 q2:Nat),Cap w→n1≤maxLen →
 Calls prog 72 #[.agg #[.int .i64 k,.int .i64 n,.string t,.string m,.slice p1 n1 q1,.slice p2 n2 q2]] w fun e w'=>e=.returned (.agg #[.int .i64 k,.int .i64 n,.string (ftU k t m n1),.string m,.slice p1 n1 q1,.slice p2 n2 q2])∧Bz w w'
theorem exp_of {Cap:World→Prop} {d:Nat} (hE:ExpsR Cap d) (hCl:ClsR Cap d) (hCh:ChgR Cap) (hok:∀ k t m n,okS t→okS (ftU k t m n)):ExpR Cap (d+1):=by
 intro w N mb PL es z cs x hC hc hr hz hw;have HCK:=hid hC;have HC:=hid hc;obtain ⟨kv,cv,rfl,o1,o2,o3,o4,hk,hcl⟩:=hr;obtain ⟨k0,n0,t0,m0,ks,cls⟩:=x;simp only [Ex.kind,Ex.n,Ex.text,Ex.mod,Ex.kids,Ex.clauses] at *;have hw':wtEx (d+1) (.mk k0 n0 t0 m0 ks cls)=t0.size+m0.size+wtS (wtEx d) ks+wtS (wtCl (wtEx d)) cls:=rfl;have HOK:Hid (okI k0∧okI n0∧okS t0∧okS m0):=⟨o1,o2,o3,o4⟩;have HKS:=hid hk;have HCS:=hid hcl;have HZ1:Hid (SizeOf.sizeOf ks≤z):=(by show _≤_;have:=size_kids (.mk k0 n0 t0 m0 ks cls);simp only [Ex.kids] at this;omega);have HZ2:Hid (SizeOf.sizeOf cls≤z):=(by show _≤_;have:=size_clauses (.mk k0 n0 t0 m0 ks cls);simp only [Ex.clauses] at this;omega);have HW1:Hid (wtS (wtEx d) ks≤16777216):=(by show _≤_;omega);have HW2:Hid (wtS (wtCl (wtEx d)) cls≤16777216):=(by show _≤_;omega);have HOF:=hid hok;obtain ⟨p1,c1,rfl,hl1,hm1,-⟩:=hk;obtain ⟨p2,c2,rfl,hl2,hm2,-⟩:=hcl;have HN1:=hid (Nat.le_trans hl1 hm1);generalize hn1:ks.length=n1 at *;generalize hn2:cls.length=n2 at *;have HL1:=hid hn1;have HL2:=hid hn2;obtain ⟨W3,hW3⟩:∃ W3,W3=((w.alloc (.cells #[.func (.func 72) #[] #[],.map (some mb)] 73)).alloc (.cells #[.int .i64 k0,.int .i64 n0,.string t0,.string m0,.slice p1 n1 c1,.slice p2 n2 c2] 76)).alloc (.cells #[.int .i64 0,.int .i64 0,.string ⟨#[]⟩,.string ⟨#[]⟩,.slice none 0 0,.slice none 0 0] 76):=⟨_,rfl⟩;have HW3:=hid hW3;have B3:Hid (Bz w W3):=(by show Below _ _ _;rw [hW3];exact (((sqN _ _)).alloc (by simp) _).alloc (by simp only [alloc_hs];omega) _);have b3:Hid (Blk W3 w.heap.size #[.func (.func 72) #[] #[],.map (some mb)] 73):=(by show Blk _ _ _ _;rw [hW3];exact Blk.new.alloc.alloc)
 have e3:Hid (Blk W3 (w.heap.size+1) #[.int .i64 k0,.int .i64 n0,.string t0,.string m0,.slice p1 n1 c1,.slice p2 n2 c2] 76):=by
  have:=Blk.new (w:=w.alloc (.cells #[.func (.func 72) #[] #[],.map (some mb)] 73)) (cs:=#[.int .i64 k0,.int .i64 n0,.string t0,.string m0,.slice p1 n1 c1,.slice p2 n2 c2]) (t:=76);rw [alloc_hs] at this;show Blk _ _ _ _;rw [hW3];exact this.alloc
 have r3:Hid (Blk W3 (w.heap.size+2) #[.int .i64 0,.int .i64 0,.string ⟨#[]⟩,.string ⟨#[]⟩,.slice none 0 0,.slice none 0 0] 76):=by
  have:=Blk.new (w:=(w.alloc (.cells #[.func (.func 72) #[] #[],.map (some mb)] 73)).alloc (.cells #[.int .i64 k0,.int .i64 n0,.string t0,.string m0,.slice p1 n1 c1,.slice p2 n2 c2] 76)) (cs:=#[.int .i64 0,.int .i64 0,.string ⟨#[]⟩,.string ⟨#[]⟩,.slice none 0 0,.slice none 0 0]) (t:=76);rw [alloc_hs,alloc_hs] at this;show Blk _ _ _ _;rw [hW3];exact this
 have S3:Hid (W3.heap.size=w.heap.size+3):=(by show _=_;rw [hW3,alloc_hs,alloc_hs,alloc_hs]);have C3:=hid (HC.out.next HCK.out B3.out (sqR _));have P3:=hid (HKS.out.mono (sqO B3.out) (fun _ h=>h) (fun _ _ _ h=>h.mono (sqO B3.out) (fun _ h=>h)));have hml:=HC.out.mlt;have hmN:=HC.out.lt;have hNw:=HC.out.le;unfold ExpsR RV at hE;unfold ClsR RV at hCl;unfold ChgR at hCh;unfold RV;obtain ⟨y0,y1⟩:=sqB2 b3.out;obtain ⟨x0,x1,x2,x3,x4,x5⟩:=sqB6 e3.out;clear hW3 hC hc hz hw hw' hn1 hn2 o1 o2 o3 o4 hok;go_enter func121,ntmps121;go_wp2_with fail;rw [← HW3.out];refine (hE _ N mb PL es z _ ks HCK.out C3.out P3.out HZ1.out HW1.out).mono ?_;rintro e w4 ⟨u4,fp,rfl,ho4,hnd4,hrg4,hb4,hmm4⟩;obtain ⟨pu4,cu4,hu4,hcl4,hcm4⟩:=ho4.shape;rw [List.length_map,HL1.out] at hu4;subst hu4;have HO4:=hid ho4;have ND4:Hid (fp.Nodup∧∀ a ∈ fp,W3.heap.size≤a∧a<w4.heap.size):=⟨hnd4,hrg4⟩;have K4:Hid (OffB mb W3.heap.size W3 w4):=hb4;have g3:=S3.out;have g4:=hb4.size;have MS4:=hid hmm4;have b4:=hid (hb4.blk b3.out b3.out.lt (by omega));have e4:=hid (hb4.blk e3.out e3.out.lt (by omega));have r4:=hid (hb4.blk r3.out r3.out.lt (by omega));have ff:=e4.out.frozen 4;obtain ⟨v0,v1,v2,v3,v4,v5⟩:=sqB6 e4.out;obtain ⟨s0,s1⟩:=sqB2 b4.out;clear ho4 hnd4 hrg4 hb4 hmm4 hcl4 hcm4 y0 y1 x0 x1 x2 x3 x4 x5;go_wp2_with fail;obtain ⟨V4,hV4⟩:∃ V4,V4=w4.setCell ⟨w.heap.size+1,4,none⟩ (.slice pu4 n1 cu4):=⟨_,rfl⟩;rw [← hV4];have OV4:Hid (OffB mb (w.heap.size+1) w4 V4):=(by show OffB _ _ _ _;rw [hV4];exact (OffB.refl _ _ _).setCell (by show _≤w.heap.size+1;exact Nat.le_refl _) _)
 have q4:∀ a,a≠w.heap.size+1→V4.heap[a]?=w4.heap[a]?:=fun a ha=>by rw [hV4];exact Below.heap_setCell _ _ _ _ ha
 have Q4:=hid q4;have sV4:V4.heap.size=w4.heap.size:=(by rw [hV4];simp [World.setCell]);have E4:Hid (Blk V4 (w.heap.size+1) #[.int .i64 k0,.int .i64 n0,.string t0,.string m0,.slice pu4 n1 cu4,.slice p2 n2 c2] 76):=(by show Blk _ _ _ _;rw [hV4];exact e4.out.same rfl);have B4:Hid (Blk V4 w.heap.size #[.func (.func 72) #[] #[],.map (some mb)] 73):=(q4 _ (by omega)).trans b4.out;have R4:Hid (Blk V4 (w.heap.size+2) #[.int .i64 0,.int .i64 0,.string ⟨#[]⟩,.string ⟨#[]⟩,.slice none 0 0,.slice none 0 0] 76):=(q4 _ (by omega)).trans r4.out;have O4:Hid (OffB mb w.heap.size w V4):=(OffB.of_below B3.out).trans ((K4.out.mono (by omega)).trans (OV4.out.mono (by omega)));have C4:=hid (HC.out.off HCK.out O4.out HC.out.le (MS4.out.keep (q4 mb (by omega))) (sqR _));have T4:=hid (HCS.out.mono (HC.out.same O4.out HC.out.le) (fun _ h=>h) (fun _ _ _ h=>h.mono (HC.out.same O4.out HC.out.le) (fun _ h=>h) (fun _ _ h=>h.mono (HC.out.same O4.out HC.out.le) (fun _ h=>h))));clear hV4 q4 v0 v1 v2 v3 v4 v5 s0 s1 ff;refine (hCl _ N mb PL es z _ cls HCK.out C4.out T4.out HZ2.out HW2.out).mono ?_;rintro e w5 ⟨u5,fq,rfl,ho5,hnd5,hrg5,hb5,hmm5⟩;obtain ⟨pu5,cu5,hu5,hcl5,hcm5⟩:=ho5.shape;rw [List.length_map,HL2.out] at hu5;subst hu5;have HO5:=hid ho5;have ND5:Hid (fq.Nodup∧∀ a ∈ fq,w4.heap.size≤a∧a<w5.heap.size):=⟨hnd5,fun a ha=>⟨by have:=(hrg5 a ha).1;omega,(hrg5 a ha).2⟩⟩;have K5:Hid (OffB mb V4.heap.size V4 w5):=hb5;have g5:=hb5.size;have MS5:=hid hmm5;have b5:=hid (hb5.blk B4.out B4.out.lt (by omega));have e5:=hid (hb5.blk E4.out E4.out.lt (by omega));have r5:=hid (hb5.blk R4.out R4.out.lt (by omega));obtain ⟨V5,hV5⟩:∃ V5,V5=w5.setCell ⟨w.heap.size+1,5,none⟩ (.slice pu5 n2 cu5):=⟨_,rfl⟩
 have q5:∀ a,a≠w.heap.size+1→V5.heap[a]?=w5.heap[a]?:=fun a ha=>by rw [hV5];exact Below.heap_setCell _ _ _ _ ha
 have OV5:Hid (OffB mb (w.heap.size+1) w5 V5):=(by show OffB _ _ _ _;rw [hV5];exact (OffB.refl _ _ _).setCell (by show _≤w.heap.size+1;exact Nat.le_refl _) _);have sV5:V5.heap.size=w5.heap.size:=(by rw [hV5];simp [World.setCell]);have E5:Hid (Blk V5 (w.heap.size+1) #[.int .i64 k0,.int .i64 n0,.string t0,.string m0,.slice pu4 n1 cu4,.slice pu5 n2 cu5] 76):=(by show Blk _ _ _ _;rw [hV5];exact e5.out.same rfl);have B5:Hid (Blk V5 w.heap.size #[.func (.func 72) #[] #[],.map (some mb)] 73):=(q5 _ (by omega)).trans b5.out;have R5:Hid (Blk V5 (w.heap.size+2) #[.int .i64 0,.int .i64 0,.string ⟨#[]⟩,.string ⟨#[]⟩,.slice none 0 0,.slice none 0 0] 76):=(q5 _ (by omega)).trans r5.out;have O5:=hid (O4.out.trans ((K5.out.mono (by omega)).trans (OV5.out.mono (by omega))));have C5:=hid (HCK.out _ _ (O5.out.mono HC.out.le) HC.out.cap);have Q5:=hid q5;have HV5:=hid hV5;have ff:=e5.out.frozen 5;obtain ⟨v0,v1,v2,v3,v4,v5⟩:=sqB6 e5.out;obtain ⟨s0,s1⟩:=sqB2 b5.out;obtain ⟨x0,x1,x2,x3,x4,x5⟩:=sqB6 E5.out;obtain ⟨y0,y1⟩:=sqB2 B5.out;clear ho5 hnd5 hrg5 hb5 hmm5 hcl5 hcm5 hV5 q5;go_wp2_with (rw [← HV5.out]);refine (hCh V5 k0 n0 t0 m0 _ _ n1 _ n2 _ C5.out HN1.out).mono ?_;rintro e w6 ⟨rfl,hb6⟩;have K6:=hid hb6;have g6:=hb6.size;have r6:=hid (R5.out.next hb6);obtain ⟨c0,c1,c2,c3,c4,c5⟩:=sqB6 r6.out;obtain ⟨f0,f1,f2,f3,f4,f5⟩:=sqF6 r6.out;clear hb6 v0 v1 v2 v3 v4 v5 s0 s1 x0 x1 x2 x3 x4 x5 y0 y1 ff;go_wp2_with fail;obtain ⟨W7,hW7⟩:∃ W7,W7=(((((w6.setCell ⟨w.heap.size+2,0,none⟩ (.int .i64 k0)).setCell ⟨w.heap.size+2,1,none⟩ (.int .i64 n0)).setCell ⟨w.heap.size+2,2,none⟩ (.string (ftU k0 t0 m0 n1))).setCell ⟨w.heap.size+2,3,none⟩ (.string m0)).setCell ⟨w.heap.size+2,4,none⟩ (.slice pu4 n1 cu4)).setCell ⟨w.heap.size+2,5,none⟩ (.slice pu5 n2 cu5):=⟨_,rfl⟩;have bz:Blk W7 (w.heap.size+2) #[.int .i64 k0,.int .i64 n0,.string (ftU k0 t0 m0 n1),.string m0,.slice pu4 n1 cu4,.slice pu5 n2 cu5] 76:=(by rw [hW7];exact (((((r6.out.same rfl).same rfl).same rfl).same rfl).same rfl).same rfl)
 have o7:∀ a,a≠w.heap.size+2→W7.heap[a]?=w6.heap[a]?:=fun a ha=>by rw [hW7,Below.heap_setCell _ _ _ _ ha,Below.heap_setCell _ _ _ _ ha,Below.heap_setCell _ _ _ _ ha,Below.heap_setCell _ _ _ _ ha,Below.heap_setCell _ _ _ _ ha,Below.heap_setCell _ _ _ _ ha]
 have K7:Below 0 w6 W7:=(by rw [hW7];exact ((((((Below.refl 0 w6).setCell (Nat.zero_le _) _).setCell (Nat.zero_le _) _).setCell (Nat.zero_le _) _).setCell (Nat.zero_le _) _).setCell (Nat.zero_le _) _).setCell (Nat.zero_le _) _);have s7:W7.heap.size=w6.heap.size:=(by rw [hW7];simp [World.setCell]);obtain ⟨j0,j1,j2,j3,j4,j5⟩:=sqB6 bz;have way:∀ a,W3.heap.size≤a→a<w5.heap.size→W7.heap[a]?=w5.heap[a]?:=fun a h1 h2=>(o7 a (by omega)).trans ((K6.out.block a (by omega)).trans (Q5.out a (by omega)))
 have o4:ORows W7 76 6 (OEx W7 d) (.slice pu4 n1 cu4) (ks.map (mapX (fT ftU) d)) fp:=by
  have kk:KeepOn fp w4 W7:=fun a ha=>by
   have h:=ND4.out.2 a ha;exact (way a h.1 (by omega)).trans ((K5.out.block a (by omega) (by omega)).trans (Q4.out a (by omega)))
  exact HO4.out.keep kk (fun cs x f _ hs h=>h.keep (kk.sub hs))
 have o5:ORows W7 46 2 (OCl W7 (OEx W7 d)) (.slice pu5 n2 cu5) (cls.map (mapC (fT ftU) d)) fq:=by
  have kk:KeepOn fq w5 W7:=fun a ha=>by
   have h:=ND5.out.2 a ha;exact way a (by omega) h.2
  exact HO5.out.keep kk (fun cs x f _ hs h=>OCls.keep h (kk.sub hs))
 have nd:(fp ++ fq).Nodup:=by
  rw [List.nodup_append];refine ⟨ND4.out.1,ND5.out.1,fun a ha b hb=>?_⟩;have h:=ND4.out.2 a ha;have h':=ND5.out.2 b hb;omega
 have rg:∀ a ∈ fp ++ fq,w.heap.size≤a∧a<W7.heap.size:=fun a ha=>by
  rcases List.mem_append.1 ha with ha | ha
  · have h:=ND4.out.2 a ha;omega
  · have h:=ND5.out.2 a ha;omega
 have of:OffB mb w.heap.size w W7:=O5.out.trans ⟨K7.os.trans K6.out.os,K7.tape.trans K6.out.tape,K7.output.trans K6.out.output,by omega,fun a h1 h2=>(o7 a (by omega)).trans (K6.out.block a (by omega))⟩;have ms:MapSt W7 mb es:=(MS5.out.keep (Q5.out mb (by omega))).keep ((o7 mb (by omega)).trans (K6.out.block mb (by omega)));have hk:=HOK.out;have hl1:=HL1.out
 have fin:ResM w mb es (fun w' u fp=>∃ cs',u=.agg cs'.toArray∧OEx w' (d+1) cs' (mapX (fT ftU) (d+1) (.mk k0 n0 t0 m0 ks cls)) fp) (.returned (.agg #[.int .i64 k0,.int .i64 n0,.string (ftU k0 t0 m0 n1),.string m0,.slice pu4 n1 cu4,.slice pu5 n2 cu5])) W7:=by
  refine ⟨_,fp ++ fq,rfl,⟨[.int .i64 k0,.int .i64 n0,.string (ftU k0 t0 m0 n1),.string m0,.slice pu4 n1 cu4,.slice pu5 n2 cu5],rfl,?_⟩,nd,rg,of,ms⟩
  have hx:mapX (fT ftU) (d+1) (.mk k0 n0 t0 m0 ks cls)=.mk k0 n0 (ftU k0 t0 m0 n1) m0 (ks.map (mapX (fT ftU) d)) (cls.map (mapC (fT ftU) d)):=by
   show fT _ (Ex.mk k0 n0 t0 m0 (ks.map (mapX (fT ftU) d)) (cls.map (mapC (fT ftU) d)))=_;simp only [fT,Ex.kind,Ex.n,Ex.text,Ex.mod,Ex.kids,Ex.clauses,List.length_map,hl1]
  rw [hx];exact ⟨_,_,fp,fq,rfl,rfl,hk.1,hk.2.1,HOF.out k0 t0 m0 n1 hk.2.2.1,hk.2.2.2,o4,o5⟩
 rw [hW7] at fin j0 j1 j2 j3 j4 j5;exact bodyPost_ret (v:=.agg #[.int .i64 k0,.int .i64 n0,.string (ftU k0 t0 m0 n1),.string m0,.slice pu4 n1 cu4,.slice pu5 n2 cu5]) (by simp [results,results121,go_sem,j0,j1,j2,j3,j4,j5]) rfl fin
theorem all {Cap:World→Prop} (hCh:ChgR Cap) (hok:∀ k t m n,okS t→okS (ftU k t m n)):∀ d,ExpR Cap d
 | 0=>fun w N mb PL es z cs x _ _ h _ _=>h.elim
 | d+1=>exp_of (exps_of (all hCh hok d)) (eachCl_of (clause_of (exps_of (all hCh hok d)))) hCh hok
theorem clause {Cap:World→Prop} (hCh:ChgR Cap) (hok:∀ k t m n,okS t→okS (ftU k t m n)) (d:Nat):ClR Cap d:=clause_of (exps_of (all hCh hok d))
theorem clauses {Cap:World→Prop} (hCh:ChgR Cap) (hok:∀ k t m n,okS t→okS (ftU k t m n)) (d:Nat):ClsR Cap d:=eachCl_of (clause hCh hok d)
end RemU
namespace RemU
def FunR (Cap:World→Prop) (d:Nat):Prop:=∀ (w:World) (N mb:Nat) (PL:Nat→Prop) (es:Array MapEntry) (z:Nat) (cs:List Value) (x:Fn'),CapK Cap N mb→Ctx Cap w N mb PL es z→HFn w PL d cs x→SizeOf.sizeOf x.clauses≤z→wtFn d x≤16777216 →
 Calls prog 118 #[RV mb,.agg cs.toArray] w (ResM w mb es fun w' u fp=>∃ cs',u=.agg cs'.toArray∧OFn w' d cs' (mapF (fT ftU) d x) fp)
def FunsR (Cap:World→Prop) (d:Nat):Prop:=∀ (w:World) (N mb:Nat) (PL:Nat→Prop) (es:Array MapEntry) (z:Nat) (v:Value) (cl:List Fn'),CapK Cap N mb→Ctx Cap w N mb PL es z→Rows w PL 3 (HFn w PL d) v cl→(∀ x ∈ cl,SizeOf.sizeOf x.clauses≤z)→wtS (wtFn d) cl≤16777216 →
 Calls prog 91 #[v,.func (.func 118) #[RV mb] #[]] w (ResM w mb es fun w' u fp=>ORows w' 59 3 (OFn w' d) u (cl.map (mapF (fT ftU) d)) fp)
def ModR (Cap:World→Prop) (d:Nat):Prop:=∀ (w:World) (N mb:Nat) (PL:Nat→Prop) (es:Array MapEntry) (z:Nat) (cs:List Value) (x:Md),CapK Cap N mb→Ctx Cap w N mb PL es z→HMd w PL d cs x→(∀ f ∈ x.funs,SizeOf.sizeOf f.clauses≤z)→wtMd d x≤16777216 →
 Calls prog 73 #[RV mb,.agg cs.toArray] w (ResM w mb es fun w' u fp=>∃ cs',u=.agg cs'.toArray∧OMd w' d cs' (mapM (fT ftU) d x) fp)
def ModsR (Cap:World→Prop) (d:Nat):Prop:=∀ (w:World) (N mb:Nat) (PL:Nat→Prop) (es:Array MapEntry) (z:Nat) (v:Value) (cl:List Md),CapK Cap N mb→Ctx Cap w N mb PL es z→Rows w PL 3 (HMd w PL d) v cl→(∀ x ∈ cl,(∀ f ∈ x.funs,SizeOf.sizeOf f.clauses≤z))→wtS (wtMd d) cl≤16777216 →
 Calls prog 47 #[v,.func (.func 73) #[RV mb] #[]] w (ResM w mb es fun w' u fp=>ORows w' 63 3 (OMd w' d) u (cl.map (mapM (fT ftU) d)) fp)
theorem fun_of {Cap:World→Prop} {d:Nat} (hCl:ClsR Cap d):FunR Cap d:=by
 intro w N mb PL es z cs x hC hc hr hz hw;have HCK:=hid hC;have HC:=hid hc;obtain ⟨cv,rfl,o1,o2,hcl⟩:=hr;obtain ⟨t0,a0,cls⟩:=x;simp only at *;have hw':wtFn d ⟨t0,a0,cls⟩=t0.size+wtS (wtCl (wtEx d)) cls:=rfl;have HOK:Hid (okS t0∧okI a0):=⟨o1,o2⟩;have HCS:=hid hcl;have HZ2:=hid hz;have HW2:Hid (wtS (wtCl (wtEx d)) cls≤16777216):=(by show _≤_;omega);obtain ⟨p1,c1,rfl,hl1,hm1,-⟩:=hcl;generalize hn1:cls.length=n1 at *;have HL1:=hid hn1;obtain ⟨W3,hW3⟩:∃ W3,W3=((w.alloc (.cells #[.func (.func 72) #[] #[],.map (some mb)] 73)).alloc (.cells #[.string t0,.int .i64 a0,.slice p1 n1 c1] 59)).alloc (.cells #[.string ⟨#[]⟩,.int .i64 0,.slice none 0 0] 59):=⟨_,rfl⟩;have HW3:=hid hW3;have B3:Hid (Bz w W3):=(by show Below _ _ _;rw [hW3];exact (((sqN _ _)).alloc (by simp) _).alloc (by simp only [alloc_hs];omega) _);have b3:Hid (Blk W3 w.heap.size #[.func (.func 72) #[] #[],.map (some mb)] 73):=(by show Blk _ _ _ _;rw [hW3];exact Blk.new.alloc.alloc)
 have e3:Hid (Blk W3 (w.heap.size+1) #[.string t0,.int .i64 a0,.slice p1 n1 c1] 59):=by
  have:=Blk.new (w:=w.alloc (.cells #[.func (.func 72) #[] #[],.map (some mb)] 73)) (cs:=#[.string t0,.int .i64 a0,.slice p1 n1 c1]) (t:=59);rw [alloc_hs] at this;show Blk _ _ _ _;rw [hW3];exact this.alloc
 have r3:Hid (Blk W3 (w.heap.size+2) #[.string ⟨#[]⟩,.int .i64 0,.slice none 0 0] 59):=by
  have:=Blk.new (w:=(w.alloc (.cells #[.func (.func 72) #[] #[],.map (some mb)] 73)).alloc (.cells #[.string t0,.int .i64 a0,.slice p1 n1 c1] 59)) (cs:=#[.string ⟨#[]⟩,.int .i64 0,.slice none 0 0]) (t:=59);rw [alloc_hs,alloc_hs] at this;show Blk _ _ _ _;rw [hW3];exact this
 have S3:Hid (W3.heap.size=w.heap.size+3):=(by show _=_;rw [hW3,alloc_hs,alloc_hs,alloc_hs]);have C3:=hid (HC.out.next HCK.out B3.out (sqR _));have P3:=hid (HCS.out.mono (sqO B3.out) (fun _ h=>h) (fun _ _ _ h=>h.mono (sqO B3.out) (fun _ h=>h) (fun _ _ h=>h.mono (sqO B3.out) (fun _ h=>h))));have hml:=HC.out.mlt;have hmN:=HC.out.lt;have hNw:=HC.out.le;unfold ClsR RV at hCl;unfold RV;obtain ⟨y0,y1⟩:=sqB2 b3.out;obtain ⟨x0,x1,x2⟩:=sqB3 e3.out;clear hW3 hC hc hz hw hw' hn1 o1 o2;go_enter func118,ntmps118;go_wp2_with fail;rw [← HW3.out];refine (hCl _ N mb PL es z _ cls HCK.out C3.out P3.out HZ2.out HW2.out).mono ?_;rintro e w4 ⟨u4,fp,rfl,ho4,hnd4,hrg4,hb4,hmm4⟩;obtain ⟨pu4,cu4,hu4,hcl4,hcm4⟩:=ho4.shape;rw [List.length_map,HL1.out] at hu4;subst hu4;have HO4:=hid ho4;have ND4:Hid (fp.Nodup∧∀ a ∈ fp,W3.heap.size≤a∧a<w4.heap.size):=⟨hnd4,hrg4⟩;have K4:=hid hb4;have g3:=S3.out;have g4:=hb4.size;have MS4:=hid hmm4;have e4:=hid (hb4.blk e3.out e3.out.lt (by omega));have r4:=hid (hb4.blk r3.out r3.out.lt (by omega));have f9:=e4.out.frozen 2;obtain ⟨f0,f1,f2⟩:=sqF3 r4.out;obtain ⟨v0,v1,v2⟩:=sqB3 e4.out;obtain ⟨s0,s1,s2⟩:=sqB3 r4.out;clear ho4 hnd4 hrg4 hb4 hmm4 hcl4 hcm4 y0 y1 x0 x1 x2;go_wp2_with fail;obtain ⟨W7,hW7⟩:∃ W7,W7=(((w4.setCell ⟨w.heap.size+1,2,none⟩ (.slice pu4 n1 cu4)).setCell ⟨w.heap.size+2,0,none⟩ (.string t0)).setCell ⟨w.heap.size+2,1,none⟩ (.int .i64 a0)).setCell ⟨w.heap.size+2,2,none⟩ (.slice pu4 n1 cu4):=⟨_,rfl⟩;have bz:Blk W7 (w.heap.size+2) #[.string t0,.int .i64 a0,.slice pu4 n1 cu4] 59:=(by rw [hW7];exact (((r4.out.other (by show w.heap.size+2≠w.heap.size+1;omega)).same rfl).same rfl).same rfl)
 have K7:Below (w.heap.size+1) w4 W7:=by
  rw [hW7];exact ((((Below.refl _ w4).setCell (by show w.heap.size+1≤w.heap.size+1;omega) _).setCell (by show w.heap.size+1≤w.heap.size+2;omega) _).setCell (by show w.heap.size+1≤w.heap.size+2;omega) _).setCell (by show w.heap.size+1≤w.heap.size+2;omega) _
 have o7:∀ a,w.heap.size+3≤a→W7.heap[a]?=w4.heap[a]?:=fun a ha=>by
  rw [hW7,Below.heap_setCell _ _ _ _ (by show a≠w.heap.size+2;omega),Below.heap_setCell _ _ _ _ (by show a≠w.heap.size+2;omega),Below.heap_setCell _ _ _ _ (by show a≠w.heap.size+2;omega),Below.heap_setCell _ _ _ _ (by show a≠w.heap.size+1;omega)]
 have s7:=K7.size;obtain ⟨j0,j1,j2⟩:=sqB3 bz
 have o4:ORows W7 46 2 (OCl W7 (OEx W7 d)) (.slice pu4 n1 cu4) (cls.map (mapC (fT ftU) d)) fp:=by
  have kk:KeepOn fp w4 W7:=fun a ha=>by
   have h:=ND4.out.2 a ha;exact o7 a (by omega)
  exact HO4.out.keep kk (fun cs x f _ hs h=>OCls.keep h (kk.sub hs))
 have rg:∀ a ∈ fp,w.heap.size≤a∧a<W7.heap.size:=fun a ha=>by
  have h:=ND4.out.2 a ha;omega
 have of:OffB mb w.heap.size w W7:=(OffB.of_below B3.out).trans ((K4.out.mono (by omega)).trans (OffB.of_below (K7.mono (by omega))));have ms:MapSt W7 mb es:=MS4.out.keep (K7.block mb (by omega))
 have fin:ResM w mb es (fun w' u fp=>∃ cs',u=.agg cs'.toArray∧OFn w' d cs' (mapF (fT ftU) d ⟨t0,a0,cls⟩) fp) (.returned (.agg #[.string t0,.int .i64 a0,.slice pu4 n1 cu4])) W7 :=
  ⟨_,fp,rfl,⟨[.string t0,.int .i64 a0,.slice pu4 n1 cu4],rfl,⟨_,rfl,HOK.out.1,HOK.out.2,o4⟩⟩,ND4.out.1,rg,of,ms⟩
 rw [hW7] at fin j0 j1 j2;exact bodyPost_ret (v:=.agg #[.string t0,.int .i64 a0,.slice pu4 n1 cu4]) (by simp [results,results118,go_sem,j0,j1,j2]) rfl fin
theorem fillFun_of {Cap:World→Prop} {d:Nat} (hE:FunR Cap d) (w0 w:World) (G n N mb:Nat) (PL:Nat→Prop) (es:Array MapEntry) (z:Nat) (v:Value) (xs:List Fn') (M:List Value) (hC:CapK Cap N mb)
 (hM:MadeB mb w0 w G n 59 3 (fun w=>OFn w d) (xs.map (mapF (fT ftU) d)) 0 M []) (hc:Ctx Cap w N mb PL es z) (hr:Rows w PL 3 (HFn w PL d) v xs) (hn:xs.length=n) (hz:∀ x ∈ xs,SizeOf.sizeOf x.clauses≤z) (hw:wtS (wtFn d) xs≤16777216) (hNG:N≤G) :
 Calls prog 135 #[.slice (some ⟨G,0,none⟩) n n,v,.func (.func 118) #[RV mb] #[]] w fun e w'=>e=.returned (.tuple #[])∧(∃ ys fps,MadeB mb w0 w' G n 59 3 (fun w=>OFn w d) (xs.map (mapF (fT ftU) d)) n ys fps)∧MapSt w' mb es∧Off [mb,G] w w':=by
 obtain ⟨p,cap,rfl,hcl,hcm,hx⟩:=hr;rw [hn] at hcl ⊢;have HN:=hid hn;have HX:=hid hx;have HM0:=hid hM;have HC:=hid hc;have HCK:=hid hC;have HZ:=hid hz;have HWT:=hid hw;have hnb:n≤16777216:=(by unfold wtS at hw;omega);have HNG:=hid hNG;clear hx hn hM hc hC hz hw hNG;unfold RV;go_enter func135,ntmps135;go_wp2_with fail
 go_loopw [10] (fun iv wr=>∃ (k:Nat) (ys:List Value) (fps:List (List Nat)),k≤n∧iv=.int .i64 k∧Hid (MadeB mb w0 wr G n 59 3 (fun w=>OFn w d) (xs.map (mapF (fT ftU) d)) k ys fps)∧Hid (MapSt wr mb es)∧Hid (Off [mb,G] w wr)) (fun iv _=>n - (intOf iv).toNat)
 case atStart=>exact ⟨0,M,[],Nat.zero_le _,rfl,HM0.out,HC.out.mp,Off.refl _ _⟩
 case round =>
  obtain ⟨k,ys,fps,hk,rfl,HM,HMS,HOG⟩:=hrel;have HOF:=hid (offB_of_off HOG.out HNG.out HC.out.le);by_cases hlt:k<n
  · obtain ⟨x,hxk⟩:=sqA (l:=xs) (k:=k) HN.out hlt
    obtain ⟨g,off,rfl,hg,hgl,hat⟩:=HX.out (sqE hxk);obtain ⟨cs,hcl6,hcs,hex⟩:=hat k x hxk;have hgP:=HC.out.pl g hg;have HXR:=hid (hex.mono (HC.out.same HOF.out (sqR _)) (fun _ h=>h));obtain ⟨tt,tk,r1,m1,s1,rfl⟩:=HFn.shapeR hex;obtain ⟨a0,a1,a2⟩:=sqC3 hcs (by omega);rw [← HOF.out.cellAt (p:=⟨g,_,none⟩) hgP.1 hgP.2.1] at a0 a1 a2;clear hcs hat;simp at a0 a1 a2;have hki:(k:Int)<(n:Int):=(by omega);have hk0:=sqI k
    have HWX:Hid (wtFn d x≤16777216):=by
     show _≤_;have h1:=HWT.out;have h2:=sum_take_succ (wtFn d) xs k x hxk;have h3:=sum_take_le (wtFn d) xs (k+1);unfold wtS at h1;omega
    have HZX:=hid (HZ.out x (List.mem_of_getElem? hxk));have HYK:Hid ((xs.map (mapF (fT ftU) d))[k]?=some (mapF (fT ftU) d x)):=(by show _=_;rw [List.getElem?_map,hxk];rfl);obtain ⟨W5,hW5⟩:∃ W5,W5=wr.alloc (.cells #[.string tt,.int .i64 tk,.slice r1 m1 s1] 59):=⟨_,rfl⟩;have K5:Hid (Bz wr W5):=(by show Below _ _ _;rw [hW5];exact (sqN _ _));have HW5:=hid hW5;have CR:=hid (HC.out.off HCK.out HOF.out (sqR _) HMS.out (sqR _));have C5:=hid (CR.out.next HCK.out K5.out (sqR _));have X5:=hid (HXR.out.mono (CR.out.same (OffB.of_below (b:=mb) K5.out) CR.out.le) (fun _ h=>h));clear hW5 hex hcl6;go_wp2_with fail;rw [← HW5.out];refine (hE W5 N mb PL es z _ x HCK.out C5.out X5.out HZX.out HWX.out).mono ?_;rintro e w1 ⟨u,fp,rfl,⟨cs',rfl,hx1⟩,hnd,hrg,hb1,hm1⟩;obtain ⟨sx,sk,p1,n1,q1,hsh⟩:=hx1.shape;subst hsh;have K6:Hid (OffB mb wr.heap.size wr w1):=(OffB.of_below K5.out).trans (hb1.mono K5.out.size);have HX1:=hid hx1;have HND:Hid fp.Nodup:=hnd;have HRG:Hid (∀ a ∈ fp,wr.heap.size≤a∧a<w1.heap.size):=fun a ha=>⟨Nat.le_trans K5.out.size (hrg a ha).1,(hrg a ha).2⟩;have HM1:=hid hm1;have hGl:=HM.out.sz;have hGm:=HM.out.lt;have o1:w1.ownsRow G 59 3 (.slice (some ⟨G,0,none⟩) n n) n ys:=ownsG_blk HM.out.own (K6.out.block G (by omega) (by omega));have HO1:=hid o1;have f0:=o1.frozenAt (k * 3);obtain ⟨y0,g0⟩:=own_someR o1 (k * 3) (by omega);have f1:=o1.frozenAt (k * 3+1);obtain ⟨y1,g1⟩:=own_someR o1 (k * 3+1) (by omega);have f2:=o1.frozenAt (k * 3+2);obtain ⟨y2,g2⟩:=own_someR o1 (k * 3+2) (by omega);clear o1 hb1 hx1 hnd hrg hm1 hGl hGm a0 a1 a2;go_wp2_with fail;have sd:=stored3 HO1.out (k * 3) (.string sx) (.int .i64 sk) (.slice p1 n1 q1);have hlen:ys.length=n * 3:=HO1.out.1;have HMN:=MadeB.step (O:=fun w=>OFn w d) (c:=3) (fun w w' cs x f h hk=>OFn.keep h hk) HM.out HYK.out K6.out HX1.out HND.out HRG.out rfl sd.1 sd.2 (fun m hm=>set3_other hm) (fun j hj=>set3_self (by omega) j hj);refine ⟨⟨k+1,_,_,by omega,by go_num,HMN,HM1.out.keep (sd.2.block mb (by have:=CR.out.mlt;have:=K6.out.size;omega) (by have:=HM.out.lt;simp;omega)),HOG.out.trans ((off_of_offB K6.out).trans (Off.of_grown sd.2 (by simp)))⟩,by simp [intOf];omega⟩
  · obtain rfl:k=n:=by omega
    go_wp2_with fail;go_end0;exact ⟨rfl,⟨_,_,HM.out⟩,HMS.out,HOG.out⟩
theorem eachFun_of {Cap:World→Prop} {d:Nat} (hE:FunR Cap d):FunsR Cap d:=by
 intro w N mb PL es z v cl hC hc hr hz hw;have HCK:=hid hC;have HC:=hid hc;have HR:=hid hr;have HZ:=hid hz;have HWT:=hid hw;obtain ⟨p,cap,rfl,hcl,hcm,hx⟩:=hr;have hnb:cl.length≤16777216:=(by unfold wtS at hw;omega);clear hC hc hz hw hx;unfold RV
 cases p with
 | none =>
  obtain rfl:=rows_nil_of_none HR.out;go_enter func91,ntmps91;go_wp2_with fail;refine (blankFun_nil _ _).mono ?_;rintro e w2 ⟨rfl,rfl⟩;go_wp2_with fail;refine (fillFun_nil _ _ _ _ _ _).mono ?_;rintro e w3 ⟨rfl,rfl⟩;go_wp2_with fail;go_ret;exact ⟨_,[],rfl,orows_nil none 0 (Nat.zero_le _),by simp,by simp,OffB.refl _ _ _,HC.out.mp⟩
 | some a =>
  generalize hn:cl.length=n at *;have HN:=hid hn;clear hn;go_enter func91,ntmps91;go_wp2_with fail;refine (blankFun_some _ a n cap hnb).mono ?_;rintro e w2 ⟨rfl,M,hM,hw2⟩;have K2:Hid (Bz w w2):=(by show Below _ _ _;rw [hw2];exact (sqN _ _))
  have HM0:Hid (MadeB mb w w2 w.heap.size n 59 3 (fun w=>OFn w d) (cl.map (mapF (fT ftU) d)) 0 M.toList []):=by
   show MadeB _ _ _ _ _ _ _ _ _ _ _ _;rw [hw2];exact MadeB.start hM (by unfold maxLen;omega) HC.out.mlt
  have C2:=hid (HC.out.next HCK.out K2.out (sqR _));have R2:=hid (HR.out.mono (sqO K2.out) (fun _ h=>h) (fun _ _ _ h=>h.mono (sqO K2.out) (fun _ h=>h)));have CFL:=fillFun_of hE w w2 w.heap.size n N mb PL es z (.slice (some a) n cap) cl M.toList HCK.out HM0.out C2.out R2.out HN.out HZ.out HWT.out HC.out.le;unfold RV at CFL;have HCF:=hid CFL;clear CFL hw2 hM;go_wp2_with fail;refine HCF.out.mono ?_;rintro e w3 ⟨rfl,⟨ys,fps,hM3⟩,hm3,hof3⟩;obtain ⟨fp,r1,r2,r3⟩:=hM3.done (show (cl.map (mapF (fT ftU) d)).length=n by rw [List.length_map];exact HN.out) (by unfold maxLen;omega);have R1:=hid r1;have RR:Hid (fp.Nodup∧∀ a ∈ fp,w.heap.size≤a∧a<w3.heap.size):=⟨r2,r3⟩;have O3:=hid hM3.off;have M3:=hid hm3;clear hM3 hm3 hof3 r1 r2 r3;go_wp2_with fail;go_ret;exact ⟨_,fp,rfl,R1.out,RR.out.1,RR.out.2,O3.out,M3.out⟩
theorem mod_of {Cap:World→Prop} {d:Nat} (hF:FunsR Cap d):ModR Cap d:=by
 intro w N mb PL es z cs x hC hc hr hz hw;have HCK:=hid hC;have HC:=hid hc;obtain ⟨ev,fv,rfl,o1,hev,hfv⟩:=hr;obtain ⟨t0,rs,fs⟩:=x;simp only at *;have hw':wtMd d ⟨t0,rs,fs⟩=t0.size+wtS wtRf rs+wtS (wtFn d) fs:=rfl;have HOK:=hid o1;have HRS:=hid hev;have HFS:=hid hfv;have HZ2:=hid hz;have HW1:Hid (rs.length≤16777216):=(by show _≤_;unfold wtS at hw';omega);have HW2:Hid (wtS (wtFn d) fs≤16777216):=(by show _≤_;omega);obtain ⟨p1,c1,rfl,-⟩:=hev;obtain ⟨p2,c2,rfl,-⟩:=hfv;generalize hn1:rs.length=n1 at *;generalize hn2:fs.length=n2 at *;have HL1:=hid hn1;have HL2:=hid hn2;obtain ⟨W3,hW3⟩:∃ W3,W3=((w.alloc (.cells #[.func (.func 72) #[] #[],.map (some mb)] 73)).alloc (.cells #[.string t0,.slice p1 n1 c1,.slice p2 n2 c2] 63)).alloc (.cells #[.string ⟨#[]⟩,.slice none 0 0,.slice none 0 0] 63):=⟨_,rfl⟩;have HW3:=hid hW3;have B3:Hid (Bz w W3):=(by show Below _ _ _;rw [hW3];exact (((sqN _ _)).alloc (by simp) _).alloc (by simp only [alloc_hs];omega) _);have b3:Hid (Blk W3 w.heap.size #[.func (.func 72) #[] #[],.map (some mb)] 73):=(by show Blk _ _ _ _;rw [hW3];exact Blk.new.alloc.alloc)
 have e3:Hid (Blk W3 (w.heap.size+1) #[.string t0,.slice p1 n1 c1,.slice p2 n2 c2] 63):=by
  have:=Blk.new (w:=w.alloc (.cells #[.func (.func 72) #[] #[],.map (some mb)] 73)) (cs:=#[.string t0,.slice p1 n1 c1,.slice p2 n2 c2]) (t:=63);rw [alloc_hs] at this;show Blk _ _ _ _;rw [hW3];exact this.alloc
 have r3:Hid (Blk W3 (w.heap.size+2) #[.string ⟨#[]⟩,.slice none 0 0,.slice none 0 0] 63):=by
  have:=Blk.new (w:=(w.alloc (.cells #[.func (.func 72) #[] #[],.map (some mb)] 73)).alloc (.cells #[.string t0,.slice p1 n1 c1,.slice p2 n2 c2] 63)) (cs:=#[.string ⟨#[]⟩,.slice none 0 0,.slice none 0 0]) (t:=63);rw [alloc_hs,alloc_hs] at this;show Blk _ _ _ _;rw [hW3];exact this
 have S3:Hid (W3.heap.size=w.heap.size+3):=(by show _=_;rw [hW3,alloc_hs,alloc_hs,alloc_hs]);have C3:=hid (HC.out.next HCK.out B3.out (sqR _));have P3:=hid (HRS.out.mono (sqO B3.out) (fun _ h=>h) (fun _ _ _ h=>h));have hml:=HC.out.mlt;have hmN:=HC.out.lt;have hNw:=HC.out.le
 have HPL:Hid (∀ g,PL g→g<W3.heap.size):=fun g hg=>by have:=(C3.out.pl g hg).1;have:=C3.out.le;omega
 unfold FunsR RV at hF;unfold RV;obtain ⟨y0,y1⟩:=sqB2 b3.out;obtain ⟨x0,x1,x2⟩:=sqB3 e3.out;clear hW3 hC hc hz hw hw' hn1 hn2 o1;go_enter func73,ntmps73;go_wp2_with fail;rw [← HW3.out];refine (eachRef_any d W3 PL _ rs P3.out HPL.out (by rw [HL1.out];exact HW1.out)).mono ?_;rintro e w4 ⟨u4,fp,rfl,ho4,hnd4,hrg4,hb4⟩;obtain ⟨pu4,cu4,hu4,hcl4,hcm4⟩:=ho4.shape;rw [HL1.out] at hu4;subst hu4;have HO4:=hid ho4;have ND4:Hid (fp.Nodup∧∀ a ∈ fp,W3.heap.size≤a∧a<w4.heap.size):=⟨hnd4,hrg4⟩;have K4:=hid hb4;have g3:=S3.out;have g4:=hb4.size;have b4:=hid (b3.out.next hb4);have e4:=hid (e3.out.next hb4);have r4:=hid (r3.out.next hb4);have ff:=e4.out.frozen 1;obtain ⟨v0,v1,v2⟩:=sqB3 e4.out;obtain ⟨s0,s1⟩:=sqB2 b4.out;clear ho4 hnd4 hrg4 hb4 hcl4 hcm4 y0 y1 x0 x1 x2;go_wp2_with fail;obtain ⟨V4,hV4⟩:∃ V4,V4=w4.setCell ⟨w.heap.size+1,1,none⟩ (.slice pu4 n1 cu4):=⟨_,rfl⟩;rw [← hV4]
 have q4:∀ a,a≠w.heap.size+1→V4.heap[a]?=w4.heap[a]?:=fun a ha=>by rw [hV4];exact Below.heap_setCell _ _ _ _ ha
 have OV4:Hid (OffB mb (w.heap.size+1) w4 V4):=(by show OffB _ _ _ _;rw [hV4];exact (OffB.refl _ _ _).setCell (by show _≤w.heap.size+1;exact Nat.le_refl _) _);have Q4:=hid q4;have sV4:V4.heap.size=w4.heap.size:=(by rw [hV4];simp [World.setCell]);have E4:Hid (Blk V4 (w.heap.size+1) #[.string t0,.slice pu4 n1 cu4,.slice p2 n2 c2] 63):=(by show Blk _ _ _ _;rw [hV4];exact e4.out.same rfl);have R4:Hid (Blk V4 (w.heap.size+2) #[.string ⟨#[]⟩,.slice none 0 0,.slice none 0 0] 63):=(q4 _ (by omega)).trans r4.out;have O4:Hid (OffB mb w.heap.size w V4):=(OffB.of_below B3.out).trans ((OffB.of_below (K4.out.mono (by omega))).trans (OV4.out.mono (by omega)));have C4:=hid (HC.out.off HCK.out O4.out HC.out.le (HC.out.mp.keep ((q4 mb (by omega)).trans ((K4.out.block mb (by omega)).trans (B3.out.block mb hml)))) (sqR _));have T4:=hid (HFS.out.mono (HC.out.same O4.out HC.out.le) (fun _ h=>h) (fun _ _ _ h=>h.mono (HC.out.same O4.out HC.out.le) (fun _ h=>h)));clear hV4 q4 v0 v1 v2 s0 s1 ff;refine (hF _ N mb PL es z _ fs HCK.out C4.out T4.out HZ2.out HW2.out).mono ?_;rintro e w5 ⟨u5,fq,rfl,ho5,hnd5,hrg5,hb5,hmm5⟩;obtain ⟨pu5,cu5,hu5,hcl5,hcm5⟩:=ho5.shape;rw [List.length_map,HL2.out] at hu5;subst hu5;have HO5:=hid ho5;have ND5:Hid (fq.Nodup∧∀ a ∈ fq,w4.heap.size≤a∧a<w5.heap.size):=⟨hnd5,fun a ha=>⟨by have:=(hrg5 a ha).1;omega,(hrg5 a ha).2⟩⟩;have K5:=hid hb5;have g5:=hb5.size;have MS5:=hid hmm5;have e5:=hid (hb5.blk E4.out E4.out.lt (by omega));have r5:=hid (hb5.blk R4.out R4.out.lt (by omega));have f9:=e5.out.frozen 2;obtain ⟨f0,f1,f2⟩:=sqF3 r5.out;obtain ⟨v0,v1,v2⟩:=sqB3 e5.out;obtain ⟨s0,s1,s2⟩:=sqB3 r5.out;clear ho5 hnd5 hrg5 hb5 hmm5 hcl5 hcm5;go_wp2_with fail;obtain ⟨W7,hW7⟩:∃ W7,W7=(((w5.setCell ⟨w.heap.size+1,2,none⟩ (.slice pu5 n2 cu5)).setCell ⟨w.heap.size+2,0,none⟩ (.string t0)).setCell ⟨w.heap.size+2,1,none⟩ (.slice pu4 n1 cu4)).setCell ⟨w.heap.size+2,2,none⟩ (.slice pu5 n2 cu5):=⟨_,rfl⟩;have bz:Blk W7 (w.heap.size+2) #[.string t0,.slice pu4 n1 cu4,.slice pu5 n2 cu5] 63:=(by rw [hW7];exact (((r5.out.other (by show w.heap.size+2≠w.heap.size+1;omega)).same rfl).same rfl).same rfl)
 have K7:Below (w.heap.size+1) w5 W7:=by
  rw [hW7];exact ((((Below.refl _ w5).setCell (by show w.heap.size+1≤w.heap.size+1;omega) _).setCell (by show w.heap.size+1≤w.heap.size+2;omega) _).setCell (by show w.heap.size+1≤w.heap.size+2;omega) _).setCell (by show w.heap.size+1≤w.heap.size+2;omega) _
 have o7:∀ a,w.heap.size+3≤a→W7.heap[a]?=w5.heap[a]?:=fun a ha=>by
  rw [hW7,Below.heap_setCell _ _ _ _ (by show a≠w.heap.size+2;omega),Below.heap_setCell _ _ _ _ (by show a≠w.heap.size+2;omega),Below.heap_setCell _ _ _ _ (by show a≠w.heap.size+2;omega),Below.heap_setCell _ _ _ _ (by show a≠w.heap.size+1;omega)]
 have s7:=K7.size;obtain ⟨j0,j1,j2⟩:=sqB3 bz
 have o4:ORows W7 84 2 (ORf W7 d) (.slice pu4 n1 cu4) rs fp:=by
  have kk:KeepOn fp w4 W7:=fun a ha=>by
   have h:=ND4.out.2 a ha;exact (o7 a (by omega)).trans ((K5.out.block a (by omega) (by omega)).trans (Q4.out a (by omega)))
  exact HO4.out.keep kk (fun cs x f _ hs h=>h)
 have o5:ORows W7 59 3 (OFn W7 d) (.slice pu5 n2 cu5) (fs.map (mapF (fT ftU) d)) fq:=by
  have kk:KeepOn fq w5 W7:=fun a ha=>by
   have h:=ND5.out.2 a ha;exact o7 a (by omega)
  exact HO5.out.keep kk (fun cs x f _ hs h=>h.keep (kk.sub hs))
 have nd:(fp ++ fq).Nodup:=by
  rw [List.nodup_append];refine ⟨ND4.out.1,ND5.out.1,fun a ha b hb=>?_⟩;have h:=ND4.out.2 a ha;have h':=ND5.out.2 b hb;omega
 have rg:∀ a ∈ fp ++ fq,w.heap.size≤a∧a<W7.heap.size:=fun a ha=>by
  rcases List.mem_append.1 ha with ha | ha
  · have h:=ND4.out.2 a ha;omega
  · have h:=ND5.out.2 a ha;omega
 have of:OffB mb w.heap.size w W7:=O4.out.trans ((K5.out.mono (by omega)).trans (OffB.of_below (K7.mono (by omega))));have ms:MapSt W7 mb es:=MS5.out.keep (K7.block mb (by omega))
 have fin:ResM w mb es (fun w' u fp=>∃ cs',u=.agg cs'.toArray∧OMd w' d cs' (mapM (fT ftU) d ⟨t0,rs,fs⟩) fp) (.returned (.agg #[.string t0,.slice pu4 n1 cu4,.slice pu5 n2 cu5])) W7 :=
  ⟨_,fp ++ fq,rfl,⟨[.string t0,.slice pu4 n1 cu4,.slice pu5 n2 cu5],rfl,⟨_,_,fp,fq,rfl,rfl,HOK.out,o4,o5⟩⟩,nd,rg,of,ms⟩
 rw [hW7] at fin j0 j1 j2;exact bodyPost_ret (v:=.agg #[.string t0,.slice pu4 n1 cu4,.slice pu5 n2 cu5]) (by simp [results,results73,go_sem,j0,j1,j2]) rfl fin
theorem fillModule_of {Cap:World→Prop} {d:Nat} (hE:ModR Cap d) (w0 w:World) (G n N mb:Nat) (PL:Nat→Prop) (es:Array MapEntry) (z:Nat) (v:Value) (xs:List Md) (M:List Value) (hC:CapK Cap N mb)
 (hM:MadeB mb w0 w G n 63 3 (fun w=>OMd w d) (xs.map (mapM (fT ftU) d)) 0 M []) (hc:Ctx Cap w N mb PL es z) (hr:Rows w PL 3 (HMd w PL d) v xs) (hn:xs.length=n) (hz:∀ x ∈ xs,(∀ f ∈ x.funs,SizeOf.sizeOf f.clauses≤z)) (hw:wtS (wtMd d) xs≤16777216) (hNG:N≤G) :
 Calls prog 88 #[.slice (some ⟨G,0,none⟩) n n,v,.func (.func 73) #[RV mb] #[]] w fun e w'=>e=.returned (.tuple #[])∧(∃ ys fps,MadeB mb w0 w' G n 63 3 (fun w=>OMd w d) (xs.map (mapM (fT ftU) d)) n ys fps)∧MapSt w' mb es∧Off [mb,G] w w':=by
 obtain ⟨p,cap,rfl,hcl,hcm,hx⟩:=hr;rw [hn] at hcl ⊢;have HN:=hid hn;have HX:=hid hx;have HM0:=hid hM;have HC:=hid hc;have HCK:=hid hC;have HZ:=hid hz;have HWT:=hid hw;have hnb:n≤16777216:=(by unfold wtS at hw;omega);have HNG:=hid hNG;clear hx hn hM hc hC hz hw hNG;unfold RV;go_enter func88,ntmps88;go_wp2_with fail
 go_loopw [10] (fun iv wr=>∃ (k:Nat) (ys:List Value) (fps:List (List Nat)),k≤n∧iv=.int .i64 k∧Hid (MadeB mb w0 wr G n 63 3 (fun w=>OMd w d) (xs.map (mapM (fT ftU) d)) k ys fps)∧Hid (MapSt wr mb es)∧Hid (Off [mb,G] w wr)) (fun iv _=>n - (intOf iv).toNat)
 case atStart=>exact ⟨0,M,[],Nat.zero_le _,rfl,HM0.out,HC.out.mp,Off.refl _ _⟩
 case round =>
  obtain ⟨k,ys,fps,hk,rfl,HM,HMS,HOG⟩:=hrel;have HOF:=hid (offB_of_off HOG.out HNG.out HC.out.le);by_cases hlt:k<n
  · obtain ⟨x,hxk⟩:=sqA (l:=xs) (k:=k) HN.out hlt
    obtain ⟨g,off,rfl,hg,hgl,hat⟩:=HX.out (sqE hxk);obtain ⟨cs,hcl6,hcs,hex⟩:=hat k x hxk;have hgP:=HC.out.pl g hg;have HXR:=hid (hex.mono (HC.out.same HOF.out (sqR _)) (fun _ h=>h));obtain ⟨tt,r1,m1,s1,r2,m2,s2,rfl⟩:=HMd.shapeR hex;obtain ⟨a0,a1,a2⟩:=sqC3 hcs (by omega);rw [← HOF.out.cellAt (p:=⟨g,_,none⟩) hgP.1 hgP.2.1] at a0 a1 a2;clear hcs hat;simp at a0 a1 a2;have hki:(k:Int)<(n:Int):=(by omega);have hk0:=sqI k
    have HWX:Hid (wtMd d x≤16777216):=by
     show _≤_;have h1:=HWT.out;have h2:=sum_take_succ (wtMd d) xs k x hxk;have h3:=sum_take_le (wtMd d) xs (k+1);unfold wtS at h1;omega
    have HZX:=hid (HZ.out x (List.mem_of_getElem? hxk));have HYK:Hid ((xs.map (mapM (fT ftU) d))[k]?=some (mapM (fT ftU) d x)):=(by show _=_;rw [List.getElem?_map,hxk];rfl);obtain ⟨W5,hW5⟩:∃ W5,W5=wr.alloc (.cells #[.string tt,.slice r1 m1 s1,.slice r2 m2 s2] 63):=⟨_,rfl⟩;have K5:Hid (Bz wr W5):=(by show Below _ _ _;rw [hW5];exact (sqN _ _));have HW5:=hid hW5;have CR:=hid (HC.out.off HCK.out HOF.out (sqR _) HMS.out (sqR _));have C5:=hid (CR.out.next HCK.out K5.out (sqR _));have X5:=hid (HXR.out.mono (CR.out.same (OffB.of_below (b:=mb) K5.out) CR.out.le) (fun _ h=>h));clear hW5 hex hcl6;go_wp2_with fail;rw [← HW5.out];refine (hE W5 N mb PL es z _ x HCK.out C5.out X5.out HZX.out HWX.out).mono ?_;rintro e w1 ⟨u,fp,rfl,⟨cs',rfl,hx1⟩,hnd,hrg,hb1,hm1⟩;obtain ⟨sx,p1,n1,q1,p2,n2,q2,hsh⟩:=hx1.shape;subst hsh;have K6:Hid (OffB mb wr.heap.size wr w1):=(OffB.of_below K5.out).trans (hb1.mono K5.out.size);have HX1:=hid hx1;have HND:Hid fp.Nodup:=hnd;have HRG:Hid (∀ a ∈ fp,wr.heap.size≤a∧a<w1.heap.size):=fun a ha=>⟨Nat.le_trans K5.out.size (hrg a ha).1,(hrg a ha).2⟩;have HM1:=hid hm1;have hGl:=HM.out.sz;have hGm:=HM.out.lt;have o1:w1.ownsRow G 63 3 (.slice (some ⟨G,0,none⟩) n n) n ys:=ownsG_blk HM.out.own (K6.out.block G (by omega) (by omega));have HO1:=hid o1;have f0:=o1.frozenAt (k * 3);obtain ⟨y0,g0⟩:=own_someR o1 (k * 3) (by omega);have f1:=o1.frozenAt (k * 3+1);obtain ⟨y1,g1⟩:=own_someR o1 (k * 3+1) (by omega);have f2:=o1.frozenAt (k * 3+2);obtain ⟨y2,g2⟩:=own_someR o1 (k * 3+2) (by omega);clear o1 hb1 hx1 hnd hrg hm1 hGl hGm a0 a1 a2;go_wp2_with fail;have sd:=stored3 HO1.out (k * 3) (.string sx) (.slice p1 n1 q1) (.slice p2 n2 q2);have hlen:ys.length=n * 3:=HO1.out.1;have HMN:=MadeB.step (O:=fun w=>OMd w d) (c:=3) (fun w w' cs x f h hk=>OMd.keep h hk) HM.out HYK.out K6.out HX1.out HND.out HRG.out rfl sd.1 sd.2 (fun m hm=>set3_other hm) (fun j hj=>set3_self (by omega) j hj);refine ⟨⟨k+1,_,_,by omega,by go_num,HMN,HM1.out.keep (sd.2.block mb (by have:=CR.out.mlt;have:=K6.out.size;omega) (by have:=HM.out.lt;simp;omega)),HOG.out.trans ((off_of_offB K6.out).trans (Off.of_grown sd.2 (by simp)))⟩,by simp [intOf];omega⟩
  · obtain rfl:k=n:=by omega
    go_wp2_with fail;go_end0;exact ⟨rfl,⟨_,_,HM.out⟩,HMS.out,HOG.out⟩
theorem eachModule_of {Cap:World→Prop} {d:Nat} (hE:ModR Cap d):ModsR Cap d:=by
 intro w N mb PL es z v cl hC hc hr hz hw;have HCK:=hid hC;have HC:=hid hc;have HR:=hid hr;have HZ:=hid hz;have HWT:=hid hw;obtain ⟨p,cap,rfl,hcl,hcm,hx⟩:=hr;have hnb:cl.length≤16777216:=(by unfold wtS at hw;omega);clear hC hc hz hw hx;unfold RV
 cases p with
 | none =>
  obtain rfl:=rows_nil_of_none HR.out;go_enter func47,ntmps47;go_wp2_with fail;refine (blankModule_nil _ _).mono ?_;rintro e w2 ⟨rfl,rfl⟩;go_wp2_with fail;refine (fillModule_nil _ _ _ _ _ _).mono ?_;rintro e w3 ⟨rfl,rfl⟩;go_wp2_with fail;go_ret;exact ⟨_,[],rfl,orows_nil none 0 (Nat.zero_le _),by simp,by simp,OffB.refl _ _ _,HC.out.mp⟩
 | some a =>
  generalize hn:cl.length=n at *;have HN:=hid hn;clear hn;go_enter func47,ntmps47;go_wp2_with fail;refine (blankModule_some _ a n cap hnb).mono ?_;rintro e w2 ⟨rfl,M,hM,hw2⟩;have K2:Hid (Bz w w2):=(by show Below _ _ _;rw [hw2];exact (sqN _ _))
  have HM0:Hid (MadeB mb w w2 w.heap.size n 63 3 (fun w=>OMd w d) (cl.map (mapM (fT ftU) d)) 0 M.toList []):=by
   show MadeB _ _ _ _ _ _ _ _ _ _ _ _;rw [hw2];exact MadeB.start hM (by unfold maxLen;omega) HC.out.mlt
  have C2:=hid (HC.out.next HCK.out K2.out (sqR _));have R2:=hid (HR.out.mono (sqO K2.out) (fun _ h=>h) (fun _ _ _ h=>h.mono (sqO K2.out) (fun _ h=>h)));have CFL:=fillModule_of hE w w2 w.heap.size n N mb PL es z (.slice (some a) n cap) cl M.toList HCK.out HM0.out C2.out R2.out HN.out HZ.out HWT.out HC.out.le;unfold RV at CFL;have HCF:=hid CFL;clear CFL hw2 hM;go_wp2_with fail;refine HCF.out.mono ?_;rintro e w3 ⟨rfl,⟨ys,fps,hM3⟩,hm3,hof3⟩;obtain ⟨fp,r1,r2,r3⟩:=hM3.done (show (cl.map (mapM (fT ftU) d)).length=n by rw [List.length_map];exact HN.out) (by unfold maxLen;omega);have R1:=hid r1;have RR:Hid (fp.Nodup∧∀ a ∈ fp,w.heap.size≤a∧a<w3.heap.size):=⟨r2,r3⟩;have O3:=hid hM3.off;have M3:=hid hm3;clear hM3 hm3 hof3 r1 r2 r3;go_wp2_with fail;go_ret;exact ⟨_,fp,rfl,R1.out,RR.out.1,RR.out.2,O3.out,M3.out⟩
theorem mods {Cap:World→Prop} (hCh:ChgR Cap) (hok:∀ k t m n,okS t→okS (ftU k t m n)) (d:Nat):ModsR Cap d:=eachModule_of (mod_of (eachFun_of (fun_of (clauses hCh hok d))))
end RemU
theorem mkOpen (w:World):Sem.run prog (Instr.makeMap 71 none) w=.ok (.map (some w.heap.size)) (w.alloc (.map #[] 0)):=by kernel_rfl
theorem remake_any (w:World) (F:Fn) (bs cs:Array Value):Calls prog 30 #[.func F bs cs] w fun e w'=>e=.returned (.agg #[.func F bs cs,.map (some (w.heap.size+1))])∧MapSt w' (w.heap.size+1) #[]∧Bz w w'∧w'.heap.size=w.heap.size+2:=by
 obtain ⟨W1,hW1⟩:∃ W1,W1=w.alloc (.cells #[.nilFunc,.map none] 73):=⟨_,rfl⟩;have S1:W1.heap.size=w.heap.size+1:=(by rw [hW1,alloc_hs]);have r1:Blk W1 w.heap.size #[.nilFunc,.map none] 73:=(by rw [hW1];exact Blk.new);have K1:Bz w W1:=(by rw [hW1];exact (sqN _ _));have K2:Bz w (W1.alloc (.map #[] 0)):=K1.alloc K1.size _;have r2:Blk (W1.alloc (.map #[] 0)) w.heap.size #[.nilFunc,.map none] 73:=r1.alloc;have mk:=mkOpen W1;rw [S1] at mk;obtain ⟨y0,y1⟩:=sqB2 r2;obtain ⟨f0,f1⟩:=sqF2 r2;obtain ⟨W3,hW3⟩:∃ W3,W3=((W1.alloc (.map #[] 0)).setCell ⟨w.heap.size,0,none⟩ (.func F bs cs)).setCell ⟨w.heap.size,1,none⟩ (.map (some (w.heap.size+1))):=⟨_,rfl⟩;have r3:Blk W3 w.heap.size #[.func F bs cs,.map (some (w.heap.size+1))] 73:=(by rw [hW3];exact (r2.same rfl).same rfl);have K3:Hid (Bz w W3):=(by show Below _ _ _;rw [hW3];exact (K2.setCell (sqR _) _).setCell (sqR _) _)
 have M3:Hid (MapSt W3 (w.heap.size+1) #[]):=by
  refine ⟨0,?_⟩;rw [hW3,Below.heap_setCell _ _ _ _ (by show w.heap.size+1≠w.heap.size;omega),Below.heap_setCell _ _ _ _ (by show w.heap.size+1≠w.heap.size;omega),← S1];exact heap_alloc_new W1 _
 have S3:Hid (W3.heap.size=w.heap.size+2):=(by show _=_;rw [hW3];simp [World.setCell,S1]);obtain ⟨j0,j1⟩:=sqB2 r3;have HW1:=hid hW1;have HW3:=hid hW3;have J:Hid (W3.cell? ⟨w.heap.size,0,none⟩=some (.func F bs cs)∧W3.cell? ⟨w.heap.size,1,none⟩=some (.map (some (w.heap.size+1)))):=⟨j0,j1⟩
 have hst:Sem.run prog (store ⟨w.heap.size,0,none⟩ (.func F bs cs)) (W1.alloc (.map #[] 0))=.ok () ((W1.alloc (.map #[] 0)).setCell ⟨w.heap.size,0,none⟩ (.func F bs cs)):=by
  rw [run_store prog _ _ _ _ rfl];simp [y0,f0]
 clear hW1 hW3 r3 r1 K1 K2 r2 j0 j1 S1;go_enter func30,ntmps30;go_wp2_with (rw [← HW1.out]);have j0:=J.out.1;have j1:=J.out.2;rw [HW3.out] at j0 j1;have k3:=K3.out;have m3:=M3.out;have s3:=S3.out;rw [HW3.out] at k3 m3 s3;exact bodyPost_ret (v:=.agg #[.func F bs cs,.map (some (w.heap.size+1))]) (by simp [results,results30,go_sem,j0,j1]) rfl ⟨rfl,m3,k3,s3⟩
theorem chgU:RemU.ChgR (fun _=>True):=fun w k n t m p1 p2 n1 q1 n2 q2 _ _=>unchangedExp_any w k n t m p1 p2 n1 q1 n2 q2
theorem capU (N mb:Nat):CapK (fun _=>True) N mb:=fun _ _ _ _=>trivial
theorem sizes_some (ms:List Md):∃ z,∀ x ∈ ms,∀ f ∈ x.funs,SizeOf.sizeOf f.clauses≤z:=by
 induction ms with
 | nil=>exact ⟨0,fun x hx=>by simp at hx⟩
 | cons m ms ih =>
  obtain ⟨z,hz⟩:=ih
  have key:∀ fs:List Fn',∃ z',∀ f ∈ fs,SizeOf.sizeOf f.clauses≤z':=by
   intro fs
   induction fs with
   | nil=>exact ⟨0,fun f hf=>by simp at hf⟩
   | cons f fs ih =>
    obtain ⟨z',hz'⟩:=ih;refine ⟨z'+SizeOf.sizeOf f.clauses,fun g hg=>?_⟩
    rcases List.mem_cons.1 hg with rfl | hg
    · omega
    · have:=hz' g hg;omega
  obtain ⟨z',hz'⟩:=key m.funs;refine ⟨z+z',fun x hx f hf=>?_⟩
  rcases List.mem_cons.1 hx with rfl | hx
  · have:=hz' f hf;omega
  · have:=hz x hx f hf;omega
theorem copyProgram_any (d:Nat) (w:World) (PL:Nat→Prop) (v:Value) (ms:List Md) (h:Rows w PL 3 (HMd w PL d) v ms) (hP:∀ g,PL g→g<w.heap.size∧PlainAt w g) (hw:wtS (wtMd d) ms≤16777216) :
 Calls prog 28 #[v] w fun e w'=>∃ u fp,e=.returned u∧ORows w' 63 3 (OMd w' d) u ms fp∧fp.Nodup∧(∀ a ∈ fp,w.heap.size≤a∧a<w'.heap.size)∧Bz w w':=by
 obtain ⟨z,hz⟩:=sizes_some ms;have HZ:=hid hz;have HR:=hid h;have HP:=hid hP;have HW:=hid hw;have hM:=RemU.mods chgU (fun k t m n h=>h) d;unfold RemU.ModsR RemU.RV at hM;obtain ⟨p,cap,rfl,-⟩:=h;clear hz hP hw;go_enter func28,ntmps28;go_wp2_with fail;refine (remake_any w _ _ _).mono ?_;rintro e w1 ⟨rfl,hm1,hb1,hs1⟩
 have C1:Hid (Ctx (fun _=>True) w1 w1.heap.size (w.heap.size+1) PL #[] z):=by
  refine ⟨fun g hg=>?_,hm1,KeysIn.none _ _ _,by omega,Nat.le_refl _,trivial⟩;have:=HP.out g hg;obtain ⟨h1,cs,t,h2⟩:=this;exact ⟨by omega,by omega,cs,t,(hb1.block g h1).trans h2⟩
 have R1:=hid (HR.out.mono ⟨hb1.size,fun g hg hl=>hb1.block g hl⟩ (fun _ h=>h) (fun _ _ _ h=>h.mono ⟨hb1.size,fun g hg hl=>hb1.block g hl⟩ (fun _ h=>h)));have B1:=hid hb1;clear hm1 hb1;go_wp2_with fail;refine (hM w1 w1.heap.size (w.heap.size+1) PL #[] z _ ms (capU _ _) C1.out R1.out HZ.out HW.out).mono ?_;rintro e w2 ⟨u,fp,rfl,ho,hnd,hrg,hof,-⟩
 have HO:Hid (ORows w2 63 3 (OMd w2 d) u ms fp):=by
  have h:ms.map (mapM (fT ftU) d)=ms:=(by rw [fT_U];exact mapMs_id d ms);rw [h] at ho;exact ho
 have HN:Hid (fp.Nodup∧∀ a ∈ fp,w.heap.size≤a∧a<w2.heap.size):=⟨hnd,fun a ha=>⟨by have:=(hrg a ha).1;have:=B1.out.size;omega,(hrg a ha).2⟩⟩;have B2:=hid (B1.out.trans (hof.below B1.out.size (by omega)));clear ho hnd hrg hof;go_wp2_with fail;go_ret;exact ⟨u,fp,rfl,HO.out,HN.out.1,HN.out.2,B2.out⟩
namespace RemV
def RV (bf bt:Nat) (sf st:ByteArray) (mb:Nat):Value:=.agg #[.func (.func 31) #[] #[.pointer (some ⟨bf,0,none⟩),.pointer (some ⟨bt,0,none⟩)],.map (some mb)]
def ExpR (bf bt:Nat) (sf st:ByteArray) (Cap:World→Prop) (d:Nat):Prop:=∀ (w:World) (N mb:Nat) (PL:Nat→Prop) (es:Array MapEntry) (z:Nat) (cs:List Value) (x:Ex),CapK Cap N mb→Ctx Cap w N mb PL es z→HEx w PL d cs x→SizeOf.sizeOf x≤z→wtEx d x≤16777216 →
 Calls prog 121 #[RV bf bt sf st mb,.agg cs.toArray] w (ResM w mb es fun w' u fp=>∃ cs',u=.agg cs'.toArray∧OEx w' d cs' (mapX (fT (ftV sf st)) d x) fp)
def ExpsR (bf bt:Nat) (sf st:ByteArray) (Cap:World→Prop) (d:Nat):Prop:=∀ (w:World) (N mb:Nat) (PL:Nat→Prop) (es:Array MapEntry) (z:Nat) (v:Value) (xs:List Ex),CapK Cap N mb→Ctx Cap w N mb PL es z→Rows w PL 6 (HEx w PL d) v xs→SizeOf.sizeOf xs≤z→wtS (wtEx d) xs≤16777216 →
 Calls prog 76 #[RV bf bt sf st mb,v] w (ResM w mb es fun w' u fp=>ORows w' 76 6 (OEx w' d) u (xs.map (mapX (fT (ftV sf st)) d)) fp)
def ClR (bf bt:Nat) (sf st:ByteArray) (Cap:World→Prop) (d:Nat):Prop:=∀ (w:World) (N mb:Nat) (PL:Nat→Prop) (es:Array MapEntry) (z:Nat) (cs:List Value) (c:Cl),CapK Cap N mb→Ctx Cap w N mb PL es z→HCl w PL (HEx w PL d) cs c→SizeOf.sizeOf c≤z→wtCl (wtEx d) c≤16777216 →
 Calls prog 32 #[RV bf bt sf st mb,.agg cs.toArray] w (ResM w mb es fun w' u fp=>∃ cs',u=.agg cs'.toArray∧OCl w' (OEx w' d) cs' (mapC (fT (ftV sf st)) d c) fp)
def ClsR (bf bt:Nat) (sf st:ByteArray) (Cap:World→Prop) (d:Nat):Prop:=∀ (w:World) (N mb:Nat) (PL:Nat→Prop) (es:Array MapEntry) (z:Nat) (v:Value) (cl:List Cl),CapK Cap N mb→Ctx Cap w N mb PL es z→Rows w PL 2 (HCl w PL (HEx w PL d)) v cl→SizeOf.sizeOf cl≤z→wtS (wtCl (wtEx d)) cl≤16777216 →
 Calls prog 161 #[v,.func (.func 32) #[RV bf bt sf st mb] #[]] w (ResM w mb es fun w' u fp=>ORows w' 46 2 (OCl w' (OEx w' d)) u (cl.map (mapC (fT (ftV sf st)) d)) fp)
theorem fillExp_of {bf bt:Nat} {sf st:ByteArray} {Cap:World→Prop} {d:Nat} (hE:ExpR bf bt sf st Cap d) (w0 w:World) (G n N mb:Nat) (PL:Nat→Prop) (es:Array MapEntry) (z:Nat) (v:Value) (xs:List Ex) (M:List Value) (hC:CapK Cap N mb)
 (hM:MadeB mb w0 w G n 76 6 (fun w=>OEx w d) (xs.map (mapX (fT (ftV sf st)) d)) 0 M []) (hc:Ctx Cap w N mb PL es z) (hr:Rows w PL 6 (HEx w PL d) v xs) (hn:xs.length=n) (hz:∀ x ∈ xs,SizeOf.sizeOf x≤z) (hw:wtS (wtEx d) xs≤16777216) (hNG:N≤G) :
 Calls prog 120 #[.slice (some ⟨G,0,none⟩) n n,v,.func (.func 121) #[RV bf bt sf st mb] #[]] w fun e w'=>e=.returned (.tuple #[])∧(∃ ys fps,MadeB mb w0 w' G n 76 6 (fun w=>OEx w d) (xs.map (mapX (fT (ftV sf st)) d)) n ys fps)∧MapSt w' mb es∧Off [mb,G] w w':=by
 obtain ⟨p,cap,rfl,hcl,hcm,hx⟩:=hr;rw [hn] at hcl ⊢;have HN:=hid hn;have HX:=hid hx;have HM0:=hid hM;have HC:=hid hc;have HCK:=hid hC;have HZ:=hid hz;have HWT:=hid hw;have hnb:n≤16777216:=(by unfold wtS at hw;omega);have HNG:=hid hNG;clear hx hn hM hc hC hz hw hNG;unfold RV;go_enter func120,ntmps120;go_wp2_with fail
 go_loopw [10] (fun iv wr=>∃ (k:Nat) (ys:List Value) (fps:List (List Nat)),k≤n∧iv=.int .i64 k∧Hid (MadeB mb w0 wr G n 76 6 (fun w=>OEx w d) (xs.map (mapX (fT (ftV sf st)) d)) k ys fps)∧Hid (MapSt wr mb es)∧Hid (Off [mb,G] w wr)) (fun iv _=>n - (intOf iv).toNat)
 case atStart=>exact ⟨0,M,[],Nat.zero_le _,rfl,HM0.out,HC.out.mp,Off.refl _ _⟩
 case round =>
  obtain ⟨k,ys,fps,hk,rfl,HM,HMS,HOG⟩:=hrel;have HOF:=hid (offB_of_off HOG.out HNG.out HC.out.le);by_cases hlt:k<n
  · obtain ⟨x,hxk⟩:=sqA (l:=xs) (k:=k) HN.out hlt
    obtain ⟨g,off,rfl,hg,hgl,hat⟩:=HX.out (sqE hxk);obtain ⟨cs,hcl6,hcs,hex⟩:=hat k x hxk;have hgP:=HC.out.pl g hg;have HXR:=hid (hex.mono (HC.out.same HOF.out (sqR _)) (fun _ h=>h));obtain ⟨tk,tn,tt,te,r1,m1,s1,r2,m2,s2,rfl⟩:=HEx.shapeR hex;obtain ⟨a0,a1,a2,a3,a4,a5⟩:=sqC6 hcs (by omega);rw [← HOF.out.cellAt (p:=⟨g,_,none⟩) hgP.1 hgP.2.1] at a0 a1 a2 a3 a4 a5;clear hcs hat;simp at a0 a1 a2 a3 a4 a5;have hki:(k:Int)<(n:Int):=(by omega);have hk0:=sqI k
    have HWX:Hid (wtEx d x≤16777216):=by
     show _≤_;have h1:=HWT.out;have h2:=sum_take_succ (wtEx d) xs k x hxk;have h3:=sum_take_le (wtEx d) xs (k+1);unfold wtS at h1;omega
    have HZX:=hid (HZ.out x (List.mem_of_getElem? hxk));have HYK:Hid ((xs.map (mapX (fT (ftV sf st)) d))[k]?=some (mapX (fT (ftV sf st)) d x)):=(by show _=_;rw [List.getElem?_map,hxk];rfl);obtain ⟨W5,hW5⟩:∃ W5,W5=wr.alloc (.cells #[.int .i64 tk,.int .i64 tn,.string tt,.string te,.slice r1 m1 s1,.slice r2 m2 s2] 76):=⟨_,rfl⟩;have K5:Hid (Bz wr W5):=(by show Below _ _ _;rw [hW5];exact (sqN _ _));have HW5:=hid hW5;have CR:=hid (HC.out.off HCK.out HOF.out (sqR _) HMS.out (sqR _));have C5:=hid (CR.out.next HCK.out K5.out (sqR _));have X5:=hid (HXR.out.mono (CR.out.same (OffB.of_below (b:=mb) K5.out) CR.out.le) (fun _ h=>h));clear hW5 hex hcl6;go_wp2_with fail;rw [← HW5.out];refine (hE W5 N mb PL es z _ x HCK.out C5.out X5.out HZX.out HWX.out).mono ?_;rintro e w1 ⟨u,fp,rfl,⟨cs',rfl,hx1⟩,hnd,hrg,hb1,hm1⟩;obtain ⟨sk,sn,sx,se,p1,n1,q1,p2,n2,q2,hsh⟩:=hx1.shape;subst hsh;have K6:Hid (OffB mb wr.heap.size wr w1):=(OffB.of_below K5.out).trans (hb1.mono K5.out.size);have HX1:=hid hx1;have HND:Hid fp.Nodup:=hnd;have HRG:Hid (∀ a ∈ fp,wr.heap.size≤a∧a<w1.heap.size):=fun a ha=>⟨Nat.le_trans K5.out.size (hrg a ha).1,(hrg a ha).2⟩;have HM1:=hid hm1;have hGl:=HM.out.sz;have hGm:=HM.out.lt;have o1:w1.ownsRow G 76 6 (.slice (some ⟨G,0,none⟩) n n) n ys:=ownsG_blk HM.out.own (K6.out.block G (by omega) (by omega));have HO1:=hid o1;have f0:=o1.frozenAt (k * 6);obtain ⟨y0,g0⟩:=own_someR o1 (k * 6) (by omega);have f1:=o1.frozenAt (k * 6+1);obtain ⟨y1,g1⟩:=own_someR o1 (k * 6+1) (by omega);have f2:=o1.frozenAt (k * 6+2);obtain ⟨y2,g2⟩:=own_someR o1 (k * 6+2) (by omega);have f3:=o1.frozenAt (k * 6+3);obtain ⟨y3,g3⟩:=own_someR o1 (k * 6+3) (by omega);have f4:=o1.frozenAt (k * 6+4);obtain ⟨y4,g4⟩:=own_someR o1 (k * 6+4) (by omega);have f5:=o1.frozenAt (k * 6+5);obtain ⟨y5,g5⟩:=own_someR o1 (k * 6+5) (by omega);clear o1 hb1 hx1 hnd hrg hm1 hGl hGm a0 a1 a2 a3 a4 a5;go_wp2_with fail;have sd:=stored6 HO1.out (k * 6) (.int .i64 sk) (.int .i64 sn) (.string sx) (.string se) (.slice p1 n1 q1) (.slice p2 n2 q2);have hlen:ys.length=n * 6:=HO1.out.1;have HMN:=MadeB.step (O:=fun w=>OEx w d) (c:=6) (fun w w' cs x f h hk=>OEx.keep h hk) HM.out HYK.out K6.out HX1.out HND.out HRG.out rfl sd.1 sd.2 (fun m hm=>set6_other hm) (fun j hj=>set6_self (by omega) j hj);refine ⟨⟨k+1,_,_,by omega,by go_num,HMN,HM1.out.keep (sd.2.block mb (by have:=CR.out.mlt;have:=K6.out.size;omega) (by have:=HM.out.lt;simp;omega)),HOG.out.trans ((off_of_offB K6.out).trans (Off.of_grown sd.2 (by simp)))⟩,by simp [intOf];omega⟩
  · obtain rfl:k=n:=by omega
    go_wp2_with fail;go_end0;exact ⟨rfl,⟨_,_,HM.out⟩,HMS.out,HOG.out⟩
theorem fillClause_of {bf bt:Nat} {sf st:ByteArray} {Cap:World→Prop} {d:Nat} (hE:ClR bf bt sf st Cap d) (w0 w:World) (G n N mb:Nat) (PL:Nat→Prop) (es:Array MapEntry) (z:Nat) (v:Value) (xs:List Cl) (M:List Value) (hC:CapK Cap N mb)
 (hM:MadeB mb w0 w G n 46 2 (fun w=>OCl w (OEx w d)) (xs.map (mapC (fT (ftV sf st)) d)) 0 M []) (hc:Ctx Cap w N mb PL es z) (hr:Rows w PL 2 (HCl w PL (HEx w PL d)) v xs) (hn:xs.length=n) (hz:∀ x ∈ xs,SizeOf.sizeOf x≤z) (hw:wtS (wtCl (wtEx d)) xs≤16777216) (hNG:N≤G) :
 Calls prog 196 #[.slice (some ⟨G,0,none⟩) n n,v,.func (.func 32) #[RV bf bt sf st mb] #[]] w fun e w'=>e=.returned (.tuple #[])∧(∃ ys fps,MadeB mb w0 w' G n 46 2 (fun w=>OCl w (OEx w d)) (xs.map (mapC (fT (ftV sf st)) d)) n ys fps)∧MapSt w' mb es∧Off [mb,G] w w':=by
 obtain ⟨p,cap,rfl,hcl,hcm,hx⟩:=hr;rw [hn] at hcl ⊢;have HN:=hid hn;have HX:=hid hx;have HM0:=hid hM;have HC:=hid hc;have HCK:=hid hC;have HZ:=hid hz;have HWT:=hid hw;have hnb:n≤16777216:=(by unfold wtS at hw;omega);have HNG:=hid hNG;clear hx hn hM hc hC hz hw hNG;unfold RV;go_enter func196,ntmps196;go_wp2_with fail
 go_loopw [10] (fun iv wr=>∃ (k:Nat) (ys:List Value) (fps:List (List Nat)),k≤n∧iv=.int .i64 k∧Hid (MadeB mb w0 wr G n 46 2 (fun w=>OCl w (OEx w d)) (xs.map (mapC (fT (ftV sf st)) d)) k ys fps)∧Hid (MapSt wr mb es)∧Hid (Off [mb,G] w wr)) (fun iv _=>n - (intOf iv).toNat)
 case atStart=>exact ⟨0,M,[],Nat.zero_le _,rfl,HM0.out,HC.out.mp,Off.refl _ _⟩
 case round =>
  obtain ⟨k,ys,fps,hk,rfl,HM,HMS,HOG⟩:=hrel;have HOF:=hid (offB_of_off HOG.out HNG.out HC.out.le);by_cases hlt:k<n
  · obtain ⟨x,hxk⟩:=sqA (l:=xs) (k:=k) HN.out hlt
    obtain ⟨g,off,rfl,hg,hgl,hat⟩:=HX.out (sqE hxk);obtain ⟨cs,hcl6,hcs,hex⟩:=hat k x hxk;have hgP:=HC.out.pl g hg;have HXR:=hid (hex.mono (HC.out.same HOF.out (sqR _)) (fun _ h=>h) (fun _ _ h=>h.mono (HC.out.same HOF.out (sqR _)) (fun _ h=>h)));obtain ⟨r1,m1,s1,r2,m2,s2,rfl⟩:=HCl.shapeR hex;obtain ⟨a0,a1⟩:=sqC2 hcs (by omega);rw [← HOF.out.cellAt (p:=⟨g,_,none⟩) hgP.1 hgP.2.1] at a0 a1;clear hcs hat;simp at a0 a1;have hki:(k:Int)<(n:Int):=(by omega);have hk0:=sqI k
    have HWX:Hid (wtCl (wtEx d) x≤16777216):=by
     show _≤_;have h1:=HWT.out;have h2:=sum_take_succ (wtCl (wtEx d)) xs k x hxk;have h3:=sum_take_le (wtCl (wtEx d)) xs (k+1);unfold wtS at h1;omega
    have HZX:=hid (HZ.out x (List.mem_of_getElem? hxk));have HYK:Hid ((xs.map (mapC (fT (ftV sf st)) d))[k]?=some (mapC (fT (ftV sf st)) d x)):=(by show _=_;rw [List.getElem?_map,hxk];rfl);obtain ⟨W5,hW5⟩:∃ W5,W5=wr.alloc (.cells #[.slice r1 m1 s1,.slice r2 m2 s2] 46):=⟨_,rfl⟩;have K5:Hid (Bz wr W5):=(by show Below _ _ _;rw [hW5];exact (sqN _ _));have HW5:=hid hW5;have CR:=hid (HC.out.off HCK.out HOF.out (sqR _) HMS.out (sqR _));have C5:=hid (CR.out.next HCK.out K5.out (sqR _));have X5:=hid (HXR.out.mono (CR.out.same (OffB.of_below (b:=mb) K5.out) CR.out.le) (fun _ h=>h) (fun _ _ h=>h.mono (CR.out.same (OffB.of_below (b:=mb) K5.out) CR.out.le) (fun _ h=>h)));clear hW5 hex hcl6;go_wp2_with fail;rw [← HW5.out];refine (hE W5 N mb PL es z _ x HCK.out C5.out X5.out HZX.out HWX.out).mono ?_;rintro e w1 ⟨u,fp,rfl,⟨cs',rfl,hx1⟩,hnd,hrg,hb1,hm1⟩;obtain ⟨p1,n1,q1,p2,n2,q2,hsh⟩:=OCls.shape hx1;subst hsh;have K6:Hid (OffB mb wr.heap.size wr w1):=(OffB.of_below K5.out).trans (hb1.mono K5.out.size);have HX1:=hid hx1;have HND:Hid fp.Nodup:=hnd;have HRG:Hid (∀ a ∈ fp,wr.heap.size≤a∧a<w1.heap.size):=fun a ha=>⟨Nat.le_trans K5.out.size (hrg a ha).1,(hrg a ha).2⟩;have HM1:=hid hm1;have hGl:=HM.out.sz;have hGm:=HM.out.lt;have o1:w1.ownsRow G 46 2 (.slice (some ⟨G,0,none⟩) n n) n ys:=ownsG_blk HM.out.own (K6.out.block G (by omega) (by omega));have HO1:=hid o1;have f0:=o1.frozenAt (k * 2);obtain ⟨y0,g0⟩:=own_someR o1 (k * 2) (by omega);have f1:=o1.frozenAt (k * 2+1);obtain ⟨y1,g1⟩:=own_someR o1 (k * 2+1) (by omega);clear o1 hb1 hx1 hnd hrg hm1 hGl hGm a0 a1;go_wp2_with fail;have sd:=stored2 HO1.out (k * 2) (.slice p1 n1 q1) (.slice p2 n2 q2);have hlen:ys.length=n * 2:=HO1.out.1;have HMN:=MadeB.step (O:=fun w=>OCl w (OEx w d)) (c:=2) (fun w w' cs x f h hk=>OCls.keep h hk) HM.out HYK.out K6.out HX1.out HND.out HRG.out rfl sd.1 sd.2 (fun m hm=>set2_other hm) (fun j hj=>set2_self (by omega) j hj);refine ⟨⟨k+1,_,_,by omega,by go_num,HMN,HM1.out.keep (sd.2.block mb (by have:=CR.out.mlt;have:=K6.out.size;omega) (by have:=HM.out.lt;simp;omega)),HOG.out.trans ((off_of_offB K6.out).trans (Off.of_grown sd.2 (by simp)))⟩,by simp [intOf];omega⟩
  · obtain rfl:k=n:=by omega
    go_wp2_with fail;go_end0;exact ⟨rfl,⟨_,_,HM.out⟩,HMS.out,HOG.out⟩
theorem exps_of {bf bt:Nat} {sf st:ByteArray} {Cap:World→Prop} {d:Nat} (hE:ExpR bf bt sf st Cap d):ExpsR bf bt sf st Cap d:=by
 intro w N mb PL es z v xs hC hc hr hz hw;have HCK:=hid hC;have HC:=hid hc;have HR:=hid hr;have HZ:=hid hz;have HWT:=hid hw;obtain ⟨p,cap,rfl,hcl,hcm,hx⟩:=hr;have hnb:xs.length≤16777216:=(by unfold wtS at hw;omega);obtain ⟨W1,hW1⟩:∃ W1,W1=w.alloc (.cells #[.func (.func 31) #[] #[.pointer (some ⟨bf,0,none⟩),.pointer (some ⟨bt,0,none⟩)],.map (some mb)] 73):=⟨_,rfl⟩;have K1:Hid (Bz w W1):=(by show Below _ _ _;rw [hW1];exact (sqN _ _));have b1:Hid (Blk W1 w.heap.size #[.func (.func 31) #[] #[.pointer (some ⟨bf,0,none⟩),.pointer (some ⟨bt,0,none⟩)],.map (some mb)] 73):=(by show Blk _ _ _ _;rw [hW1];exact Blk.new);have s1:W1.heap.size=w.heap.size+1:=(by rw [hW1,alloc_hs]);have S1:=hid s1;have HW1:=hid hW1;clear hW1 hC hc hz hw s1;unfold RV
 cases p with
 | none =>
  obtain rfl:=rows_nil_of_none HR.out;clear hx;go_enter func76,ntmps76;go_wp2_with fail;rw [← HW1.out];refine (blankExp_nil _ _).mono ?_;rintro e w2 ⟨rfl,rfl⟩;go_wp2_with fail;go_ret;exact ⟨_,[],rfl,orows_nil none 0 (Nat.zero_le _),by simp,by simp,OffB.of_below K1.out,HC.out.mp.keep (K1.out.block mb HC.out.mlt)⟩
 | some a =>
  by_cases hne:xs = []
  · subst hne
    clear hx;go_enter func76,ntmps76;go_wp2_with fail;rw [← HW1.out];refine (blankExp_some _ a 0 cap (by omega)).mono ?_;rintro e w2 ⟨rfl,M,hM,rfl⟩;have K2:Hid (Bz w (W1.alloc (.cells M 76))):=K1.out.alloc K1.out.size _;go_wp2_with fail;go_ret;exact ⟨_,[],rfl,orows_nil _ 0 (Nat.zero_le _),by simp,by simp,OffB.of_below K2.out,HC.out.mp.keep (K2.out.block mb HC.out.mlt)⟩
  · obtain ⟨g,off,ha,hg,hgl,-⟩:=hx hne
    simp only [Option.some.injEq] at ha;subst ha;have HNE:=hid hne;have hpos:0<xs.length:=List.length_pos_iff.2 hne;have hgP:=HC.out.pl g hg;have HGP:=hid hgP;generalize hn:xs.length=n at *;have HN:=hid hn;have hnz:((n:Int) == 0)=false:=(by simp;omega);have hnz2:¬ (n:Int)=0:=(by omega);have hn1:(0:Int)<(n:Int):=(by omega);clear hx hne hgP hg hn;go_enter func76,ntmps76;go_wp2_with fail;rw [← HW1.out];refine (blankExp_some _ ⟨g,off,none⟩ n cap hnb).mono ?_;rintro e w2 ⟨rfl,M,hM,hw2⟩
    have HM0:Hid (MadeB mb W1 w2 W1.heap.size n 76 6 (fun w=>OEx w d) (xs.map (mapX (fT (ftV sf st)) d)) 0 M.toList []):=by
     show MadeB _ _ _ _ _ _ _ _ _ _ _ _;rw [hw2];exact MadeB.start hM (by unfold maxLen;omega) (by have:=HC.out.mlt;have:=K1.out.size;omega)
    have K2:Hid (Bz W1 w2):=(by show Below _ _ _;rw [hw2];exact (sqN _ _));have S2:Hid (w2.heap.size=w.heap.size+2):=(by show _=_;rw [hw2,alloc_hs,S1.out]);have b2:=hid (b1.out.next K2.out);obtain ⟨W3,hW3⟩:∃ W3,W3=w2.alloc (.cells #[.pointer (some ⟨g,off,none⟩),.int .i64 n] 161):=⟨_,rfl⟩;have K3:Hid (Bz w2 W3):=(by show Below _ _ _;rw [hW3];exact (sqN _ _));have b3:=hid (b2.out.next K3.out);have k3:Hid (Blk W3 w2.heap.size #[.pointer (some ⟨g,off,none⟩),.int .i64 n] 161):=(by show Blk _ _ _ _;rw [hW3];exact Blk.new);have S3:Hid (W3.heap.size=w.heap.size+3):=(by show _=_;rw [hW3,alloc_hs,S2.out]);have HW3:=hid hW3;have B3:=hid (K1.out.trans ((K2.out.mono K1.out.size).trans (K3.out.mono (Nat.le_trans K1.out.size K2.out.size))));have C3:=hid (HC.out.next HCK.out B3.out (sqR _));have R3:=hid (HR.out.mono (sqO B3.out) (fun _ h=>h) (fun _ _ _ h=>h.mono (sqO B3.out) (fun _ h=>h)));have P3:=hid (HGP.out.2.2.off (OffB.of_below (b:=mb) (N:=w.heap.size) B3.out) (by have:=HGP.out.1;have:=HC.out.le;omega) HGP.out.2.1);have N3:=hid (C3.out.ks.not C3.out.pl R3.out HZ.out);have M3:Hid (MadeB mb W1 W3 W1.heap.size n 76 6 (fun w=>OEx w d) (xs.map (mapX (fT (ftV sf st)) d)) 0 M.toList []):=HM0.out.next (fun w w' cs x f h hk=>OEx.keep h hk) (OffB.of_below K3.out);obtain ⟨ck,hck⟩:=C3.out.mp;have HCKm:=hid hck;have RL:=hid (run_look C3.out.mp P3.out N3.out);obtain ⟨X,hX⟩:∃ X:MapEntry,X = { key:=keyV ⟨g,off,none⟩ n,val:=.slice (some ⟨W1.heap.size,0,none⟩) n n,born:=ck }:=⟨_,rfl⟩;have HXK:Hid (X.key=keyV ⟨g,off,none⟩ n):=(by show _=_;rw [hX]);obtain ⟨W4,hW4⟩:∃ W4:World,W4 = { W3 with heap:=W3.heap.setIfInBounds mb (.map (es.push X) (ck+1)) }:=⟨_,rfl⟩
    have RP:Hid ((Instr.mapUpdate 71 (.map (some mb)) (keyV ⟨g,off,none⟩ n) (.slice (some ⟨W1.heap.size,0,none⟩) n n)).run prog W3=.ok () W4):=by
     show _=_;rw [hW4,hX];exact run_put _ hck P3.out N3.out
    have hml:=HC.out.mlt;have hmN:=HC.out.lt;have hNw:=HC.out.le;have K4:Hid (OffB mb W3.heap.size W3 W4):=(by show OffB _ _ _ _;rw [hW4];exact offB_put _ _ _ _)
    have P4:Hid (MapSt W4 mb (es.push X)):=by
     refine ⟨ck+1,?_⟩;rw [hW4];exact put_at _ hck
    have b4:=hid (K4.out.blk b3.out b3.out.lt (by omega));have k4:=hid (K4.out.blk k3.out k3.out.lt (by rw [S2.out];omega));have R4:=hid (R3.out.mono (C3.out.same K4.out C3.out.le) (fun _ h=>h) (fun _ _ _ h=>h.mono (C3.out.same K4.out C3.out.le) (fun _ h=>h)));have hsz:1≤SizeOf.sizeOf xs:=size_pos xs
    have KS4:Hid (KeysIn W4 PL (es.push X) (SizeOf.sizeOf xs - 1)):=by
     have h1:=C3.out.ks.mono (C3.out.same K4.out C3.out.le) (sqR _);rw [hX];exact h1.push (by have:=HZ.out;omega) HNE.out R4.out (by omega) _ _
    have C4:Hid (Ctx Cap W4 N mb PL (es.push X) (SizeOf.sizeOf xs - 1)):=⟨C3.out.pl.off K4.out C3.out.le,P4.out,KS4.out,hmN,Nat.le_trans C3.out.le K4.out.size,HCK.out _ _ (K4.out.mono C3.out.le) C3.out.cap⟩;have M4:Hid (MadeB mb W1 W4 W1.heap.size n 76 6 (fun w=>OEx w d) (xs.map (mapX (fT (ftV sf st)) d)) 0 M.toList []):=M3.out.next (fun w w' cs x f h hk=>OEx.keep h hk) K4.out
    have CFL:Hid (Calls prog 120 #[.slice (some ⟨W1.heap.size,0,none⟩) n n,.slice (some ⟨g,off,none⟩) n cap,.func (.func 121) #[.agg #[.func (.func 31) #[] #[.pointer (some ⟨bf,0,none⟩),.pointer (some ⟨bt,0,none⟩)],.map (some mb)]] #[]] W4 fun e w'=>e=.returned (.tuple #[])∧(∃ ys fps,MadeB mb W1 w' W1.heap.size n 76 6 (fun w=>OEx w d) (xs.map (mapX (fT (ftV sf st)) d)) n ys fps)∧MapSt w' mb (es.push X)∧Off [mb,W1.heap.size] W4 w'):=by
     have:=fillExp_of hE W1 W4 W1.heap.size n N mb PL (es.push X) (SizeOf.sizeOf xs - 1) (.slice (some ⟨g,off,none⟩) n cap) xs M.toList HCK.out M4.out C4.out R4.out HN.out (fun x hx=>by have:=size_mem hx;omega) HWT.out (by rw [S1.out];omega);unfold RV at this;exact this
    obtain ⟨y0,y1⟩:=sqB2 b3.out;obtain ⟨x0,x1⟩:=sqB2 k3.out;obtain ⟨u0,u1⟩:=sqB2 b4.out;clear hw2 hW3 hck hM hX hW4 hsz;go_wp2_with (first | (rw [← HW3.out]) | (at_lookup;refine wpList_lookup_run _ rfl _ _ _ rfl _ _ _ rfl rfl RL.out ?_) | (at_mapUpdate;refine wpList_mapUpdate_run _ _ rfl _ _ _ _ rfl _ _ _ rfl rfl rfl RP.out ?_));refine CFL.out.mono ?_;rintro e w5 ⟨rfl,⟨ys,fps,hM5⟩,⟨ck5,hck5⟩,hof5⟩;have M5:=hid hM5;have b5:Hid (Blk w5 w.heap.size #[.func (.func 31) #[] #[.pointer (some ⟨bf,0,none⟩),.pointer (some ⟨bt,0,none⟩)],.map (some mb)] 73):=(hof5.block w.heap.size b4.out.lt (by rw [S1.out];simp;omega)).trans b4.out;have k5:Hid (Blk w5 w2.heap.size #[.pointer (some ⟨g,off,none⟩),.int .i64 n] 161):=(hof5.block w2.heap.size k4.out.lt (by rw [S1.out,S2.out];simp;omega)).trans k4.out;have K5:Hid (OffB mb w.heap.size W4 w5):=offB_of_off hof5 (by rw [S1.out];omega) (by have:=K4.out.size;have:=S3.out;omega);have P5:Hid (PlainAt w5 g):=(P3.out.off K4.out (by have:=HGP.out.1;have:=S3.out;omega) HGP.out.2.1).off K5.out (by have:=HGP.out.1;omega) HGP.out.2.1
    have N5:Hid (KeyNot w5 es.toList ⟨g,off,none⟩ n):=fun e he=>by
     obtain ⟨a',n',h1,h2,h3⟩:=N3.out e he;obtain ⟨a'',n'',q'',d'',ys'',j1,j2,j3,j4⟩:=C3.out.ks e he;have h4:=C3.out.pl _ (rows_first j3 j2);have e1:a'=a'':=(by rw [h1] at j1;simp [keyV] at j1;exact j1.1);subst e1;exact ⟨a',n',h1,(h2.off K4.out (by have:=h4.1;have:=S3.out;omega) h4.2.1).off K5.out (by have:=h4.1;omega) h4.2.1,h3⟩
    obtain ⟨W6,hW6⟩:∃ W6:World,W6 = { w5 with heap:=w5.heap.setIfInBounds mb (.map es ck5) }:=⟨_,rfl⟩
    have RD:Hid (∀ ty,(Builtin.delete_ #[71,161] ty #[.map (some mb),keyV ⟨g,off,none⟩ n]).run prog w5=.ok (.tuple #[]) W6):=fun ty=>by
     rw [hW6];exact run_del X HXK.out hck5 P5.out N5.out ty
    have K6:Hid (OffB mb w5.heap.size w5 W6):=by show OffB _ _ _ _;rw [hW6];exact offB_put _ _ _ _
    have P6:Hid (MapSt W6 mb es):=by
     refine ⟨ck5,?_⟩;rw [hW6];exact put_at _ hck5
    have M6:MadeB mb W1 W6 W1.heap.size n 76 6 (fun w=>OEx w d) (xs.map (mapX (fT (ftV sf st)) d)) n ys fps:=M5.out.next (fun w w' cs x f h hk=>OEx.keep h hk) K6.out;obtain ⟨fp,r1,r2,r3⟩:=M6.done (show (xs.map (mapX (fT (ftV sf st)) d)).length=n by rw [List.length_map];exact HN.out) (by unfold maxLen;omega);have R1:=hid r1;have R2:Hid (fp.Nodup∧∀ a ∈ fp,w.heap.size≤a∧a<W6.heap.size):=⟨r2,fun a ha=>⟨by have:=(r3 a ha).1;have:=S1.out;omega,(r3 a ha).2⟩⟩;have O6:Hid (OffB mb w.heap.size w W6):=(OffB.of_below B3.out).trans ((K4.out.mono (by have:=S3.out;omega)).trans (K5.out.trans (K6.out.mono (by have:=K5.out.size;have:=K4.out.size;have:=S3.out;omega))));obtain ⟨v0,v1⟩:=sqB2 b5.out;obtain ⟨t0,t1⟩:=sqB2 k5.out;clear M6 hM5 hck5 hof5 hW6 r1 r2 r3 y0 y1 x0 x1 u0 u1;go_wp2_with (at_delete;refine wpList_delete_run _ _ rfl _ _ _ _ rfl _ _ rfl rfl (RD.out _) ?_);go_ret;exact ⟨_,fp,rfl,R1.out,R2.out.1,R2.out.2,O6.out,P6.out⟩
theorem clause_of {bf bt:Nat} {sf st:ByteArray} {Cap:World→Prop} {d:Nat} (hE:ExpsR bf bt sf st Cap d):ClR bf bt sf st Cap d:=by
 intro w N mb PL es z cs c hC hc hr hz hw;have HCK:=hid hC;have HC:=hid hc;obtain ⟨pv,bv,rfl,hp,hb⟩:=hr;have HP:=hid hp;have HB:=hid hb;have HZ1:Hid (SizeOf.sizeOf c.1≤z):=(by show _≤_;have:=size_pats c;omega);have HZ2:Hid (SizeOf.sizeOf c.2≤z):=(by show _≤_;have:=size_pats c;omega);have hw':wtCl (wtEx d) c=wtS (wtEx d) c.1+wtS (wtEx d) c.2:=rfl;have HW1:Hid (wtS (wtEx d) c.1≤16777216):=(by show _≤_;omega);have HW2:Hid (wtS (wtEx d) c.2≤16777216):=(by show _≤_;omega);obtain ⟨p1,c1,rfl,-⟩:=hp;obtain ⟨p2,c2,rfl,-⟩:=hb;generalize c.1.length=n1 at *;generalize c.2.length=n2 at *;obtain ⟨W2,hW2⟩:∃ W2,W2=(w.alloc (.cells #[.func (.func 31) #[] #[.pointer (some ⟨bf,0,none⟩),.pointer (some ⟨bt,0,none⟩)],.map (some mb)] 73)).alloc (.cells #[.slice p1 n1 c1,.slice p2 n2 c2] 46):=⟨_,rfl⟩;have K2:Hid (Bz w W2):=(by show Below _ _ _;rw [hW2];exact ((sqN _ _)).alloc (by simp) _);have b2:Hid (Blk W2 w.heap.size #[.func (.func 31) #[] #[.pointer (some ⟨bf,0,none⟩),.pointer (some ⟨bt,0,none⟩)],.map (some mb)] 73):=(by show Blk _ _ _ _;rw [hW2];exact Blk.new.alloc)
 have c2':Hid (Blk W2 (w.heap.size+1) #[.slice p1 n1 c1,.slice p2 n2 c2] 46):=by
  have:=Blk.new (w:=w.alloc (.cells #[.func (.func 31) #[] #[.pointer (some ⟨bf,0,none⟩),.pointer (some ⟨bt,0,none⟩)],.map (some mb)] 73)) (cs:=#[.slice p1 n1 c1,.slice p2 n2 c2]) (t:=46);rw [alloc_hs] at this;show Blk _ _ _ _;rw [hW2];exact this
 have S2:Hid (W2.heap.size=w.heap.size+2):=(by show _=_;rw [hW2,alloc_hs,alloc_hs]);obtain ⟨W3,hW3⟩:∃ W3,W3=W2.alloc (.cells #[.slice none 0 0,.slice none 0 0] 46):=⟨_,rfl⟩;have K3:Hid (Bz W2 W3):=(by show Below _ _ _;rw [hW3];exact (sqN _ _));have r3:Hid (Blk W3 (w.heap.size+2) #[.slice none 0 0,.slice none 0 0] 46):=(by show Blk _ _ _ _;rw [hW3,← S2.out];exact Blk.new);have HW3:Hid (W3=((w.alloc (.cells #[.func (.func 31) #[] #[.pointer (some ⟨bf,0,none⟩),.pointer (some ⟨bt,0,none⟩)],.map (some mb)] 73)).alloc (.cells #[.slice p1 n1 c1,.slice p2 n2 c2] 46)).alloc (.cells #[.slice none 0 0,.slice none 0 0] 46)):=(by show _=_;rw [hW3,hW2]);have B3:=hid (K2.out.trans (K3.out.mono K2.out.size));have S3:Hid (W3.heap.size=w.heap.size+3):=(by show _=_;rw [hW3,alloc_hs,S2.out]);have C3:=hid (HC.out.next HCK.out B3.out.drew (sqR _));have P3:=hid (HP.out.mono (sqO B3.out.drew) (fun _ h=>h) (fun _ _ _ h=>h.mono (sqO B3.out.drew) (fun _ h=>h)));have hml:=HC.out.mlt;have hmN:=HC.out.lt;have hNw:=HC.out.le;have z0:Hid (w.heap.size≠mb):=(by show _≠_;omega);have z1:Hid (w.heap.size+1≠mb):=(by show _≠_;omega);have b3:=hid (b2.out.next K3.out);have c3:=hid (c2'.out.next K3.out)
 have CELLS:Hid (∀ w',OffB mb (w.heap.size+2) W3 w'→w'.cell? ⟨w.heap.size,0,none⟩=some (.func (.func 31) #[] #[.pointer (some ⟨bf,0,none⟩),.pointer (some ⟨bt,0,none⟩)])∧w'.cell? ⟨w.heap.size,1,none⟩=some (.map (some mb))∧w'.cell? ⟨w.heap.size+1,0,none⟩=some (.slice p1 n1 c1)∧w'.cell? ⟨w.heap.size+1,1,none⟩=some (.slice p2 n2 c2)):=fun w' ho=>by
  have e1:=ho.blk b3.out (by have:=S2.out;omega) z0.out;have e2:=ho.blk c3.out (by have:=S2.out;omega) z1.out;exact ⟨e1.cell 0 _ rfl,e1.cell 1 _ rfl,e2.cell 0 _ rfl,e2.cell 1 _ rfl⟩
 have hfirst:=CELLS.out W3 (OffB.refl _ _ _);obtain ⟨q0,q1,q2,q3⟩:=hfirst;obtain ⟨e0,e1⟩:=sqB2 r3.out;obtain ⟨f0,f1⟩:=sqF2 r3.out;clear hW2 hW3 hC hc hz hw hw';unfold RV;unfold ExpsR RV at hE;go_enter func32,ntmps32;go_wp2_with fail;rw [← HW3.out]
 go_region_held3 (fun w'=>w'.cell? ⟨w.heap.size,0,none⟩=some (.func (.func 31) #[] #[.pointer (some ⟨bf,0,none⟩),.pointer (some ⟨bt,0,none⟩)])∧w'.cell? ⟨w.heap.size,1,none⟩=some (.map (some mb))∧w'.cell? ⟨w.heap.size+1,0,none⟩=some (.slice p1 n1 c1)∧w'.cell? ⟨w.heap.size+1,1,none⟩=some (.slice p2 n2 c2))
  (first | exact CELLS.out _ (OffB.refl _ _ _).drew | exact CELLS.out _ K5.out | exact CELLS.out _ K4.out | exact CELLS.out _ ((K5.out.setCell (sqR _) _).setCell (sqR _) _) | go_keep)
  (first
   | (have _:=K4;go_at_call 76;refine (hE _ N mb PL es z _ c.2 HCK.out C4.out R4.out HZ2.out HW2.out).mono ?_;rintro e w5 ⟨u5,fq,rfl,ho5,hnd5,hrg5,hb5,hm5⟩;obtain ⟨pu5,cu5,hu5,hcl5,hcm5⟩:=ho5.shape;subst hu5;have HO5:=hid ho5;have ND5:Hid (fq.Nodup∧∀ a ∈ fq,w4.heap.size≤a∧a<w5.heap.size):=⟨hnd5,hrg5⟩;have L5:=hid hb5;have K5:Hid (OffB mb (w.heap.size+2) W3 w5):=K4.out.trans (hb5.mono (by have h1:=K4.out.size;have h2:=S3.out;have h3:=S2.out;omega));have MS5:=hid hm5;have rr:=(L5.out.blk (M4.out.blk r3.out r3.out.lt (by have:=S2.out;omega)) (by have h1:=M4.out.size;have h2:=r3.out.lt;omega) (by have:=S2.out;omega));have HRR:=hid rr;obtain ⟨e2,e3⟩:=sqB2 rr;obtain ⟨f2,f3⟩:=sqF2 rr;clear ho5 hnd5 hrg5 hb5 hm5 rr)
   | (go_at_call 76;refine (hE _ N mb PL es z _ c.1 HCK.out C3.out P3.out HZ1.out HW1.out).mono ?_;rintro e w4 ⟨u4,fp,rfl,ho4,hnd4,hrg4,hb4,hm4⟩;obtain ⟨pu4,cu4,hu4,hcl4,hcm4⟩:=ho4.shape;subst hu4;have HO4:=hid ho4;have ND4:Hid (fp.Nodup∧∀ a ∈ fp,W3.heap.size≤a∧a<w4.heap.size):=⟨hnd4,hrg4⟩;have M4:Hid (OffB mb W3.heap.size W3 w4):=⟨hb4.os,hb4.tape,hb4.output,hb4.size,hb4.block⟩;have K4:Hid (OffB mb (w.heap.size+2) W3 w4):=M4.out.mono (by have h2:=S3.out;have h3:=S2.out;omega);have C4:=hid (C3.out.off HCK.out hb4 C3.out.le hm4 (sqR _));have R4:Hid (Rows w4 PL 6 (HEx w4 PL d) (.slice p2 n2 c2) c.2):=(by have ho:OffB mb w.heap.size w w4:=(OffB.of_below B3.out).trans (M4.out.mono (by have h2:=S3.out;omega));exact HB.out.mono (HC.out.same ho HC.out.le) (fun _ h=>h) (fun _ _ _ h=>h.mono (HC.out.same ho HC.out.le) (fun _ h=>h)));clear ho4 hnd4 hrg4 hb4 hm4))
 go_split_ands;go_wp2_with fail;have l1:(c.1.map (mapX (fT (ftV sf st)) d)).length=c.1.length:=List.length_map _;have l2:(c.2.map (mapX (fT (ftV sf st)) d)).length=c.2.length:=List.length_map _;have H4:=HO4.out;have H5:=HO5.out;rw [l1] at H4;rw [l2] at H5;obtain ⟨W6,hW6⟩:∃ W6,W6=(w5.setCell ⟨w.heap.size+2,0,none⟩ (.slice pu4 c.1.length cu4)).setCell ⟨w.heap.size+2,1,none⟩ (.slice pu5 c.2.length cu5):=⟨_,rfl⟩;have bz:Blk W6 (w.heap.size+2) #[.slice pu4 c.1.length cu4,.slice pu5 c.2.length cu5] 46:=(by rw [hW6];exact (HRR.out.same rfl).same rfl)
 have o6:∀ a,a≠w.heap.size+2→W6.heap[a]?=w5.heap[a]?:=fun a ha=>by rw [hW6,Below.heap_setCell _ _ _ _ ha,Below.heap_setCell _ _ _ _ ha]
 have K6:OffB mb (w.heap.size+2) W3 W6:=(by rw [hW6];exact (K5.out.setCell (sqR _) _).setCell (sqR _) _);have s6:W6.heap.size=w5.heap.size:=(by rw [hW6];simp [World.setCell]);have g1:=S3.out;have g2:=M4.out.size;have g3:=L5.out.size;obtain ⟨j0,j1⟩:=sqB2 bz
 have o4:ORows W6 76 6 (OEx W6 d) (.slice pu4 c.1.length cu4) (c.1.map (mapX (fT (ftV sf st)) d)) fp:=by
  have kk:KeepOn fp w4 W6:=fun a ha=>by
   have h:=ND4.out.2 a ha;exact (o6 a (by omega)).trans (L5.out.block a h.2 (by omega))
  exact H4.keep kk (fun cs x f _ hs h=>h.keep (kk.sub hs))
 have o5:ORows W6 76 6 (OEx W6 d) (.slice pu5 c.2.length cu5) (c.2.map (mapX (fT (ftV sf st)) d)) fq:=by
  have kk:KeepOn fq w5 W6:=fun a ha=>by
   have h:=ND5.out.2 a ha;exact o6 a (by omega)
  exact H5.keep kk (fun cs x f _ hs h=>h.keep (kk.sub hs))
 have nd:(fp ++ fq).Nodup:=by
  rw [List.nodup_append];refine ⟨ND4.out.1,ND5.out.1,fun a ha b hb=>?_⟩;have h:=ND4.out.2 a ha;have h':=ND5.out.2 b hb;omega
 have rg:∀ a ∈ fp ++ fq,w.heap.size≤a∧a<W6.heap.size:=fun a ha=>by
  rcases List.mem_append.1 ha with ha | ha
  · have h:=ND4.out.2 a ha;omega
  · have h:=ND5.out.2 a ha;omega
 have of:OffB mb w.heap.size w W6:=(OffB.of_below B3.out).trans (K6.mono (by omega));have ms:MapSt W6 mb es:=MS5.out.keep (o6 mb (by omega));have fin:ResM w mb es (fun w' u fp=>∃ cs',u=.agg cs'.toArray∧OCl w' (OEx w' d) cs' (mapC (fT (ftV sf st)) d c) fp) (.returned (.agg #[.slice pu4 c.1.length cu4,.slice pu5 c.2.length cu5])) W6:=⟨_,fp ++ fq,rfl,⟨[.slice pu4 c.1.length cu4,.slice pu5 c.2.length cu5],rfl,⟨_,_,fp,fq,rfl,rfl,o4,o5⟩⟩,nd,rg,of,ms⟩;rw [hW6] at fin j0 j1;exact bodyPost_ret (v:=.agg #[.slice pu4 c.1.length cu4,.slice pu5 c.2.length cu5]) (by simp [results,results32,go_sem,j0,j1]) rfl fin
theorem eachCl_of {bf bt:Nat} {sf st:ByteArray} {Cap:World→Prop} {d:Nat} (hE:ClR bf bt sf st Cap d):ClsR bf bt sf st Cap d:=by
 intro w N mb PL es z v cl hC hc hr hz hw;have HCK:=hid hC;have HC:=hid hc;have HR:=hid hr;have HZ:=hid hz;have HWT:=hid hw;obtain ⟨p,cap,rfl,hcl,hcm,hx⟩:=hr;have hnb:cl.length≤16777216:=(by unfold wtS at hw;omega);clear hC hc hz hw hx;unfold RV
 cases p with
 | none =>
  obtain rfl:=rows_nil_of_none HR.out;go_enter func161,ntmps161;go_wp2_with fail;refine (blankClause_nil _ _).mono ?_;rintro e w2 ⟨rfl,rfl⟩;go_wp2_with fail;refine (fillClause_nil _ _ _ _ _ _).mono ?_;rintro e w3 ⟨rfl,rfl⟩;go_wp2_with fail;go_ret;exact ⟨_,[],rfl,orows_nil none 0 (Nat.zero_le _),by simp,by simp,OffB.refl _ _ _,HC.out.mp⟩
 | some a =>
  generalize hn:cl.length=n at *;have HN:=hid hn;clear hn;go_enter func161,ntmps161;go_wp2_with fail;refine (blankClause_some _ a n cap hnb).mono ?_;rintro e w2 ⟨rfl,M,hM,hw2⟩;have K2:Hid (Bz w w2):=(by show Below _ _ _;rw [hw2];exact (sqN _ _))
  have HM0:Hid (MadeB mb w w2 w.heap.size n 46 2 (fun w=>OCl w (OEx w d)) (cl.map (mapC (fT (ftV sf st)) d)) 0 M.toList []):=by
   show MadeB _ _ _ _ _ _ _ _ _ _ _ _;rw [hw2];exact MadeB.start hM (by unfold maxLen;omega) HC.out.mlt
  have C2:=hid (HC.out.next HCK.out K2.out (sqR _));have R2:=hid (HR.out.mono (sqO K2.out) (fun _ h=>h) (fun _ _ _ h=>h.mono (sqO K2.out) (fun _ h=>h) (fun _ _ h=>h.mono (sqO K2.out) (fun _ h=>h))));have CFL:=fillClause_of hE w w2 w.heap.size n N mb PL es z (.slice (some a) n cap) cl M.toList HCK.out HM0.out C2.out R2.out HN.out (fun x hx=>by have:=size_memC hx;have:=HZ.out;omega) HWT.out HC.out.le;unfold RV at CFL;have HCF:=hid CFL;clear CFL hw2 hM;go_wp2_with fail;refine HCF.out.mono ?_;rintro e w3 ⟨rfl,⟨ys,fps,hM3⟩,hm3,hof3⟩;obtain ⟨fp,r1,r2,r3⟩:=hM3.done (show (cl.map (mapC (fT (ftV sf st)) d)).length=n by rw [List.length_map];exact HN.out) (by unfold maxLen;omega);have R1:=hid r1;have RR:Hid (fp.Nodup∧∀ a ∈ fp,w.heap.size≤a∧a<w3.heap.size):=⟨r2,r3⟩;have O3:=hid hM3.off;have M3:Hid (MapSt w3 mb es):=hm3;clear hM3 hm3 hof3 r1 r2 r3;go_wp2_with fail;go_ret;exact ⟨_,fp,rfl,R1.out,RR.out.1,RR.out.2,O3.out,M3.out⟩
def ChgR (bf bt:Nat) (sf st:ByteArray) (Cap:World→Prop):Prop:=∀ (w:World) (k n:Int) (t m:ByteArray) (p1 p2:Option Addr) (n1 q1 n2 q2:Nat),Cap w→n1≤maxLen →
 Calls prog 31 #[.agg #[.int .i64 k,.int .i64 n,.string t,.string m,.slice p1 n1 q1,.slice p2 n2 q2],.pointer (some ⟨bf,0,none⟩),.pointer (some ⟨bt,0,none⟩)] w fun e w'=>e=.returned (.agg #[.int .i64 k,.int .i64 n,.string ((ftV sf st) k t m n1),.string m,.slice p1 n1 q1,.slice p2 n2 q2])∧Bz w w'
theorem exp_of {bf bt:Nat} {sf st:ByteArray} {Cap:World→Prop} {d:Nat} (hE:ExpsR bf bt sf st Cap d) (hCl:ClsR bf bt sf st Cap d) (hCh:ChgR bf bt sf st Cap) (hok:∀ k t m n,okS t→okS ((ftV sf st) k t m n)):ExpR bf bt sf st Cap (d+1):=by
 intro w N mb PL es z cs x hC hc hr hz hw;have HCK:=hid hC;have HC:=hid hc;obtain ⟨kv,cv,rfl,o1,o2,o3,o4,hk,hcl⟩:=hr;obtain ⟨k0,n0,t0,m0,ks,cls⟩:=x;simp only [Ex.kind,Ex.n,Ex.text,Ex.mod,Ex.kids,Ex.clauses] at *;have hw':wtEx (d+1) (.mk k0 n0 t0 m0 ks cls)=t0.size+m0.size+wtS (wtEx d) ks+wtS (wtCl (wtEx d)) cls:=rfl;have HOK:Hid (okI k0∧okI n0∧okS t0∧okS m0):=⟨o1,o2,o3,o4⟩;have HKS:=hid hk;have HCS:=hid hcl;have HZ1:Hid (SizeOf.sizeOf ks≤z):=(by show _≤_;have:=size_kids (.mk k0 n0 t0 m0 ks cls);simp only [Ex.kids] at this;omega);have HZ2:Hid (SizeOf.sizeOf cls≤z):=(by show _≤_;have:=size_clauses (.mk k0 n0 t0 m0 ks cls);simp only [Ex.clauses] at this;omega);have HW1:Hid (wtS (wtEx d) ks≤16777216):=(by show _≤_;omega);have HW2:Hid (wtS (wtCl (wtEx d)) cls≤16777216):=(by show _≤_;omega);have HOF:=hid hok;obtain ⟨p1,c1,rfl,hl1,hm1,-⟩:=hk;obtain ⟨p2,c2,rfl,hl2,hm2,-⟩:=hcl;have HN1:=hid (Nat.le_trans hl1 hm1);generalize hn1:ks.length=n1 at *;generalize hn2:cls.length=n2 at *;have HL1:=hid hn1;have HL2:=hid hn2;obtain ⟨W3,hW3⟩:∃ W3,W3=((w.alloc (.cells #[.func (.func 31) #[] #[.pointer (some ⟨bf,0,none⟩),.pointer (some ⟨bt,0,none⟩)],.map (some mb)] 73)).alloc (.cells #[.int .i64 k0,.int .i64 n0,.string t0,.string m0,.slice p1 n1 c1,.slice p2 n2 c2] 76)).alloc (.cells #[.int .i64 0,.int .i64 0,.string ⟨#[]⟩,.string ⟨#[]⟩,.slice none 0 0,.slice none 0 0] 76):=⟨_,rfl⟩;have HW3:=hid hW3;have B3:Hid (Bz w W3):=(by show Below _ _ _;rw [hW3];exact (((sqN _ _)).alloc (by simp) _).alloc (by simp only [alloc_hs];omega) _);have b3:Hid (Blk W3 w.heap.size #[.func (.func 31) #[] #[.pointer (some ⟨bf,0,none⟩),.pointer (some ⟨bt,0,none⟩)],.map (some mb)] 73):=(by show Blk _ _ _ _;rw [hW3];exact Blk.new.alloc.alloc)
 have e3:Hid (Blk W3 (w.heap.size+1) #[.int .i64 k0,.int .i64 n0,.string t0,.string m0,.slice p1 n1 c1,.slice p2 n2 c2] 76):=by
  have:=Blk.new (w:=w.alloc (.cells #[.func (.func 31) #[] #[.pointer (some ⟨bf,0,none⟩),.pointer (some ⟨bt,0,none⟩)],.map (some mb)] 73)) (cs:=#[.int .i64 k0,.int .i64 n0,.string t0,.string m0,.slice p1 n1 c1,.slice p2 n2 c2]) (t:=76);rw [alloc_hs] at this;show Blk _ _ _ _;rw [hW3];exact this.alloc
 have r3:Hid (Blk W3 (w.heap.size+2) #[.int .i64 0,.int .i64 0,.string ⟨#[]⟩,.string ⟨#[]⟩,.slice none 0 0,.slice none 0 0] 76):=by
  have:=Blk.new (w:=(w.alloc (.cells #[.func (.func 31) #[] #[.pointer (some ⟨bf,0,none⟩),.pointer (some ⟨bt,0,none⟩)],.map (some mb)] 73)).alloc (.cells #[.int .i64 k0,.int .i64 n0,.string t0,.string m0,.slice p1 n1 c1,.slice p2 n2 c2] 76)) (cs:=#[.int .i64 0,.int .i64 0,.string ⟨#[]⟩,.string ⟨#[]⟩,.slice none 0 0,.slice none 0 0]) (t:=76);rw [alloc_hs,alloc_hs] at this;show Blk _ _ _ _;rw [hW3];exact this
 have S3:Hid (W3.heap.size=w.heap.size+3):=(by show _=_;rw [hW3,alloc_hs,alloc_hs,alloc_hs]);have C3:=hid (HC.out.next HCK.out B3.out (sqR _));have P3:=hid (HKS.out.mono (sqO B3.out) (fun _ h=>h) (fun _ _ _ h=>h.mono (sqO B3.out) (fun _ h=>h)));have hml:=HC.out.mlt;have hmN:=HC.out.lt;have hNw:=HC.out.le;unfold ExpsR RV at hE;unfold ClsR RV at hCl;unfold ChgR at hCh;unfold RV;obtain ⟨y0,y1⟩:=sqB2 b3.out;obtain ⟨x0,x1,x2,x3,x4,x5⟩:=sqB6 e3.out;clear hW3 hC hc hz hw hw' hn1 hn2 o1 o2 o3 o4 hok;go_enter func121,ntmps121;go_wp2_with fail;rw [← HW3.out];refine (hE _ N mb PL es z _ ks HCK.out C3.out P3.out HZ1.out HW1.out).mono ?_;rintro e w4 ⟨u4,fp,rfl,ho4,hnd4,hrg4,hb4,hmm4⟩;obtain ⟨pu4,cu4,hu4,hcl4,hcm4⟩:=ho4.shape;rw [List.length_map,HL1.out] at hu4;subst hu4;have HO4:=hid ho4;have ND4:Hid (fp.Nodup∧∀ a ∈ fp,W3.heap.size≤a∧a<w4.heap.size):=⟨hnd4,hrg4⟩;have K4:Hid (OffB mb W3.heap.size W3 w4):=hb4;have g3:=S3.out;have g4:=hb4.size;have MS4:=hid hmm4;have b4:=hid (hb4.blk b3.out b3.out.lt (by omega));have e4:=hid (hb4.blk e3.out e3.out.lt (by omega));have r4:=hid (hb4.blk r3.out r3.out.lt (by omega));have ff:=e4.out.frozen 4;obtain ⟨v0,v1,v2,v3,v4,v5⟩:=sqB6 e4.out;obtain ⟨s0,s1⟩:=sqB2 b4.out;clear ho4 hnd4 hrg4 hb4 hmm4 hcl4 hcm4 y0 y1 x0 x1 x2 x3 x4 x5;go_wp2_with fail;obtain ⟨V4,hV4⟩:∃ V4,V4=w4.setCell ⟨w.heap.size+1,4,none⟩ (.slice pu4 n1 cu4):=⟨_,rfl⟩;rw [← hV4];have OV4:Hid (OffB mb (w.heap.size+1) w4 V4):=(by show OffB _ _ _ _;rw [hV4];exact (OffB.refl _ _ _).setCell (by show _≤w.heap.size+1;exact Nat.le_refl _) _)
 have q4:∀ a,a≠w.heap.size+1→V4.heap[a]?=w4.heap[a]?:=fun a ha=>by rw [hV4];exact Below.heap_setCell _ _ _ _ ha
 have Q4:=hid q4;have sV4:V4.heap.size=w4.heap.size:=(by rw [hV4];simp [World.setCell]);have E4:Hid (Blk V4 (w.heap.size+1) #[.int .i64 k0,.int .i64 n0,.string t0,.string m0,.slice pu4 n1 cu4,.slice p2 n2 c2] 76):=(by show Blk _ _ _ _;rw [hV4];exact e4.out.same rfl);have B4:Hid (Blk V4 w.heap.size #[.func (.func 31) #[] #[.pointer (some ⟨bf,0,none⟩),.pointer (some ⟨bt,0,none⟩)],.map (some mb)] 73):=(q4 _ (by omega)).trans b4.out;have R4:Hid (Blk V4 (w.heap.size+2) #[.int .i64 0,.int .i64 0,.string ⟨#[]⟩,.string ⟨#[]⟩,.slice none 0 0,.slice none 0 0] 76):=(q4 _ (by omega)).trans r4.out;have O4:Hid (OffB mb w.heap.size w V4):=(OffB.of_below B3.out).trans ((K4.out.mono (by omega)).trans (OV4.out.mono (by omega)));have C4:=hid (HC.out.off HCK.out O4.out HC.out.le (MS4.out.keep (q4 mb (by omega))) (sqR _));have T4:=hid (HCS.out.mono (HC.out.same O4.out HC.out.le) (fun _ h=>h) (fun _ _ _ h=>h.mono (HC.out.same O4.out HC.out.le) (fun _ h=>h) (fun _ _ h=>h.mono (HC.out.same O4.out HC.out.le) (fun _ h=>h))));clear hV4 q4 v0 v1 v2 v3 v4 v5 s0 s1 ff;refine (hCl _ N mb PL es z _ cls HCK.out C4.out T4.out HZ2.out HW2.out).mono ?_;rintro e w5 ⟨u5,fq,rfl,ho5,hnd5,hrg5,hb5,hmm5⟩;obtain ⟨pu5,cu5,hu5,hcl5,hcm5⟩:=ho5.shape;rw [List.length_map,HL2.out] at hu5;subst hu5;have HO5:=hid ho5;have ND5:Hid (fq.Nodup∧∀ a ∈ fq,w4.heap.size≤a∧a<w5.heap.size):=⟨hnd5,fun a ha=>⟨by have:=(hrg5 a ha).1;omega,(hrg5 a ha).2⟩⟩;have K5:Hid (OffB mb V4.heap.size V4 w5):=hb5;have g5:=hb5.size;have MS5:=hid hmm5;have b5:=hid (hb5.blk B4.out B4.out.lt (by omega));have e5:=hid (hb5.blk E4.out E4.out.lt (by omega));have r5:=hid (hb5.blk R4.out R4.out.lt (by omega));obtain ⟨V5,hV5⟩:∃ V5,V5=w5.setCell ⟨w.heap.size+1,5,none⟩ (.slice pu5 n2 cu5):=⟨_,rfl⟩
 have q5:∀ a,a≠w.heap.size+1→V5.heap[a]?=w5.heap[a]?:=fun a ha=>by rw [hV5];exact Below.heap_setCell _ _ _ _ ha
 have OV5:Hid (OffB mb (w.heap.size+1) w5 V5):=(by show OffB _ _ _ _;rw [hV5];exact (OffB.refl _ _ _).setCell (by show _≤w.heap.size+1;exact Nat.le_refl _) _);have sV5:V5.heap.size=w5.heap.size:=(by rw [hV5];simp [World.setCell]);have E5:Hid (Blk V5 (w.heap.size+1) #[.int .i64 k0,.int .i64 n0,.string t0,.string m0,.slice pu4 n1 cu4,.slice pu5 n2 cu5] 76):=(by show Blk _ _ _ _;rw [hV5];exact e5.out.same rfl);have B5:Hid (Blk V5 w.heap.size #[.func (.func 31) #[] #[.pointer (some ⟨bf,0,none⟩),.pointer (some ⟨bt,0,none⟩)],.map (some mb)] 73):=(q5 _ (by omega)).trans b5.out;have R5:Hid (Blk V5 (w.heap.size+2) #[.int .i64 0,.int .i64 0,.string ⟨#[]⟩,.string ⟨#[]⟩,.slice none 0 0,.slice none 0 0] 76):=(q5 _ (by omega)).trans r5.out;have O5:=hid (O4.out.trans ((K5.out.mono (by omega)).trans (OV5.out.mono (by omega))));have C5:=hid (HCK.out _ _ (O5.out.mono HC.out.le) HC.out.cap);have Q5:=hid q5;have HV5:=hid hV5;have ff:=e5.out.frozen 5;obtain ⟨v0,v1,v2,v3,v4,v5⟩:=sqB6 e5.out;obtain ⟨s0,s1⟩:=sqB2 b5.out;obtain ⟨x0,x1,x2,x3,x4,x5⟩:=sqB6 E5.out;obtain ⟨y0,y1⟩:=sqB2 B5.out;clear ho5 hnd5 hrg5 hb5 hmm5 hcl5 hcm5 hV5 q5;go_wp2_with (rw [← HV5.out]);refine (hCh V5 k0 n0 t0 m0 _ _ n1 _ n2 _ C5.out HN1.out).mono ?_;rintro e w6 ⟨rfl,hb6⟩;have K6:=hid hb6;have g6:=hb6.size;have r6:=hid (R5.out.next hb6);obtain ⟨c0,c1,c2,c3,c4,c5⟩:=sqB6 r6.out;obtain ⟨f0,f1,f2,f3,f4,f5⟩:=sqF6 r6.out;clear hb6 v0 v1 v2 v3 v4 v5 s0 s1 x0 x1 x2 x3 x4 x5 y0 y1 ff;go_wp2_with fail;obtain ⟨W7,hW7⟩:∃ W7,W7=(((((w6.setCell ⟨w.heap.size+2,0,none⟩ (.int .i64 k0)).setCell ⟨w.heap.size+2,1,none⟩ (.int .i64 n0)).setCell ⟨w.heap.size+2,2,none⟩ (.string ((ftV sf st) k0 t0 m0 n1))).setCell ⟨w.heap.size+2,3,none⟩ (.string m0)).setCell ⟨w.heap.size+2,4,none⟩ (.slice pu4 n1 cu4)).setCell ⟨w.heap.size+2,5,none⟩ (.slice pu5 n2 cu5):=⟨_,rfl⟩;have bz:Blk W7 (w.heap.size+2) #[.int .i64 k0,.int .i64 n0,.string ((ftV sf st) k0 t0 m0 n1),.string m0,.slice pu4 n1 cu4,.slice pu5 n2 cu5] 76:=(by rw [hW7];exact (((((r6.out.same rfl).same rfl).same rfl).same rfl).same rfl).same rfl)
 have o7:∀ a,a≠w.heap.size+2→W7.heap[a]?=w6.heap[a]?:=fun a ha=>by rw [hW7,Below.heap_setCell _ _ _ _ ha,Below.heap_setCell _ _ _ _ ha,Below.heap_setCell _ _ _ _ ha,Below.heap_setCell _ _ _ _ ha,Below.heap_setCell _ _ _ _ ha,Below.heap_setCell _ _ _ _ ha]
 have K7:Below 0 w6 W7:=(by rw [hW7];exact ((((((Below.refl 0 w6).setCell (Nat.zero_le _) _).setCell (Nat.zero_le _) _).setCell (Nat.zero_le _) _).setCell (Nat.zero_le _) _).setCell (Nat.zero_le _) _).setCell (Nat.zero_le _) _);have s7:W7.heap.size=w6.heap.size:=(by rw [hW7];simp [World.setCell]);obtain ⟨j0,j1,j2,j3,j4,j5⟩:=sqB6 bz;have way:∀ a,W3.heap.size≤a→a<w5.heap.size→W7.heap[a]?=w5.heap[a]?:=fun a h1 h2=>(o7 a (by omega)).trans ((K6.out.block a (by omega)).trans (Q5.out a (by omega)))
 have o4:ORows W7 76 6 (OEx W7 d) (.slice pu4 n1 cu4) (ks.map (mapX (fT (ftV sf st)) d)) fp:=by
  have kk:KeepOn fp w4 W7:=fun a ha=>by
   have h:=ND4.out.2 a ha;exact (way a h.1 (by omega)).trans ((K5.out.block a (by omega) (by omega)).trans (Q4.out a (by omega)))
  exact HO4.out.keep kk (fun cs x f _ hs h=>h.keep (kk.sub hs))
 have o5:ORows W7 46 2 (OCl W7 (OEx W7 d)) (.slice pu5 n2 cu5) (cls.map (mapC (fT (ftV sf st)) d)) fq:=by
  have kk:KeepOn fq w5 W7:=fun a ha=>by
   have h:=ND5.out.2 a ha;exact way a (by omega) h.2
  exact HO5.out.keep kk (fun cs x f _ hs h=>OCls.keep h (kk.sub hs))
 have nd:(fp ++ fq).Nodup:=by
  rw [List.nodup_append];refine ⟨ND4.out.1,ND5.out.1,fun a ha b hb=>?_⟩;have h:=ND4.out.2 a ha;have h':=ND5.out.2 b hb;omega
 have rg:∀ a ∈ fp ++ fq,w.heap.size≤a∧a<W7.heap.size:=fun a ha=>by
  rcases List.mem_append.1 ha with ha | ha
  · have h:=ND4.out.2 a ha;omega
  · have h:=ND5.out.2 a ha;omega
 have of:OffB mb w.heap.size w W7:=O5.out.trans ⟨K7.os.trans K6.out.os,K7.tape.trans K6.out.tape,K7.output.trans K6.out.output,by omega,fun a h1 h2=>(o7 a (by omega)).trans (K6.out.block a (by omega))⟩;have ms:MapSt W7 mb es:=(MS5.out.keep (Q5.out mb (by omega))).keep ((o7 mb (by omega)).trans (K6.out.block mb (by omega)));have hk:=HOK.out;have hl1:=HL1.out
 have fin:ResM w mb es (fun w' u fp=>∃ cs',u=.agg cs'.toArray∧OEx w' (d+1) cs' (mapX (fT (ftV sf st)) (d+1) (.mk k0 n0 t0 m0 ks cls)) fp) (.returned (.agg #[.int .i64 k0,.int .i64 n0,.string ((ftV sf st) k0 t0 m0 n1),.string m0,.slice pu4 n1 cu4,.slice pu5 n2 cu5])) W7:=by
  refine ⟨_,fp ++ fq,rfl,⟨[.int .i64 k0,.int .i64 n0,.string ((ftV sf st) k0 t0 m0 n1),.string m0,.slice pu4 n1 cu4,.slice pu5 n2 cu5],rfl,?_⟩,nd,rg,of,ms⟩
  have hx:mapX (fT (ftV sf st)) (d+1) (.mk k0 n0 t0 m0 ks cls)=.mk k0 n0 ((ftV sf st) k0 t0 m0 n1) m0 (ks.map (mapX (fT (ftV sf st)) d)) (cls.map (mapC (fT (ftV sf st)) d)):=by
   show fT _ (Ex.mk k0 n0 t0 m0 (ks.map (mapX (fT (ftV sf st)) d)) (cls.map (mapC (fT (ftV sf st)) d)))=_;simp only [fT,Ex.kind,Ex.n,Ex.text,Ex.mod,Ex.kids,Ex.clauses,List.length_map,hl1]
  rw [hx];exact ⟨_,_,fp,fq,rfl,rfl,hk.1,hk.2.1,HOF.out k0 t0 m0 n1 hk.2.2.1,hk.2.2.2,o4,o5⟩
 rw [hW7] at fin j0 j1 j2 j3 j4 j5;exact bodyPost_ret (v:=.agg #[.int .i64 k0,.int .i64 n0,.string ((ftV sf st) k0 t0 m0 n1),.string m0,.slice pu4 n1 cu4,.slice pu5 n2 cu5]) (by simp [results,results121,go_sem,j0,j1,j2,j3,j4,j5]) rfl fin
theorem all {bf bt:Nat} {sf st:ByteArray} {Cap:World→Prop} (hCh:ChgR bf bt sf st Cap) (hok:∀ k t m n,okS t→okS ((ftV sf st) k t m n)):∀ d,ExpR bf bt sf st Cap d
 | 0=>fun w N mb PL es z cs x _ _ h _ _=>h.elim
 | d+1=>exp_of (exps_of (all hCh hok d)) (eachCl_of (clause_of (exps_of (all hCh hok d)))) hCh hok
theorem clause {bf bt:Nat} {sf st:ByteArray} {Cap:World→Prop} (hCh:ChgR bf bt sf st Cap) (hok:∀ k t m n,okS t→okS ((ftV sf st) k t m n)) (d:Nat):ClR bf bt sf st Cap d:=clause_of (exps_of (all hCh hok d))
end RemV
def CapV (N mb bf bt:Nat) (sf st:ByteArray) (w:World):Prop:=Blk w bf #[.string sf] 9∧Blk w bt #[.string st] 9∧bf<N∧bt<N∧bf≠mb∧bt≠mb
theorem capV (N mb bf bt:Nat) (sf st:ByteArray):CapK (CapV N mb bf bt sf st) N mb:=fun w w' ho h =>
 ⟨ho.blk h.1 h.2.2.1 h.2.2.2.2.1,ho.blk h.2.1 h.2.2.2.1 h.2.2.2.2.2,h.2.2⟩
theorem chgV (N mb bf bt:Nat) (sf st:ByteArray):RemV.ChgR bf bt sf st (CapV N mb bf bt sf st):=by
 intro w k n t m p1 p2 n1 q1 n2 q2 hc _;obtain ⟨h1,h2,-⟩:=hc;obtain ⟨W2,hW2⟩:∃ W2,W2=(w.alloc (.cells #[.int .i64 k,.int .i64 n,.string t,.string m,.slice p1 n1 q1,.slice p2 n2 q2] 76)).alloc (.cells #[.int .i64 0,.int .i64 0,.string ⟨#[]⟩,.string ⟨#[]⟩,.slice none 0 0,.slice none 0 0] 76):=⟨_,rfl⟩;have HW2:=hid hW2;have B2:Hid (Bz w W2):=(by show Below _ _ _;rw [hW2];exact ((sqN _ _)).alloc (by simp) _);have e2:Hid (Blk W2 w.heap.size #[.int .i64 k,.int .i64 n,.string t,.string m,.slice p1 n1 q1,.slice p2 n2 q2] 76):=(by show Blk _ _ _ _;rw [hW2];exact Blk.new.alloc)
 have r2:Hid (Blk W2 (w.heap.size+1) #[.int .i64 0,.int .i64 0,.string ⟨#[]⟩,.string ⟨#[]⟩,.slice none 0 0,.slice none 0 0] 76):=by
  have:=Blk.new (w:=w.alloc (.cells #[.int .i64 k,.int .i64 n,.string t,.string m,.slice p1 n1 q1,.slice p2 n2 q2] 76)) (cs:=#[.int .i64 0,.int .i64 0,.string ⟨#[]⟩,.string ⟨#[]⟩,.slice none 0 0,.slice none 0 0]) (t:=76);rw [alloc_hs] at this;show Blk _ _ _ _;rw [hW2];exact this
 have hlf:=h1.lt;have hlt:=h2.lt;have u1:=h1.next B2.out;have u2:=h2.next B2.out;have c1:=u1.cell 0 _ rfl;have c2:=u2.cell 0 _ rfl;obtain ⟨y0,y1,y2,y3,y4,y5⟩:=sqB6 e2.out;obtain ⟨x0,x1,x2,x3,x4,x5⟩:=sqB6 r2.out;obtain ⟨f0,f1,f2,f3,f4,f5⟩:=sqF6 r2.out;have g2:=e2.out.frozen 2
 have FIN:Hid (∀ (W3:World) (x:ByteArray),Blk W3 w.heap.size #[.int .i64 k,.int .i64 n,.string x,.string m,.slice p1 n1 q1,.slice p2 n2 q2] 76→Blk W3 (w.heap.size+1) #[.int .i64 0,.int .i64 0,.string ⟨#[]⟩,.string ⟨#[]⟩,.slice none 0 0,.slice none 0 0] 76→Bz w W3 →
  Blk ((((((W3.setCell ⟨w.heap.size+1,0,none⟩ (.int .i64 k)).setCell ⟨w.heap.size+1,1,none⟩ (.int .i64 n)).setCell ⟨w.heap.size+1,2,none⟩ (.string x)).setCell ⟨w.heap.size+1,3,none⟩ (.string m)).setCell ⟨w.heap.size+1,4,none⟩ (.slice p1 n1 q1)).setCell ⟨w.heap.size+1,5,none⟩ (.slice p2 n2 q2)) (w.heap.size+1) #[.int .i64 k,.int .i64 n,.string x,.string m,.slice p1 n1 q1,.slice p2 n2 q2] 76 ∧
  Bz w ((((((W3.setCell ⟨w.heap.size+1,0,none⟩ (.int .i64 k)).setCell ⟨w.heap.size+1,1,none⟩ (.int .i64 n)).setCell ⟨w.heap.size+1,2,none⟩ (.string x)).setCell ⟨w.heap.size+1,3,none⟩ (.string m)).setCell ⟨w.heap.size+1,4,none⟩ (.slice p1 n1 q1)).setCell ⟨w.heap.size+1,5,none⟩ (.slice p2 n2 q2))):=fun W3 x hE hR hB =>
  ⟨(((((hR.same rfl).same rfl).same rfl).same rfl).same rfl).same rfl,(((((hB.setCell (Nat.le_succ _) _).setCell (Nat.le_succ _) _).setCell (Nat.le_succ _) _).setCell (Nat.le_succ _) _).setCell (Nat.le_succ _) _).setCell (Nat.le_succ _) _⟩
 clear hW2 u1 u2 h1 h2;by_cases hk:k=2
 · subst hk
   cases hq:(t.toList == sf.toList) with
   | true =>
    have HV:Hid (ftV sf st 2 t m n1=st):=(by show _=_;simp [ftV,hq]);obtain ⟨W3,hW3⟩:∃ W3,W3=W2.setCell ⟨w.heap.size,2,none⟩ (.string st):=⟨_,rfl⟩;have HW3:=hid hW3;have e3:Hid (Blk W3 w.heap.size #[.int .i64 2,.int .i64 n,.string st,.string m,.slice p1 n1 q1,.slice p2 n2 q2] 76):=(by show Blk _ _ _ _;rw [hW3];exact e2.out.same rfl);have r3:Hid (Blk W3 (w.heap.size+1) #[.int .i64 0,.int .i64 0,.string ⟨#[]⟩,.string ⟨#[]⟩,.slice none 0 0,.slice none 0 0] 76):=(by show Blk _ _ _ _;rw [hW3];exact r2.out.other (by show w.heap.size+1≠w.heap.size;omega));have B3:Hid (Bz w W3):=(by show Below _ _ _;rw [hW3];exact B2.out.setCell (sqR _) _);clear hW3;obtain ⟨w0,w1,w2,w3,w4,w5⟩:=sqB6 e3.out;obtain ⟨v0,v1,v2,v3,v4,v5⟩:=sqB6 r3.out;obtain ⟨h0,h1,h2,h3,h4,h5⟩:=sqF6 r3.out;go_enter func31,ntmps31;go_wp2_with (first | rw [← HW2.out] | rw [← HW3.out]);obtain ⟨bz,hz⟩:=FIN.out W3 st e3.out r3.out B3.out;obtain ⟨j0,j1,j2,j3,j4,j5⟩:=sqB6 bz;exact bodyPost_ret (v:=.agg #[.int .i64 2,.int .i64 n,.string st,.string m,.slice p1 n1 q1,.slice p2 n2 q2]) (by simp [results,results31,go_sem,j0,j1,j2,j3,j4,j5]) rfl ⟨by rw [HV.out],hz⟩
   | false =>
    have HV:Hid (ftV sf st 2 t m n1=t):=(by show _=_;simp [ftV,hq]);go_enter func31,ntmps31;go_wp2_with (rw [← HW2.out]);obtain ⟨bz,hz⟩:=FIN.out W2 t e2.out r2.out B2.out;obtain ⟨j0,j1,j2,j3,j4,j5⟩:=sqB6 bz;exact bodyPost_ret (v:=.agg #[.int .i64 2,.int .i64 n,.string t,.string m,.slice p1 n1 q1,.slice p2 n2 q2]) (by simp [results,results31,go_sem,j0,j1,j2,j3,j4,j5]) rfl ⟨by rw [HV.out],hz⟩
 · have HV:Hid (ftV sf st k t m n1=t):=by show _=_;simp [ftV,hk]
   go_enter func31,ntmps31;go_wp2_with (rw [← HW2.out]);obtain ⟨bz,hz⟩:=FIN.out W2 t e2.out r2.out B2.out;obtain ⟨j0,j1,j2,j3,j4,j5⟩:=sqB6 bz;exact bodyPost_ret (v:=.agg #[.int .i64 k,.int .i64 n,.string t,.string m,.slice p1 n1 q1,.slice p2 n2 q2]) (by simp [results,results31,go_sem,j0,j1,j2,j3,j4,j5]) rfl ⟨by rw [HV.out],hz⟩
def inB (x a b:Int):Bool:=decide (a≤x∧x≤b)
def signB (n:Int):Bool:=inB n 97 122 || inB n 65 90 || inB n 48 57 || n == 95
theorem ret_bool {a b:Bool} (h:a=b):Ending.returned (.bool a)=.returned (.bool b):=by rw [h]
theorem l01In_any (x a b:Int) (w:World) :
 Calls prog 55 #[.int .i64 x,.int .i64 a,.int .i64 b] w fun e w'=>e=.returned (.bool (inB x a b))∧w'=w:=by
 by_cases h1:a≤x <;> by_cases h2:x≤b
 all_goals
  go_enter func55,ntmps55;go_wp2;go_ret;exact ⟨ret_bool (by simp [inB,h1,h2]),rfl⟩
theorem l01Small_any (n:Int) (w:World) (h0:0≤n) (h1:n<256) :
 Calls prog 81 #[.int .u8 n] w fun e w'=>e=.returned (.bool (inB n 97 122))∧w'=w:=by
 go_enter func81,ntmps81;go_wp2_with (go_at_call 55;go_must (refine (l01In_any _ _ _ _).mono ?_;rintro e w' ⟨rfl,rfl⟩));go_ret;exact ⟨rfl,rfl⟩
theorem l01Great_any (n:Int) (w:World) (h0:0≤n) (h1:n<256) :
 Calls prog 62 #[.int .u8 n] w fun e w'=>e=.returned (.bool (inB n 65 90))∧w'=w:=by
 go_enter func62,ntmps62;go_wp2_with (go_at_call 55;go_must (refine (l01In_any _ _ _ _).mono ?_;rintro e w' ⟨rfl,rfl⟩));go_ret;exact ⟨rfl,rfl⟩
theorem l01Digit_any (n:Int) (w:World) (h0:0≤n) (h1:n<256) :
 Calls prog 148 #[.int .u8 n] w fun e w'=>e=.returned (.bool (inB n 48 57))∧w'=w:=by
 go_enter func148,ntmps148;go_wp2_with (go_at_call 55;go_must (refine (l01In_any _ _ _ _).mono ?_;rintro e w' ⟨rfl,rfl⟩));go_ret;exact ⟨rfl,rfl⟩
theorem isSmall_any (n:Int) (w:World) (h0:0≤n) (h1:n<256) :
 Calls prog 127 #[.int .u8 n] w fun e w'=>e=.returned (.bool (inB n 97 122))∧w'=w:=by
 by_cases h1:97≤n <;> by_cases h2:n≤122
 all_goals
  go_enter func127,ntmps127;go_wp2;go_ret;exact ⟨ret_bool (by simp [inB,h1,h2]),rfl⟩
theorem isGreat_any (n:Int) (w:World) (h0:0≤n) (h1:n<256) :
 Calls prog 116 #[.int .u8 n] w fun e w'=>e=.returned (.bool (inB n 65 90))∧w'=w:=by
 by_cases h1:65≤n <;> by_cases h2:n≤90
 all_goals
  go_enter func116,ntmps116;go_wp2;go_ret;exact ⟨ret_bool (by simp [inB,h1,h2]),rfl⟩
theorem isDigit_any (n:Int) (w:World) (h0:0≤n) (h1:n<256) :
 Calls prog 194 #[.int .u8 n] w fun e w'=>e=.returned (.bool (inB n 48 57))∧w'=w:=by
 by_cases h1:48≤n <;> by_cases h2:n≤57
 all_goals
  go_enter func194,ntmps194;go_wp2;go_ret;exact ⟨ret_bool (by simp [inB,h1,h2]),rfl⟩
theorem l01Sign_any (n:Int) (w:World) (h0:0≤n) (h1:n<256) :
 Calls prog 104 #[.int .u8 n] w fun e w'=>e=.returned (.bool (signB n))∧w'=w:=by
 have hb1:inB n 97 122=true∨inB n 97 122=false:=by cases inB n 97 122 <;> simp
 have hb2:inB n 65 90=true∨inB n 65 90=false:=by cases inB n 65 90 <;> simp
 have hb3:inB n 48 57=true∨inB n 48 57=false:=by cases inB n 48 57 <;> simp
 rcases hb1 with hb1 | hb1 <;> rcases hb2 with hb2 | hb2 <;> rcases hb3 with hb3 | hb3
 all_goals
  go_enter func104,ntmps104
  go_wp2_with (first
   | (go_at_call 81;go_must (refine (l01Small_any _ _ h0 h1).mono ?_;rintro e w' ⟨rfl,rfl⟩))
   | (go_at_call 62;go_must (refine (l01Great_any _ _ h0 h1).mono ?_;rintro e w' ⟨rfl,rfl⟩))
   | (go_at_call 148;go_must (refine (l01Digit_any _ _ h0 h1).mono ?_;rintro e w' ⟨rfl,rfl⟩)))
  go_ret;exact ⟨ret_bool (by simp [signB,hb1,hb2,hb3]),rfl⟩
theorem isNamePart_any (n:Int) (w:World) (h0:0≤n) (h1:n<256) :
 Calls prog 160 #[.int .u8 n] w fun e w'=>e=.returned (.bool (signB n))∧w'=w:=by
 have hb1:inB n 97 122=true∨inB n 97 122=false:=by cases inB n 97 122 <;> simp
 have hb2:inB n 65 90=true∨inB n 65 90=false:=by cases inB n 65 90 <;> simp
 have hb3:inB n 48 57=true∨inB n 48 57=false:=by cases inB n 48 57 <;> simp
 rcases hb1 with hb1 | hb1 <;> rcases hb2 with hb2 | hb2 <;> rcases hb3 with hb3 | hb3
 all_goals
  go_enter func160,ntmps160
  go_wp2_with (first
   | (go_at_call 127;go_must (refine (isSmall_any _ _ h0 h1).mono ?_;rintro e w' ⟨rfl,rfl⟩))
   | (go_at_call 116;go_must (refine (isGreat_any _ _ h0 h1).mono ?_;rintro e w' ⟨rfl,rfl⟩))
   | (go_at_call 194;go_must (refine (isDigit_any _ _ h0 h1).mono ?_;rintro e w' ⟨rfl,rfl⟩)))
  go_ret;exact ⟨ret_bool (by simp [signB,hb1,hb2,hb3]),rfl⟩
def allB (l:List UInt8):Bool:=l.all fun c=>signB (c.toNat:Int)
def nameB (s:ByteArray):Bool:=allB s.data.toList && decide (1≤s.size∧s.size≤10)
theorem take_snoc (s:ByteArray) (k:Nat) (h:k<s.size):s.data.toList.take (k+1)=s.data.toList.take k ++ [s[k]]:=by
 rw [List.take_succ_eq_append_getElem (by simpa using h)];rfl
theorem allB_snoc (s:ByteArray) (k:Nat) (h:k<s.size) (ha:allB (s.data.toList.take k)=true) (hs:signB (s[k].toNat:Int)=true) :
 allB (s.data.toList.take (k+1))=true:=by
 rw [take_snoc s k h];unfold allB at *;rw [List.all_append,ha];simp [hs]
theorem allB_no (s:ByteArray) (k:Nat) (h:k<s.size) (hs:signB (s[k].toNat:Int)=false) :
 allB s.data.toList=false:=by
 unfold allB;rw [List.all_eq_false];refine ⟨s[k],?_,by simp [hs]⟩;exact List.getElem_mem (by simpa using h)
theorem allB_all (s:ByteArray) (k:Nat) (h:s.size≤k) (ha:allB (s.data.toList.take k)=true):allB s.data.toList=true:=by
 rwa [List.take_of_length_le (by simpa using h)] at ha
theorem byte_lt (s:ByteArray) (k:Nat) (h:k<s.size):0≤((s[k].toNat:Nat):Int)∧((s[k].toNat:Nat):Int)<256:=by
 have:=s[k].toNat_lt;omega
theorem inB_size (n:Nat):inB (n:Int) 1 10=decide (1≤n∧n≤10):=by
 unfold inB;rw [decide_eq_decide];omega
theorem nameB_none (s:ByteArray) (h:¬ 1≤s.size∨¬ s.size≤10):nameB s=false:=by
 unfold nameB;rw [decide_eq_false (by omega),Bool.and_false]
theorem nameB_some (s:ByteArray) (h1:1≤s.size) (h2:s.size≤10):nameB s=allB s.data.toList:=by
 unfold nameB;rw [decide_eq_true ⟨h1,h2⟩,Bool.and_true]
theorem l01Name_any (s:ByteArray) (w:World) (hs:s.size≤maxLen) :
 Calls prog 61 #[.string s] w fun e w'=>e=.returned (.bool (nameB s))∧w'=w:=by
 unfold maxLen at hs;go_enter func61,ntmps61;go_wp2
 go_loop [3] (fun i=>∃ k:Nat,k≤s.size∧i=.int .i64 k∧allB (s.data.toList.take k)=true) (fun i=>s.size - (intOf i).toNat)
 case atStart=>exact ⟨0,Nat.zero_le _,rfl,rfl⟩
 case round =>
  obtain ⟨k,hk,rfl,ha⟩:=hrel;by_cases hlt:k<s.size
  · have hb:=byte_lt s k hlt
    have HA:=hid ha;clear ha
    have hc:signB (s[k].toNat:Int)=true∨signB (s[k].toNat:Int)=false:=by cases signB (s[k].toNat:Int) <;> simp
    rcases hc with hc | hc
    · go_wp2_with (go_at_call 104;go_must (refine (l01Sign_any _ _ hb.1 hb.2).mono ?_;rintro e w' ⟨rfl,rfl⟩))
      go_round
      case rel=>exact ⟨k+1,by omega,by go_num,allB_snoc s k hlt HA.out hc⟩
      case measure=>simp [intOf];omega
    · go_wp2_with (go_at_call 104;go_must (refine (l01Sign_any _ _ hb.1 hb.2).mono ?_;rintro e w' ⟨rfl,rfl⟩))
      go_ret;exact ⟨ret_bool (by simp [nameB,allB_no s k hlt hc]),rfl⟩
  · have hall:=allB_all s k (by omega) ha
    have HA:=hid hall;clear ha hall;go_wp2_with (go_at_call 55;go_must (refine (l01In_any _ _ _ _).mono ?_;rintro e w' ⟨rfl,rfl⟩));go_ret;exact ⟨ret_bool (by rw [nameB,HA.out,Bool.true_and,inB_size]),rfl⟩
theorem madeOf_name (s:ByteArray) (w:World) (hs:s.size≤maxLen) :
 Calls prog 159 #[.string s,.func (.func 160) #[] #[]] w fun e w'=>e=.returned (.bool (allB s.data.toList))∧w'=w:=by
 unfold maxLen at hs;go_enter func159,ntmps159;go_wp2
 go_loop [8] (fun i=>∃ k:Nat,k≤s.size∧i=.int .i64 k∧allB (s.data.toList.take k)=true) (fun i=>s.size - (intOf i).toNat)
 case atStart=>exact ⟨0,Nat.zero_le _,rfl,rfl⟩
 case round =>
  obtain ⟨k,hk,rfl,ha⟩:=hrel;by_cases hlt:k<s.size
  · have hb:=byte_lt s k hlt
    have HA:=hid ha;clear ha
    have hc:signB (s[k].toNat:Int)=true∨signB (s[k].toNat:Int)=false:=by cases signB (s[k].toNat:Int) <;> simp
    rcases hc with hc | hc
    · go_wp2_with (go_at_call 160;go_must (refine (isNamePart_any _ _ hb.1 hb.2).mono ?_;rintro e w' ⟨rfl,rfl⟩))
      go_round
      case rel=>exact ⟨k+1,by omega,by go_num,allB_snoc s k hlt HA.out hc⟩
      case measure=>simp [intOf];omega
    · go_wp2_with (go_at_call 160;go_must (refine (isNamePart_any _ _ hb.1 hb.2).mono ?_;rintro e w' ⟨rfl,rfl⟩))
      go_ret;exact ⟨ret_bool (by rw [allB_no s k hlt hc]),rfl⟩
  · have hall:=allB_all s k (by omega) ha
    have HA:=hid hall;clear ha hall;go_wp2;go_ret;exact ⟨ret_bool (by rw [HA.out]),rfl⟩
theorem nameOk_any (s:ByteArray) (w:World) (hs:s.size≤maxLen) :
 Calls prog 115 #[.string s] w fun e w'=>e=.returned (.bool (nameB s))∧w'=w:=by
 have hs':=hs;unfold maxLen at hs;by_cases h1:1≤s.size
 · by_cases h2:s.size≤10
   · go_enter func115,ntmps115
     go_wp2_with (go_at_call 159;go_must (refine (madeOf_name _ _ hs').mono ?_;rintro e w' ⟨rfl,rfl⟩));go_ret;exact ⟨ret_bool (nameB_some s h1 h2).symm,rfl⟩
   · go_enter func115,ntmps115
     go_wp2;go_ret;exact ⟨ret_bool (nameB_none s (.inr h2)).symm,rfl⟩
 · go_enter func115,ntmps115
   go_wp2;go_ret;exact ⟨ret_bool (nameB_none s (.inl h1)).symm,rfl⟩
end Go.Proofs.YtdhlonogmnkemaaGreatDoor
namespace Go.Proofs.YtdhlonogmnkemaaGreatDoor
open Go.ChangeShapes Go.WideShapes Go.ChangeAt Go.RowKit
set_option linter.unusedVariables false
set_option maxRecDepth 100000
def firstN (s:ByteArray):Int:=((s.data.toList.headD 0).toNat:Int)
def varB (s:ByteArray):Bool:=nameB s && inB (firstN s) 65 90
theorem nameB_size (s:ByteArray) (h:nameB s=true):0<s.size:=by
 unfold nameB at h;rw [Bool.and_eq_true] at h;have:=of_decide_eq_true h.2;omega
theorem first_eq (s:ByteArray) (h:0<s.size):(s[0].toNat:Int)=firstN s:=by
 have e:s.data.toList.headD 0=s[0]:=by
  have h':0<s.data.toList.length:=(by simpa using h);rw [List.headD_eq_head?_getD,List.head?_eq_getElem?,List.getElem?_eq_getElem h']
  rfl
 rw [firstN,e]
end Go.Proofs.YtdhlonogmnkemaaGreatDoor
namespace Go.Proofs.YtdhlonogmnkemaaGreatDoor
open Go.ChangeShapes Go.WideShapes Go.ChangeAt Go.RowKit Go.Proofs.Tryz
set_option linter.unusedVariables false
set_option maxRecDepth 100000
theorem specVarOk_any (s:ByteArray) (w:World) (hs:s.size≤maxLen) :
 Calls prog 22 #[.string s] w fun e w'=>e=.returned (.bool (varB s))∧w'=w:=by
 have hs':=hs;unfold maxLen at hs
 have hn:nameB s=true∨nameB s=false:=by cases nameB s <;> simp
 rcases hn with hn | hn
 · have hz:=nameB_size s hn
   have hb:=byte_lt s 0 hz;have hf:=first_eq s hz;have HF:=hid hf;clear hf;go_enter func22,ntmps22
   go_wp2_with (first
    | (go_at_call 61;go_must (refine (l01Name_any _ _ hs').mono ?_;rintro e w' ⟨rfl,rfl⟩))
    | (go_at_call 62;go_must (refine (l01Great_any _ _ hb.1 hb.2).mono ?_;rintro e w' ⟨rfl,rfl⟩)))
   go_ret;exact ⟨ret_bool (by rw [varB,hn,HF.out,Bool.true_and]),rfl⟩
 · go_enter func22,ntmps22
   go_wp2_with (go_at_call 61;go_must (refine (l01Name_any _ _ hs').mono ?_;rintro e w' ⟨rfl,rfl⟩));go_ret;exact ⟨ret_bool (by rw [varB,hn,Bool.false_and]),rfl⟩
theorem implVarOk_any (s:ByteArray) (w:World) (hs:s.size≤maxLen) :
 Calls prog 71 #[.string s] w fun e w'=>e=.returned (.bool (varB s))∧w'=w:=by
 have hs':=hs;unfold maxLen at hs
 have hn:nameB s=true∨nameB s=false:=by cases nameB s <;> simp
 rcases hn with hn | hn
 · have hz:=nameB_size s hn
   have hb:=byte_lt s 0 hz;have hf:=first_eq s hz;have HF:=hid hf;clear hf;go_enter func71,ntmps71
   go_wp2_with (first
    | (go_at_call 115;go_must (refine (nameOk_any _ _ hs').mono ?_;rintro e w' ⟨rfl,rfl⟩))
    | (go_at_call 116;go_must (refine (isGreat_any _ _ hb.1 hb.2).mono ?_;rintro e w' ⟨rfl,rfl⟩)))
   go_ret;exact ⟨ret_bool (by rw [varB,hn,HF.out,Bool.true_and]),rfl⟩
 · go_enter func71,ntmps71
   go_wp2_with (go_at_call 115;go_must (refine (nameOk_any _ _ hs').mono ?_;rintro e w' ⟨rfl,rfl⟩));go_ret;exact ⟨ret_bool (by rw [varB,hn,Bool.false_and]),rfl⟩
def keyB (s:ByteArray):Bool:=s.toList == [99,97,115,101] || s.toList == [111,102] || s.toList == [101,110,100]
def KeysAt (w:World):Prop :=
 w.cell? ⟨0,0,none⟩=some (.string ⟨#[99,97,115,101]⟩)∧w.cell? ⟨0,1,none⟩=some (.string ⟨#[111,102]⟩)∧w.cell? ⟨0,2,none⟩=some (.string ⟨#[101,110,100]⟩)
def atomB (s:ByteArray):Bool:=nameB s && inB (firstN s) 97 122 && !keyB s
theorem keyB_not {s:ByteArray} (h0:(s.toList == [99,97,115,101])=false) (h1:(s.toList == [111,102])=false) (h2:(s.toList == [101,110,100])=false):keyB s=false:=by
 rw [keyB,h0,h1,h2];rfl
theorem key0_yes {s:ByteArray} (h:([99,97,115,101] == s.toList)=true):keyB s=true:=by
 have e:=(beq_iff_eq.1 h).symm;simp [keyB,e]
theorem key0_no {s:ByteArray} (h:([99,97,115,101] == s.toList)=false):(s.toList == [99,97,115,101])=false:=by
 rw [beq_eq_false_iff_ne] at h ⊢;exact fun e=>h e.symm
theorem key1_yes {s:ByteArray} (h:([111,102] == s.toList)=true):keyB s=true:=by
 have e:=(beq_iff_eq.1 h).symm;simp [keyB,e]
theorem key1_no {s:ByteArray} (h:([111,102] == s.toList)=false):(s.toList == [111,102])=false:=by
 rw [beq_eq_false_iff_ne] at h ⊢;exact fun e=>h e.symm
theorem key2_yes {s:ByteArray} (h:([101,110,100] == s.toList)=true):keyB s=true:=by
 have e:=(beq_iff_eq.1 h).symm;simp [keyB,e]
theorem key2_no {s:ByteArray} (h:([101,110,100] == s.toList)=false):(s.toList == [101,110,100])=false:=by
 rw [beq_eq_false_iff_ne] at h ⊢;exact fun e=>h e.symm
theorem l01Key_any (s:ByteArray) (w:World) :
 Calls prog 82 #[.string s] w fun e w'=>e=.returned (.bool (keyB s))∧w'=w:=by
 go_enter func82,ntmps82;go_wp2
 all_goals go_ret
 · exact ⟨ret_bool (by simp [keyB, *]),rfl⟩
 · exact ⟨ret_bool (by simp [keyB, *]),rfl⟩
 · exact ⟨ret_bool (by simp [keyB]),rfl⟩
theorem keys_at0 (w:World):Sem.run prog (Instr.index 201 (.agg #[.string ⟨#[99,97,115,101]⟩,.string ⟨#[111,102]⟩,.string ⟨#[101,110,100]⟩]) (.int .i64 0)) w=.ok (.string ⟨#[99,97,115,101]⟩) w:=by kernel_rfl
theorem keys_at1 (w:World):Sem.run prog (Instr.index 201 (.agg #[.string ⟨#[99,97,115,101]⟩,.string ⟨#[111,102]⟩,.string ⟨#[101,110,100]⟩]) (.int .i64 1)) w=.ok (.string ⟨#[111,102]⟩) w:=by kernel_rfl
theorem keys_at2 (w:World):Sem.run prog (Instr.index 201 (.agg #[.string ⟨#[99,97,115,101]⟩,.string ⟨#[111,102]⟩,.string ⟨#[101,110,100]⟩]) (.int .i64 2)) w=.ok (.string ⟨#[101,110,100]⟩) w:=by kernel_rfl
theorem isKeyword_any (s:ByteArray) (w:World) (hk:KeysAt w) :
 Calls prog 128 #[.string s] w fun e w'=>e=.returned (.bool (keyB s))∧w'=w:=by
 obtain ⟨h0,h1,h2⟩:=hk;go_enter func128,ntmps128;go_wp2
 go_loop [6] (fun i=>∃ k:Nat,k≤3∧i=.int .i64 k∧(1≤k→(s.toList == [99,97,115,101])=false)∧(2≤k→(s.toList == [111,102])=false)∧(3≤k→(s.toList == [101,110,100])=false)) (fun i=>3 - (intOf i).toNat)
 case atStart=>exact ⟨0,by omega,rfl,by omega,by omega,by omega⟩
 case round =>
  obtain ⟨k,hk,rfl,n0,n1,n2⟩:=hrel;have H0:=hid n0;have H1:=hid n1;have H2:=hid n2;clear n0 n1 n2 h0 h1 h2
  rcases (by omega:k=0∨k=1∨k=2∨k=3) with rfl | rfl | rfl | rfl
  · have r0:=keys_at0
    go_wp2
    · go_ret
      exact ⟨ret_bool (key0_yes ‹_›).symm,rfl⟩
    · go_round
      case rel=>exact ⟨1,by omega,rfl,fun _=>key0_no ‹_›,by omega,by omega⟩
      case measure=>simp [intOf]
  · have r1:=keys_at1
    go_wp2
    · go_ret
      exact ⟨ret_bool (key1_yes ‹_›).symm,rfl⟩
    · go_round
      case rel=>exact ⟨2,by omega,rfl,fun _=>H0.out (by omega),fun _=>key1_no ‹_›,by omega⟩
      case measure=>simp [intOf]
  · have r2:=keys_at2
    go_wp2
    · go_ret
      exact ⟨ret_bool (key2_yes ‹_›).symm,rfl⟩
    · go_round
      case rel=>exact ⟨3,by omega,rfl,fun _=>H0.out (by omega),fun _=>H1.out (by omega),fun _=>key2_no ‹_›⟩
      case measure=>simp [intOf]
  · go_wp2
    go_ret;exact ⟨ret_bool (keyB_not (H0.out (by omega)) (H1.out (by omega)) (H2.out (by omega))).symm,rfl⟩
theorem specAtomOk_any (s:ByteArray) (w:World) (hs:s.size≤maxLen) :
 Calls prog 40 #[.string s] w fun e w'=>e=.returned (.bool (atomB s))∧w'=w:=by
 have hs':=hs;unfold maxLen at hs
 have hn:nameB s=true∨nameB s=false:=by cases nameB s <;> simp
 rcases hn with hn | hn
 · have hz:=nameB_size s hn
   have hb:=byte_lt s 0 hz;have hf:=first_eq s hz;have HF:=hid hf;clear hf
   have hi:inB (s[0].toNat:Int) 97 122=true∨inB (s[0].toNat:Int) 97 122=false:=by cases inB (s[0].toNat:Int) 97 122 <;> simp
   rcases hi with hi | hi
   · go_enter func40,ntmps40
     go_wp2_with (first
      | (go_at_call 61;go_must (refine (l01Name_any _ _ hs').mono ?_;rintro e w' ⟨rfl,rfl⟩))
      | (go_at_call 81;go_must (refine (l01Small_any _ _ hb.1 hb.2).mono ?_;rintro e w' ⟨rfl,rfl⟩))
      | (go_at_call 82;go_must (refine (l01Key_any _ _).mono ?_;rintro e w' ⟨rfl,rfl⟩)))
     go_ret;exact ⟨ret_bool (by rw [HF.out] at hi;simp [atomB,hn,hi]),rfl⟩
   · go_enter func40,ntmps40
     go_wp2_with (first
      | (go_at_call 61;go_must (refine (l01Name_any _ _ hs').mono ?_;rintro e w' ⟨rfl,rfl⟩))
      | (go_at_call 81;go_must (refine (l01Small_any _ _ hb.1 hb.2).mono ?_;rintro e w' ⟨rfl,rfl⟩)))
     go_ret;exact ⟨ret_bool (by rw [HF.out] at hi;simp [atomB,hi]),rfl⟩
 · go_enter func40,ntmps40
   go_wp2_with (go_at_call 61;go_must (refine (l01Name_any _ _ hs').mono ?_;rintro e w' ⟨rfl,rfl⟩));go_ret;exact ⟨ret_bool (by simp [atomB,hn]),rfl⟩
theorem implAtomOk_any (s:ByteArray) (w:World) (hs:s.size≤maxLen) (hk:KeysAt w) :
 Calls prog 85 #[.string s] w fun e w'=>e=.returned (.bool (atomB s))∧w'=w:=by
 have hs':=hs;unfold maxLen at hs
 have hn:nameB s=true∨nameB s=false:=by cases nameB s <;> simp
 rcases hn with hn | hn
 · have hz:=nameB_size s hn
   have hb:=byte_lt s 0 hz;have hf:=first_eq s hz;have HF:=hid hf;clear hf
   have hi:inB (s[0].toNat:Int) 97 122=true∨inB (s[0].toNat:Int) 97 122=false:=by cases inB (s[0].toNat:Int) 97 122 <;> simp
   rcases hi with hi | hi
   · go_enter func85,ntmps85
     go_wp2_with (first
      | (go_at_call 115;go_must (refine (nameOk_any _ _ hs').mono ?_;rintro e w' ⟨rfl,rfl⟩))
      | (go_at_call 127;go_must (refine (isSmall_any _ _ hb.1 hb.2).mono ?_;rintro e w' ⟨rfl,rfl⟩))
      | (go_at_call 128;go_must (refine (isKeyword_any _ _ hk).mono ?_;rintro e w' ⟨rfl,rfl⟩)))
     go_ret;exact ⟨ret_bool (by rw [HF.out] at hi;simp [atomB,hn,hi]),rfl⟩
   · go_enter func85,ntmps85
     go_wp2_with (first
      | (go_at_call 115;go_must (refine (nameOk_any _ _ hs').mono ?_;rintro e w' ⟨rfl,rfl⟩))
      | (go_at_call 127;go_must (refine (isSmall_any _ _ hb.1 hb.2).mono ?_;rintro e w' ⟨rfl,rfl⟩)))
     go_ret;exact ⟨ret_bool (by rw [HF.out] at hi;simp [atomB,hi]),rfl⟩
 · go_enter func85,ntmps85
   go_wp2_with (go_at_call 115;go_must (refine (nameOk_any _ _ hs').mono ?_;rintro e w' ⟨rfl,rfl⟩));go_ret;exact ⟨ret_bool (by simp [atomB,hn]),rfl⟩
end Go.Proofs.YtdhlonogmnkemaaGreatDoor
namespace Go.Proofs.YtdhlonogmnkemaaGreatDoor
open Go.ChangeShapes Go.WideShapes Go.ChangeAt Go.RowKit
set_option linter.unusedVariables false
set_option maxRecDepth 100000
def opB (t:ByteArray):Bool:=t.toList == [61,61] || t.toList == [60] || t.toList == [43] || t.toList == [45] || t.toList == [42]
def numB (k n:Int):Bool:=if k=0 then inB n 0 999999999 else decide (n=0)
def modB (k:Int) (m:ByteArray):Bool:=decide (m.toList = []) || (decide (k=8) && atomB m)
def tkB (k:Int) (t:ByteArray):Bool:=if k=1 then atomB t else if k=2 then varB t else if k=3 then opB t else decide (t.toList = [])
def txtK (k:Int):Int:=if k=1∨k=8 then 1 else if k=2 then 2 else if k=7 then 3 else 0
def txtB (k:Int) (t:ByteArray):Bool:=tkB (txtK k) t
def kidLo (k:Int):Int:=if k=4∨k=10 then 1 else if k=6∨k=7∨k=9 then 2 else 0
def kidHi (k:Int):Int:=if k=4 then 20 else if k=6∨k=7∨k=9 then 2 else if k=8 then 6 else if k=10 then 1 else 0
def clsLo (k:Int):Int:=if k=10 then 1 else 0
def clsHi (k:Int):Int:=if k=10 then 20 else 0
def plainB (k n:Int) (t m:ByteArray) (nk nc:Nat):Bool :=
 inB k 0 10 && (numB k n && (modB k m && (txtB k t && (inB nk (kidLo k) (kidHi k) && inB nc (clsLo k) (clsHi k)))))
def patB (k:Int) (pat:Bool):Bool:=if pat then decide (k≤6) else !decide (k=3)
def clB (f:Ex→Bool→Bool) (c:Cl) (pats:Int):Bool:=decide ((c.1.length:Int)=pats) && (inB c.2.length 1 20 && (c.1.all (fun y=>f y true) && c.2.all (fun y=>f y false)))
def kidsB (f:Ex→Bool→Bool):List Ex→Bool→Bool→Bool
 | [],_,_=>true
 | x :: xs,p0,p=>f x p0 && xs.all (fun y=>f y p)
def exOk:Nat→Ex→Bool→Int→Bool
 | 0,_,_,_=>false
 | d+1,.mk k n t m ks cs,pat,deep=>decide (0≤deep) && (plainB k n t m ks.length cs.length && (patB k pat && (kidsB (fun y q=>exOk d y q (deep - 1)) ks (pat || decide (k=9)) pat && cs.all (fun c=>clB (fun y q=>exOk d y q (deep - 1)) c 1))))
theorem kidsB_nil (f:Ex→Bool→Bool) (ks:List Ex) (p0 p:Bool):kidsB f (ks.take 0) p0 p=true:=by simp [kidsB]
theorem kidsB_succ (f:Ex→Bool→Bool) (ks:List Ex) (p0 p:Bool) (k:Nat) (x:Ex) (h:ks[k]?=some x) (ht:kidsB f (ks.take k) p0 p=true) (hx:f x (if k=0 then p0 else p)=true):kidsB f (ks.take (k+1)) p0 p=true:=by
 cases ks with
 | nil=>simp at h
 | cons y ys =>
  cases k with
  | zero=>simp at h hx;subst h;simp [kidsB,hx]
  | succ k =>
   simp only [List.getElem?_cons_succ] at h;simp only [Nat.add_one_ne_zero,if_false] at hx;simp only [List.take_succ_cons,kidsB,Bool.and_eq_true] at ht ⊢;refine ⟨ht.1,?_⟩;rw [List.take_add_one,h,List.all_append,ht.2];simp [hx]
theorem kidsB_at (f:Ex→Bool→Bool) (ks:List Ex) (p0 p:Bool) (k:Nat) (x:Ex) (h:ks[k]?=some x) (hx:f x (if k=0 then p0 else p)=false):kidsB f ks p0 p=false:=by
 cases ks with
 | nil=>simp at h
 | cons y ys =>
  cases k with
  | zero=>simp at h hx;subst h;simp [kidsB,hx]
  | succ k =>
   simp only [List.getElem?_cons_succ] at h;simp only [Nat.add_one_ne_zero,if_false] at hx;have:ys.all (fun y=>f y p)=false:=(by rw [List.all_eq_false];exact ⟨x,List.mem_of_getElem? h,by simp [hx]⟩);simp [kidsB,this]
theorem kidsB_same (f:Ex→Bool→Bool) (ks:List Ex) (p:Bool):kidsB f ks p p=ks.all (fun y=>f y p):=by
 cases ks <;> simp [kidsB]
theorem allT_succ {α:Type} (f:α→Bool) (xs:List α) (k:Nat) (x:α) (h:xs[k]?=some x) (ht:(xs.take k).all f=true) (hx:f x=true):(xs.take (k+1)).all f=true:=by
 rw [List.take_add_one,h,List.all_append,ht];simp [hx]
theorem allT_at {α:Type} (f:α→Bool) (xs:List α) (k:Nat) (x:α) (h:xs[k]?=some x) (hx:f x=false):xs.all f=false:=by
 rw [List.all_eq_false];exact ⟨x,List.mem_of_getElem? h,by simp [hx]⟩
theorem anyT_succ {α:Type} (f:α→Bool) (xs:List α) (k:Nat) (x:α) (h:xs[k]?=some x) (ht:(xs.take k).any f=false) (hx:f x=false):(xs.take (k+1)).any f=false:=by
 rw [List.take_add_one,h,List.any_append,ht];simp [hx]
theorem anyT_at {α:Type} (f:α→Bool) (xs:List α) (k:Nat) (x:α) (h:xs[k]?=some x) (hx:f x=true):xs.any f=true:=by
 rw [List.any_eq_true];exact ⟨x,List.mem_of_getElem? h,hx⟩
theorem exOk_eq (d:Nat) (k n:Int) (t m:ByteArray) (ks:List Ex) (cs:List Cl) (pat:Bool) (deep:Int) :
 exOk (d+1) (.mk k n t m ks cs) pat deep=(decide (0≤deep) && (plainB k n t m ks.length cs.length && (patB k pat && (kidsB (fun y q=>exOk d y q (deep - 1)) ks (pat || decide (k=9)) pat && cs.all (fun c=>clB (fun y q=>exOk d y q (deep - 1)) c 1))))):=rfl
theorem plainB_range {k n:Int} {t m:ByteArray} {nk nc:Nat} (h:plainB k n t m nk nc=true):0≤k∧k≤10:=by
 unfold plainB at h;rw [Bool.and_eq_true] at h;have:=h.1;simp [inB] at this;omega
end Go.Proofs.YtdhlonogmnkemaaGreatDoor
namespace Go.Proofs.YtdhlonogmnkemaaGreatDoor
open Go.ChangeShapes Go.WideShapes Go.ChangeAt Go.RowKit Go.Proofs.Tryz
set_option linter.unusedVariables false
set_option maxRecDepth 100000
theorem l01Has_any (w:World) (g cap:Nat) (ss:List ByteArray) (s:ByteArray) (hl:ss.length≤1000) (h:∀ i x,ss[i]?=some x→w.cell? ⟨g,i,none⟩=some (.string x)) :
 Calls prog 20 #[.slice (some ⟨g,0,none⟩) ss.length cap,.string s] w fun e w'=>e=.returned (.bool (ss.any fun x=>x.toList == s.toList))∧w'=w:=by
 have HH:=hid h;generalize hn:ss.length=n at *;have HN:=hid hn;clear h hn;go_enter func20,ntmps20;go_wp2
 go_loop [5] (fun iv=>∃ k:Nat,k≤n∧iv=.int .i64 k∧Hid ((ss.take k).any (fun x=>x.toList == s.toList)=false)) (fun iv=>n - (intOf iv).toNat)
 case atStart=>exact ⟨0,Nat.zero_le _,rfl,by show _=_;simp⟩
 case round =>
  obtain ⟨k,hk,rfl,hno⟩:=hrel;by_cases hlt:k<n
  · obtain ⟨x,hxk⟩:=sqA (l:=ss) (k:=k) HN.out hlt
    have a0:=HH.out k x hxk;have hki:(k:Int)<(n:Int):=(by omega);have hk0:=sqI k
    cases hq:(x.toList == s.toList) with
    | true =>
     have HS:Hid ((ss.any fun x=>x.toList == s.toList)=true):=anyT_at _ ss k x hxk hq;go_wp2;go_ret;exact ⟨by rw [HS.out];rfl,rfl⟩
    | false =>
     have HS:Hid ((ss.take (k+1)).any (fun x=>x.toList == s.toList)=false):=anyT_succ _ ss k x hxk hno.out hq;go_wp2
     go_round
     case rel=>exact ⟨k+1,by omega,by go_num,HS⟩
     case measure=>simp [intOf];omega
  · have HS:Hid ((ss.any fun x=>x.toList == s.toList)=false):=by
     have:=hno.out
     rwa [List.take_of_length_le (by rw [HN.out];omega)] at this
    go_wp2;go_ret;exact ⟨by rw [HS.out];rfl,rfl⟩
def opsL:List ByteArray:=[⟨#[61,61]⟩,⟨#[60]⟩,⟨#[43]⟩,⟨#[45]⟩,⟨#[42]⟩]
theorem opsL_any (t:ByteArray):(opsL.any fun x=>x.toList == t.toList)=opB t:=by
 have h:∀ l:List UInt8,(l == t.toList)=(t.toList == l):=fun l=>by rw [Bool.eq_iff_iff];simp;exact eq_comm
 have e0:(⟨#[61,61]⟩:ByteArray).toList = [61,61]:=(by rw [ByteArray.toList_eq]);have e1:(⟨#[60]⟩:ByteArray).toList = [60]:=(by rw [ByteArray.toList_eq]);have e2:(⟨#[43]⟩:ByteArray).toList = [43]:=(by rw [ByteArray.toList_eq]);have e3:(⟨#[45]⟩:ByteArray).toList = [45]:=(by rw [ByteArray.toList_eq]);have e4:(⟨#[42]⟩:ByteArray).toList = [42]:=(by rw [ByteArray.toList_eq]);simp only [opsL,List.any_cons,List.any_nil,Bool.or_false,opB,e0,e1,e2,e3,e4,h,Bool.or_assoc]
theorem ops_at (W:World) (g:Nat) (hg:g=W.heap.size):∀ i x,opsL[i]?=some x→(W.alloc (.cells #[.string ⟨#[61,61]⟩,.string ⟨#[60]⟩,.string ⟨#[43]⟩,.string ⟨#[45]⟩,.string ⟨#[42]⟩] 9)).cell? ⟨g,i,none⟩=some (.string x):=by
 subst hg;intro i x h
 match i,h with
 | 0,h=>simp [opsL] at h;subst h;exact cell_new W _ _ 0 _ rfl
 | 1,h=>simp [opsL] at h;subst h;exact cell_new W _ _ 1 _ rfl
 | 2,h=>simp [opsL] at h;subst h;exact cell_new W _ _ 2 _ rfl
 | 3,h=>simp [opsL] at h;subst h;exact cell_new W _ _ 3 _ rfl
 | 4,h=>simp [opsL] at h;subst h;exact cell_new W _ _ 4 _ rfl
 | i+5,h=>simp [opsL] at h
theorem plainS_any (k n:Int) (t m:ByteArray) (p q:Option Addr) (nk c nc c':Nat) (w:World) (hts:t.size≤maxLen) (hms:m.size≤maxLen) (hnk:nk≤9223372036854775807) (hnc:nc≤9223372036854775807) :
 Calls prog 205 #[.agg #[.int .i64 k,.int .i64 n,.string t,.string m,.slice p nk c,.slice q nc c']] w fun e w'=>e=.returned (.bool (plainB k n t m nk nc))∧Bz w w':=by
 by_cases c1:¬ k=0∧¬ n=0
 · obtain ⟨c1a,c1b⟩:=c1
   have HS:Hid (plainB k n t m nk nc=false):=by
    show _=_;simp [plainB,numB,c1a,c1b]
   have BL:Hid (Bz w (w.alloc (.cells #[.int .i64 k,.int .i64 n,.string t,.string m,.slice p nk c,.slice q nc c'] 76))):=(sqN _ _);go_enter func205,ntmps205;go_wp2;go_ret;exact ⟨by rw [HS.out];rfl,by first | exact BL.out | exact BL.out.alloc BL.out.size _⟩
 by_cases c2:¬ k=8∧¬ m.toList = []
 · obtain ⟨c2a,c2b⟩:=c2
   have hm2:(m.toList == [])=false:=(by simpa using c2b);by_cases k0:k=0
   · subst k0
     have HS:Hid (plainB 0 n t m nk nc=false):=by
      show _=_;simp [plainB,modB,c2b]
     have BL:Hid (Bz w (w.alloc (.cells #[.int .i64 0,.int .i64 n,.string t,.string m,.slice p nk c,.slice q nc c'] 76))):=(sqN _ _);go_enter func205,ntmps205;go_wp2;go_ret;exact ⟨by rw [HS.out];rfl,by first | exact BL.out | exact BL.out.alloc BL.out.size _⟩
   · have n0:n=0:=Classical.byContradiction fun h=>c1 ⟨k0,h⟩
     subst n0;clear c1
     have HS:Hid (plainB k 0 t m nk nc=false):=by
      show _=_;simp [plainB,modB,c2a,c2b]
     have BL:Hid (Bz w (w.alloc (.cells #[.int .i64 k,.int .i64 0,.string t,.string m,.slice p nk c,.slice q nc c'] 76))):=(sqN _ _);go_enter func205,ntmps205;go_wp2;go_ret;exact ⟨by rw [HS.out];rfl,by first | exact BL.out | exact BL.out.alloc BL.out.size _⟩
 by_cases c3:¬ k=10∧¬ nc=0
 · obtain ⟨c3a,c3b⟩:=c3
   have hnc1:(0:Int)<(nc:Int):=(by omega);have hcl:inB nc (clsLo k) (clsHi k)=false:=(by simp [inB,clsLo,clsHi,c3a];omega);by_cases k0:k=0
   · subst k0
     have hm:m.toList = []:=Classical.byContradiction fun h=>c2 ⟨by omega,h⟩;have hm2:(m.toList == [])=true:=(by simpa using hm);clear c1 c2 hm
     have HS:Hid (plainB 0 n t m nk nc=false):=by
      show _=_;simp only [plainB,hcl];simp
     have BL:Hid (Bz w (w.alloc (.cells #[.int .i64 0,.int .i64 n,.string t,.string m,.slice p nk c,.slice q nc c'] 76))):=(sqN _ _);go_enter func205,ntmps205;go_wp2;go_ret;exact ⟨by rw [HS.out];rfl,by first | exact BL.out | exact BL.out.alloc BL.out.size _⟩
   · have n0:n=0:=Classical.byContradiction fun h=>c1 ⟨k0,h⟩
     subst n0;clear c1;by_cases k8:k=8
     · subst k8
       clear c2
       have HS:Hid (plainB 8 0 t m nk nc=false):=by
        show _=_;simp only [plainB,hcl];simp
       have BL:Hid (Bz w (w.alloc (.cells #[.int .i64 8,.int .i64 0,.string t,.string m,.slice p nk c,.slice q nc c'] 76))):=(sqN _ _);go_enter func205,ntmps205;go_wp2;go_ret;exact ⟨by rw [HS.out];rfl,by first | exact BL.out | exact BL.out.alloc BL.out.size _⟩
     · have c3c:(k != 10)=true:=by simpa using c3a
       have hnc2:0<nc:=(by omega);have hm:m.toList = []:=Classical.byContradiction fun h=>c2 ⟨k8,h⟩;have hm2:(m.toList == [])=true:=(by simpa using hm);clear c2 hm
       have HS:Hid (plainB k 0 t m nk nc=false):=by
        show _=_;simp only [plainB,hcl];simp
       have BL:Hid (Bz w (w.alloc (.cells #[.int .i64 k,.int .i64 0,.string t,.string m,.slice p nk c,.slice q nc c'] 76))):=(sqN _ _);go_enter func205,ntmps205;go_wp2;go_ret;exact ⟨by rw [HS.out];rfl,by first | exact BL.out | exact BL.out.alloc BL.out.size _⟩
 have hm:k≠8→m.toList = []:=fun h8=>Classical.byContradiction fun h=>c2 ⟨h8,h⟩;have hn0:k≠0→n=0:=fun h0=>Classical.byContradiction fun h=>c1 ⟨h0,h⟩;have hc0:k≠10→nc=0:=fun h0=>Classical.byContradiction fun h=>c3 ⟨h0,h⟩;clear c1 c2 c3;by_cases k0:k=0
 · subst k0
   obtain rfl:=hc0 (by omega);have hm1:=hm (by omega);have hm2:(m.toList == [])=true:=(by simpa using hm1);clear hm hn0 hc0;by_cases ht:t.toList = []
   · have ht2:(t.toList == [])=true:=by simpa using ht
     by_cases hk:nk=0
     · subst hk
       have HS:Hid (plainB 0 n t m 0 0=inB n 0 999999999):=by
        show _=_
        (rw [Bool.eq_iff_iff];simp [plainB,numB,modB,txtB,txtK,tkB,kidLo,kidHi,clsLo,clsHi,inB,ht,hm1])
       have BL:Hid (Bz w (w.alloc (.cells #[.int .i64 0,.int .i64 n,.string t,.string m,.slice p 0 c,.slice q 0 c'] 76))):=(sqN _ _);go_enter func205,ntmps205;go_wp2_with (first | (go_at_call 40;go_must (refine (specAtomOk_any _ _ (by assumption)).mono ?_;rintro e w9 ⟨rfl,rfl⟩)) | (go_at_call 22;go_must (refine (specVarOk_any _ _ (by assumption)).mono ?_;rintro e w9 ⟨rfl,rfl⟩)) | (go_at_call 55;go_must (refine (l01In_any _ _ _ _).mono ?_;rintro e w9 ⟨rfl,rfl⟩)));go_ret;exact ⟨by rw [HS.out];rfl,by first | exact BL.out | exact BL.out.alloc BL.out.size _⟩
     · have hk2:((nk:Int) == 0)=false:=by simp;omega
       have HS:Hid (plainB 0 n t m nk 0=false):=by
        show _=_
        (simp [plainB,numB,modB,txtB,txtK,tkB,kidLo,kidHi,clsLo,clsHi,inB,ht,hm1];omega)
       have BL:Hid (Bz w (w.alloc (.cells #[.int .i64 0,.int .i64 n,.string t,.string m,.slice p nk c,.slice q 0 c'] 76))):=(sqN _ _);go_enter func205,ntmps205;go_wp2_with (first | (go_at_call 40;go_must (refine (specAtomOk_any _ _ (by assumption)).mono ?_;rintro e w9 ⟨rfl,rfl⟩)) | (go_at_call 22;go_must (refine (specVarOk_any _ _ (by assumption)).mono ?_;rintro e w9 ⟨rfl,rfl⟩)) | (go_at_call 55;go_must (refine (l01In_any _ _ _ _).mono ?_;rintro e w9 ⟨rfl,rfl⟩)));go_ret;exact ⟨by rw [HS.out];rfl,by first | exact BL.out | exact BL.out.alloc BL.out.size _⟩
   · have ht2:(t.toList == [])=false:=by simpa using ht
     have HS:Hid (plainB 0 n t m nk 0=false):=by
      show _=_;simp [plainB,numB,modB,txtB,txtK,tkB,kidLo,kidHi,clsLo,clsHi,inB,ht,hm1]
     have BL:Hid (Bz w (w.alloc (.cells #[.int .i64 0,.int .i64 n,.string t,.string m,.slice p nk c,.slice q 0 c'] 76))):=(sqN _ _);go_enter func205,ntmps205;go_wp2;go_ret;exact ⟨by rw [HS.out];rfl,by first | exact BL.out | exact BL.out.alloc BL.out.size _⟩
 by_cases k1:k=1
 · subst k1
   obtain rfl:=hn0 (by omega);obtain rfl:=hc0 (by omega);have hm1:=hm (by omega);have hm2:(m.toList == [])=true:=(by simpa using hm1);clear hm hn0 hc0
   cases ha:atomB t with
   | true =>
    have HS:Hid (plainB 1 0 t m nk 0=((nk:Int) == 0)):=by
     show _=_
     (rw [Bool.eq_iff_iff];simp [plainB,numB,modB,txtB,txtK,tkB,kidLo,kidHi,clsLo,clsHi,inB,ha,hm1] <;> omega)
    have BL:Hid (Bz w (w.alloc (.cells #[.int .i64 1,.int .i64 0,.string t,.string m,.slice p nk c,.slice q 0 c'] 76))):=(sqN _ _);go_enter func205,ntmps205;go_wp2_with (first | (go_at_call 40;go_must (refine (specAtomOk_any _ _ (by assumption)).mono ?_;rintro e w9 ⟨rfl,rfl⟩;rw [ha])));go_ret;exact ⟨by rw [HS.out];rfl,by first | exact BL.out | exact BL.out.alloc BL.out.size _⟩
   | false =>
    have HS:Hid (plainB 1 0 t m nk 0=false):=by
     show _=_
     (simp [plainB,numB,modB,txtB,txtK,tkB,kidLo,kidHi,clsLo,clsHi,inB,ha])
    have BL:Hid (Bz w (w.alloc (.cells #[.int .i64 1,.int .i64 0,.string t,.string m,.slice p nk c,.slice q 0 c'] 76))):=(sqN _ _);go_enter func205,ntmps205;go_wp2_with (first | (go_at_call 40;go_must (refine (specAtomOk_any _ _ (by assumption)).mono ?_;rintro e w9 ⟨rfl,rfl⟩;rw [ha])));go_ret;exact ⟨by rw [HS.out];rfl,by first | exact BL.out | exact BL.out.alloc BL.out.size _⟩
 by_cases k2:k=2
 · subst k2
   obtain rfl:=hn0 (by omega);obtain rfl:=hc0 (by omega);have hm1:=hm (by omega);have hm2:(m.toList == [])=true:=(by simpa using hm1);clear hm hn0 hc0
   cases ha:varB t with
   | true =>
    have HS:Hid (plainB 2 0 t m nk 0=((nk:Int) == 0)):=by
     show _=_
     (rw [Bool.eq_iff_iff];simp [plainB,numB,modB,txtB,txtK,tkB,kidLo,kidHi,clsLo,clsHi,inB,ha,hm1] <;> omega)
    have BL:Hid (Bz w (w.alloc (.cells #[.int .i64 2,.int .i64 0,.string t,.string m,.slice p nk c,.slice q 0 c'] 76))):=(sqN _ _);go_enter func205,ntmps205;go_wp2_with (first | (go_at_call 22;go_must (refine (specVarOk_any _ _ (by assumption)).mono ?_;rintro e w9 ⟨rfl,rfl⟩;rw [ha])));go_ret;exact ⟨by rw [HS.out];rfl,by first | exact BL.out | exact BL.out.alloc BL.out.size _⟩
   | false =>
    have HS:Hid (plainB 2 0 t m nk 0=false):=by
     show _=_
     (simp [plainB,numB,modB,txtB,txtK,tkB,kidLo,kidHi,clsLo,clsHi,inB,ha])
    have BL:Hid (Bz w (w.alloc (.cells #[.int .i64 2,.int .i64 0,.string t,.string m,.slice p nk c,.slice q 0 c'] 76))):=(sqN _ _);go_enter func205,ntmps205;go_wp2_with (first | (go_at_call 22;go_must (refine (specVarOk_any _ _ (by assumption)).mono ?_;rintro e w9 ⟨rfl,rfl⟩;rw [ha])));go_ret;exact ⟨by rw [HS.out];rfl,by first | exact BL.out | exact BL.out.alloc BL.out.size _⟩
 by_cases k3:k=3
 · subst k3
   obtain rfl:=hn0 (by omega);obtain rfl:=hc0 (by omega);have hm1:=hm (by omega);have hm2:(m.toList == [])=true:=(by simpa using hm1);clear hm hn0 hc0;by_cases ht:t.toList = []
   · have ht2:(t.toList == [])=true:=by simpa using ht
     have HS:Hid (plainB 3 0 t m nk 0=((nk:Int) == 0)):=by
      show _=_
      (rw [Bool.eq_iff_iff];simp [plainB,numB,modB,txtB,txtK,tkB,kidLo,kidHi,clsLo,clsHi,inB,ht,hm1] <;> omega)
     have BL:Hid (Bz w (w.alloc (.cells #[.int .i64 3,.int .i64 0,.string t,.string m,.slice p nk c,.slice q 0 c'] 76))):=(sqN _ _);go_enter func205,ntmps205;go_wp2;go_ret;exact ⟨by rw [HS.out];rfl,by first | exact BL.out | exact BL.out.alloc BL.out.size _⟩
   · have ht2:(t.toList == [])=false:=by simpa using ht
     have HS:Hid (plainB 3 0 t m nk 0=false):=by
      show _=_;simp [plainB,numB,modB,txtB,txtK,tkB,kidLo,kidHi,clsLo,clsHi,inB,ht,hm1]
     have BL:Hid (Bz w (w.alloc (.cells #[.int .i64 3,.int .i64 0,.string t,.string m,.slice p nk c,.slice q 0 c'] 76))):=(sqN _ _);go_enter func205,ntmps205;go_wp2;go_ret;exact ⟨by rw [HS.out];rfl,by first | exact BL.out | exact BL.out.alloc BL.out.size _⟩
 by_cases k4:k=4
 · subst k4
   obtain rfl:=hn0 (by omega);obtain rfl:=hc0 (by omega);have hm1:=hm (by omega);have hm2:(m.toList == [])=true:=(by simpa using hm1);clear hm hn0 hc0;by_cases ht:t.toList = []
   · have ht2:(t.toList == [])=true:=by simpa using ht
     have HS:Hid (plainB 4 0 t m nk 0=inB nk 1 20):=by
      show _=_
      (rw [Bool.eq_iff_iff];simp [plainB,numB,modB,txtB,txtK,tkB,kidLo,kidHi,clsLo,clsHi,inB,ht,hm1] <;> omega)
     have BL:Hid (Bz w (w.alloc (.cells #[.int .i64 4,.int .i64 0,.string t,.string m,.slice p nk c,.slice q 0 c'] 76))):=(sqN _ _);go_enter func205,ntmps205;go_wp2_with (first | (go_at_call 40;go_must (refine (specAtomOk_any _ _ (by assumption)).mono ?_;rintro e w9 ⟨rfl,rfl⟩)) | (go_at_call 22;go_must (refine (specVarOk_any _ _ (by assumption)).mono ?_;rintro e w9 ⟨rfl,rfl⟩)) | (go_at_call 55;go_must (refine (l01In_any _ _ _ _).mono ?_;rintro e w9 ⟨rfl,rfl⟩)));go_ret;exact ⟨by rw [HS.out];rfl,by first | exact BL.out | exact BL.out.alloc BL.out.size _⟩
   · have ht2:(t.toList == [])=false:=by simpa using ht
     have HS:Hid (plainB 4 0 t m nk 0=false):=by
      show _=_;simp [plainB,numB,modB,txtB,txtK,tkB,kidLo,kidHi,clsLo,clsHi,inB,ht,hm1]
     have BL:Hid (Bz w (w.alloc (.cells #[.int .i64 4,.int .i64 0,.string t,.string m,.slice p nk c,.slice q 0 c'] 76))):=(sqN _ _);go_enter func205,ntmps205;go_wp2;go_ret;exact ⟨by rw [HS.out];rfl,by first | exact BL.out | exact BL.out.alloc BL.out.size _⟩
 by_cases k5:k=5
 · subst k5
   obtain rfl:=hn0 (by omega);obtain rfl:=hc0 (by omega);have hm1:=hm (by omega);have hm2:(m.toList == [])=true:=(by simpa using hm1);clear hm hn0 hc0;by_cases ht:t.toList = []
   · have ht2:(t.toList == [])=true:=by simpa using ht
     have HS:Hid (plainB 5 0 t m nk 0=((nk:Int) == 0)):=by
      show _=_
      (rw [Bool.eq_iff_iff];simp [plainB,numB,modB,txtB,txtK,tkB,kidLo,kidHi,clsLo,clsHi,inB,ht,hm1] <;> omega)
     have BL:Hid (Bz w (w.alloc (.cells #[.int .i64 5,.int .i64 0,.string t,.string m,.slice p nk c,.slice q 0 c'] 76))):=(sqN _ _);go_enter func205,ntmps205;go_wp2;go_ret;exact ⟨by rw [HS.out];rfl,by first | exact BL.out | exact BL.out.alloc BL.out.size _⟩
   · have ht2:(t.toList == [])=false:=by simpa using ht
     have HS:Hid (plainB 5 0 t m nk 0=false):=by
      show _=_;simp [plainB,numB,modB,txtB,txtK,tkB,kidLo,kidHi,clsLo,clsHi,inB,ht,hm1]
     have BL:Hid (Bz w (w.alloc (.cells #[.int .i64 5,.int .i64 0,.string t,.string m,.slice p nk c,.slice q 0 c'] 76))):=(sqN _ _);go_enter func205,ntmps205;go_wp2;go_ret;exact ⟨by rw [HS.out];rfl,by first | exact BL.out | exact BL.out.alloc BL.out.size _⟩
 by_cases k6:k=6
 · subst k6
   obtain rfl:=hn0 (by omega);obtain rfl:=hc0 (by omega);have hm1:=hm (by omega);have hm2:(m.toList == [])=true:=(by simpa using hm1);clear hm hn0 hc0;by_cases ht:t.toList = []
   · have ht2:(t.toList == [])=true:=by simpa using ht
     have HS:Hid (plainB 6 0 t m nk 0=((nk:Int) == 2)):=by
      show _=_
      (rw [Bool.eq_iff_iff];simp [plainB,numB,modB,txtB,txtK,tkB,kidLo,kidHi,clsLo,clsHi,inB,ht,hm1] <;> omega)
     have BL:Hid (Bz w (w.alloc (.cells #[.int .i64 6,.int .i64 0,.string t,.string m,.slice p nk c,.slice q 0 c'] 76))):=(sqN _ _);go_enter func205,ntmps205;go_wp2;go_ret;exact ⟨by rw [HS.out];rfl,by first | exact BL.out | exact BL.out.alloc BL.out.size _⟩
   · have ht2:(t.toList == [])=false:=by simpa using ht
     have HS:Hid (plainB 6 0 t m nk 0=false):=by
      show _=_;simp [plainB,numB,modB,txtB,txtK,tkB,kidLo,kidHi,clsLo,clsHi,inB,ht,hm1]
     have BL:Hid (Bz w (w.alloc (.cells #[.int .i64 6,.int .i64 0,.string t,.string m,.slice p nk c,.slice q 0 c'] 76))):=(sqN _ _);go_enter func205,ntmps205;go_wp2;go_ret;exact ⟨by rw [HS.out];rfl,by first | exact BL.out | exact BL.out.alloc BL.out.size _⟩
 by_cases k7:k=7
 · subst k7
   obtain rfl:=hn0 (by omega);obtain rfl:=hc0 (by omega);have hm1:=hm (by omega);have hm2:(m.toList == [])=true:=(by simpa using hm1);clear hm hn0 hc0
   cases ha:opB t with
   | true =>
    have HOP:Hid (∀ i x,opsL[i]?=some x→((w.alloc (.cells #[.int .i64 7,.int .i64 0,.string t,.string m,.slice p nk c,.slice q 0 c'] 76)).alloc (.cells #[.string ⟨#[61,61]⟩,.string ⟨#[60]⟩,.string ⟨#[43]⟩,.string ⟨#[45]⟩,.string ⟨#[42]⟩] 9)).cell? ⟨w.heap.size+1,i,none⟩=some (.string x)):=ops_at _ _ (by simp only [alloc_hs])
    have HS:Hid (plainB 7 0 t m nk 0=((nk:Int) == 2)):=by
     show _=_
     (rw [Bool.eq_iff_iff];simp [plainB,numB,modB,txtB,txtK,tkB,kidLo,kidHi,clsLo,clsHi,inB,ha,hm1] <;> omega)
    have BL:Hid (Bz w (w.alloc (.cells #[.int .i64 7,.int .i64 0,.string t,.string m,.slice p nk c,.slice q 0 c'] 76))):=(sqN _ _);go_enter func205,ntmps205;go_wp2_with (first | (go_at_call 20;go_must (refine (l01Has_any _ _ _ opsL t (by decide) (by exact HOP.out)).mono ?_;rintro e w9 ⟨rfl,rfl⟩;rw [opsL_any,ha])));go_ret;exact ⟨by rw [HS.out];rfl,by first | exact BL.out | exact BL.out.alloc BL.out.size _⟩
   | false =>
    have HOP:Hid (∀ i x,opsL[i]?=some x→((w.alloc (.cells #[.int .i64 7,.int .i64 0,.string t,.string m,.slice p nk c,.slice q 0 c'] 76)).alloc (.cells #[.string ⟨#[61,61]⟩,.string ⟨#[60]⟩,.string ⟨#[43]⟩,.string ⟨#[45]⟩,.string ⟨#[42]⟩] 9)).cell? ⟨w.heap.size+1,i,none⟩=some (.string x)):=ops_at _ _ (by simp only [alloc_hs])
    have HS:Hid (plainB 7 0 t m nk 0=false):=by
     show _=_
     (simp [plainB,numB,modB,txtB,txtK,tkB,kidLo,kidHi,clsLo,clsHi,inB,ha])
    have BL:Hid (Bz w (w.alloc (.cells #[.int .i64 7,.int .i64 0,.string t,.string m,.slice p nk c,.slice q 0 c'] 76))):=(sqN _ _);go_enter func205,ntmps205;go_wp2_with (first | (go_at_call 20;go_must (refine (l01Has_any _ _ _ opsL t (by decide) (by exact HOP.out)).mono ?_;rintro e w9 ⟨rfl,rfl⟩;rw [opsL_any,ha])));go_ret;exact ⟨by rw [HS.out];rfl,by first | exact BL.out | exact BL.out.alloc BL.out.size _⟩
 by_cases k8:k=8
 · subst k8
   obtain rfl:=hn0 (by omega);obtain rfl:=hc0 (by omega);clear hm hn0 hc0
   cases ha:atomB t with
   | true =>
    by_cases hk:nk≤6
    · have hk2:(nk:Int)≤6:=by omega
      by_cases hm1:m.toList = []
      · have hm2:(m.toList == [])=true:=by simpa using hm1
        have HS:Hid (plainB 8 0 t m nk 0=true):=by
         show _=_
         (simp [plainB,numB,modB,txtB,txtK,tkB,kidLo,kidHi,clsLo,clsHi,inB,ha,hm1];omega)
        have BL:Hid (Bz w (w.alloc (.cells #[.int .i64 8,.int .i64 0,.string t,.string m,.slice p nk c,.slice q 0 c'] 76))):=(sqN _ _);go_enter func205,ntmps205;go_wp2_with (first | (go_at_call_of 40 t;go_must (refine (specAtomOk_any _ _ hts).mono ?_;rintro e w9 ⟨rfl,rfl⟩;rw [ha])));go_ret;exact ⟨by rw [HS.out];rfl,by first | exact BL.out | exact BL.out.alloc BL.out.size _⟩
      · have hm2:(m.toList == [])=false:=by simpa using hm1
        have HS:Hid (plainB 8 0 t m nk 0=atomB m):=by
         show _=_
         (rw [Bool.eq_iff_iff];simp [plainB,numB,modB,txtB,txtK,tkB,kidLo,kidHi,clsLo,clsHi,inB,ha,hm1];omega)
        have BL:Hid (Bz w (w.alloc (.cells #[.int .i64 8,.int .i64 0,.string t,.string m,.slice p nk c,.slice q 0 c'] 76))):=(sqN _ _);go_enter func205,ntmps205;go_wp2_with (first | (go_at_call_of 40 t;go_must (refine (specAtomOk_any _ _ hts).mono ?_;rintro e w9 ⟨rfl,rfl⟩;rw [ha])) | (go_at_call_of 40 m;go_must (refine (specAtomOk_any _ _ hms).mono ?_;rintro e w9 ⟨rfl,rfl⟩)));go_ret;exact ⟨by rw [HS.out];rfl,by first | exact BL.out | exact BL.out.alloc BL.out.size _⟩
    · have hk2:(6:Int)<(nk:Int):=by omega
      have HS:Hid (plainB 8 0 t m nk 0=false):=by
       show _=_
       (simp [plainB,numB,modB,txtB,txtK,tkB,kidLo,kidHi,clsLo,clsHi,inB,ha];omega)
      have BL:Hid (Bz w (w.alloc (.cells #[.int .i64 8,.int .i64 0,.string t,.string m,.slice p nk c,.slice q 0 c'] 76))):=(sqN _ _);go_enter func205,ntmps205;go_wp2_with (first | (go_at_call_of 40 t;go_must (refine (specAtomOk_any _ _ hts).mono ?_;rintro e w9 ⟨rfl,rfl⟩;rw [ha])));go_ret;exact ⟨by rw [HS.out];rfl,by first | exact BL.out | exact BL.out.alloc BL.out.size _⟩
   | false =>
    have HS:Hid (plainB 8 0 t m nk 0=false):=by
     show _=_
     (simp [plainB,numB,modB,txtB,txtK,tkB,kidLo,kidHi,clsLo,clsHi,inB,ha])
    have BL:Hid (Bz w (w.alloc (.cells #[.int .i64 8,.int .i64 0,.string t,.string m,.slice p nk c,.slice q 0 c'] 76))):=(sqN _ _);go_enter func205,ntmps205;go_wp2_with (first | (go_at_call_of 40 t;go_must (refine (specAtomOk_any _ _ hts).mono ?_;rintro e w9 ⟨rfl,rfl⟩;rw [ha])));go_ret;exact ⟨by rw [HS.out];rfl,by first | exact BL.out | exact BL.out.alloc BL.out.size _⟩
 by_cases k9:k=9
 · subst k9
   obtain rfl:=hn0 (by omega);obtain rfl:=hc0 (by omega);have hm1:=hm (by omega);have hm2:(m.toList == [])=true:=(by simpa using hm1);clear hm hn0 hc0;by_cases ht:t.toList = []
   · have ht2:(t.toList == [])=true:=by simpa using ht
     have HS:Hid (plainB 9 0 t m nk 0=((nk:Int) == 2)):=by
      show _=_
      (rw [Bool.eq_iff_iff];simp [plainB,numB,modB,txtB,txtK,tkB,kidLo,kidHi,clsLo,clsHi,inB,ht,hm1] <;> omega)
     have BL:Hid (Bz w (w.alloc (.cells #[.int .i64 9,.int .i64 0,.string t,.string m,.slice p nk c,.slice q 0 c'] 76))):=(sqN _ _);go_enter func205,ntmps205;go_wp2;go_ret;exact ⟨by rw [HS.out];rfl,by first | exact BL.out | exact BL.out.alloc BL.out.size _⟩
   · have ht2:(t.toList == [])=false:=by simpa using ht
     have HS:Hid (plainB 9 0 t m nk 0=false):=by
      show _=_;simp [plainB,numB,modB,txtB,txtK,tkB,kidLo,kidHi,clsLo,clsHi,inB,ht,hm1]
     have BL:Hid (Bz w (w.alloc (.cells #[.int .i64 9,.int .i64 0,.string t,.string m,.slice p nk c,.slice q 0 c'] 76))):=(sqN _ _);go_enter func205,ntmps205;go_wp2;go_ret;exact ⟨by rw [HS.out];rfl,by first | exact BL.out | exact BL.out.alloc BL.out.size _⟩
 by_cases k10:k=10
 · subst k10
   obtain rfl:=hn0 (by omega);have hm1:=hm (by omega);have hm2:(m.toList == [])=true:=(by simpa using hm1);clear hm hn0 hc0;by_cases ht:t.toList = []
   · have ht2:(t.toList == [])=true:=by simpa using ht
     by_cases hk:nk=1
     · subst hk
       have HS:Hid (plainB 10 0 t m 1 nc=inB nc 1 20):=by
        show _=_
        (rw [Bool.eq_iff_iff];simp [plainB,numB,modB,txtB,txtK,tkB,kidLo,kidHi,clsLo,clsHi,inB,ht,hm1])
       have BL:Hid (Bz w (w.alloc (.cells #[.int .i64 10,.int .i64 0,.string t,.string m,.slice p 1 c,.slice q nc c'] 76))):=(sqN _ _);go_enter func205,ntmps205;go_wp2_with (first | (go_at_call 40;go_must (refine (specAtomOk_any _ _ (by assumption)).mono ?_;rintro e w9 ⟨rfl,rfl⟩)) | (go_at_call 22;go_must (refine (specVarOk_any _ _ (by assumption)).mono ?_;rintro e w9 ⟨rfl,rfl⟩)) | (go_at_call 55;go_must (refine (l01In_any _ _ _ _).mono ?_;rintro e w9 ⟨rfl,rfl⟩)));go_ret;exact ⟨by rw [HS.out];rfl,by first | exact BL.out | exact BL.out.alloc BL.out.size _⟩
     · have hk2:((nk:Int) == 1)=false:=by simp;omega
       have HS:Hid (plainB 10 0 t m nk nc=false):=by
        show _=_
        (simp [plainB,numB,modB,txtB,txtK,tkB,kidLo,kidHi,clsLo,clsHi,inB,ht,hm1];omega)
       have BL:Hid (Bz w (w.alloc (.cells #[.int .i64 10,.int .i64 0,.string t,.string m,.slice p nk c,.slice q nc c'] 76))):=(sqN _ _);go_enter func205,ntmps205;go_wp2_with (first | (go_at_call 40;go_must (refine (specAtomOk_any _ _ (by assumption)).mono ?_;rintro e w9 ⟨rfl,rfl⟩)) | (go_at_call 22;go_must (refine (specVarOk_any _ _ (by assumption)).mono ?_;rintro e w9 ⟨rfl,rfl⟩)) | (go_at_call 55;go_must (refine (l01In_any _ _ _ _).mono ?_;rintro e w9 ⟨rfl,rfl⟩)));go_ret;exact ⟨by rw [HS.out];rfl,by first | exact BL.out | exact BL.out.alloc BL.out.size _⟩
   · have ht2:(t.toList == [])=false:=by simpa using ht
     have HS:Hid (plainB 10 0 t m nk nc=false):=by
      show _=_;simp [plainB,numB,modB,txtB,txtK,tkB,kidLo,kidHi,clsLo,clsHi,inB,ht,hm1]
     have BL:Hid (Bz w (w.alloc (.cells #[.int .i64 10,.int .i64 0,.string t,.string m,.slice p nk c,.slice q nc c'] 76))):=(sqN _ _);go_enter func205,ntmps205;go_wp2;go_ret;exact ⟨by rw [HS.out];rfl,by first | exact BL.out | exact BL.out.alloc BL.out.size _⟩
 obtain rfl:=hn0 k0;obtain rfl:=hc0 k10;have hm1:=hm k8;have hm2:(m.toList == [])=true:=(by simpa using hm1);clear hm hn0 hc0 hm1
 have HS:Hid (plainB k 0 t m nk 0=false):=by
  show _=_
  (have:inB k 0 10=false:=by (simp [inB];omega));simp [plainB,this]
 have BL:Hid (Bz w (w.alloc (.cells #[.int .i64 k,.int .i64 0,.string t,.string m,.slice p nk c,.slice q 0 c'] 76))):=(sqN _ _);go_enter func205,ntmps205;go_wp2;go_ret;exact ⟨by rw [HS.out];rfl,by first | exact BL.out | exact BL.out.alloc BL.out.size _⟩
def RgC (d:Nat):Prop :=
 ∀ (w:World) (cs:List Value) (x:Ex) (pat:Bool) (deep:Int),HEx w All d cs x→-1≤deep→deep≤40→Calls prog 178 #[.agg cs.toArray,.bool pat,.int .i64 deep] w fun e w'=>e=.returned (.bool (exOk d x pat deep))∧Bz w w'
def ClC (d:Nat):Prop :=
 ∀ (w:World) (cs:List Value) (c:Cl) (pats deep:Int),HCl w All (HEx w All d) cs c→-1≤deep→deep≤40→Calls prog 145 #[.agg cs.toArray,.int .i64 pats,.int .i64 deep] w fun e w'=>e=.returned (.bool (clB (fun y q=>exOk d y q deep) c pats))∧Bz w w'
theorem clauseS_of {d:Nat} (hE:RgC d):ClC d:=by
 intro w cs c pats deep h hd0 hd1;obtain ⟨pv,bv,rfl,f0,f1⟩:=h;obtain ⟨ps,bs⟩:=c;simp only at f0 f1;obtain ⟨p,cap,rfl,hcl,hcm,hx⟩:=f0;obtain ⟨q,cap',rfl,hcl',hcm',hy⟩:=f1;have hnb:=sqM hcl hcm;have hmb:=sqM hcl' hcm';have hv:clB (fun y q=>exOk d y q deep) (ps,bs) pats=(decide ((ps.length:Int)=pats) && (inB bs.length 1 20 && (ps.all (fun y=>exOk d y true deep) && bs.all (fun y=>exOk d y false deep)))):=rfl;rw [hv];clear hv;generalize hn:ps.length=n at *;generalize hm:bs.length=m at *;have HN:=hid hn;have HM:=hid hm;have HX:=hid hx;have HY:=hid hy;obtain ⟨W1,hW1⟩:∃ W1,W1=w.alloc (.cells #[.slice p n cap,.slice q m cap'] 46):=⟨_,rfl⟩;have bA:Hid (Blk W1 w.heap.size #[.slice p n cap,.slice q m cap'] 46):=(by show Blk _ _ _ _;rw [hW1];exact Blk.new);have B1:Hid (Bz w W1):=(by show Below _ _ _;rw [hW1];exact (sqN _ _));have HW1:=hid hW1;clear hx hy hn hm hW1;by_cases c1:(n:Int)=pats
 · subst c1
   cases hin:inB m 1 20 with
   | true =>
    go_enter func145,ntmps145;go_wp2_with (first | (go_at_call 55;go_must (refine (l01In_any _ _ _ _).mono ?_;rintro e w9 ⟨rfl,rfl⟩;rw [hin])));rw [← HW1.out]
    go_loopw [7] (fun iv wr=>∃ k1:Nat,k1≤n∧iv=.int .i64 k1∧Hid ((ps.take k1).all (fun y=>exOk d y true deep)=true)∧Hid (SameOn All W1 wr)∧Bz w wr) (fun iv _=>n - (intOf iv).toNat)
    case atStart=>exact ⟨0,Nat.zero_le _,rfl,by show _=_;simp,⟨Nat.le_refl _,fun _ _ _=>rfl⟩,B1.out⟩
    case round =>
     obtain ⟨k1,hk,rfl,hall,hso,hb⟩:=hrel;have HB:=hid hb;have b1:=bA.out.same_on hso.out;obtain ⟨xa0,xa1⟩:=sqB2 b1;clear b1;by_cases hlt:k1<n
     · obtain ⟨x,hxk⟩:=sqA (l:=ps) (k:=k1) HN.out hlt
       obtain ⟨g,off,rfl,-,hgl,hat⟩:=HX.out (sqE hxk);obtain ⟨cs,hcsl,hcs,r1⟩:=hat k1 x hxk;have E1:∀ w',SameOn All wr w'→HEx w' All d cs x:=fun w' hw=>r1.mono (SameOn.trans (sqO hb) hw) (fun _ h=>h);obtain ⟨c0,c1,c2,c3,c4,c5,rfl⟩:=len6 hcsl;obtain ⟨a0,a1,a2,a3,a4,a5⟩:=sqC6 hcs (by omega);rw [← hb.cell (p:=⟨g,_,none⟩) hgl] at a0 a1 a2 a3 a4 a5;simp at a0 a1 a2 a3 a4 a5;have hki:(k1:Int)<(n:Int):=(by omega);have hk0:=sqI k1;clear hb hcs hat hcsl r1;generalize hcv:(fun y=>exOk d y true deep) x=cv;have HCV:=hid hcv;have HC2:Hid (cv=true→(ps.take (k1+1)).all (fun y=>exOk d y true deep)=true):=fun h=>allT_succ _ ps k1 x hxk hall.out (hcv.trans h);have HC3:Hid (cv=false→ps.all (fun y=>exOk d y true deep)=false):=fun h=>allT_at _ ps k1 x hxk (hcv.trans h);clear hcv;go_wp2_with fail;refine (hE _ _ x true deep (E1 _ ⟨Nat.le_refl _,fun _ _ _=>rfl⟩) (by omega) (by omega)).mono ?_;rintro e w4 ⟨rfl,hb4⟩;have HB4:=hid (HB.out.trans (hb4.mono HB.out.size));have HS4:=hid (hso.out.trans (sqO hb4));rw [show exOk d x true deep=cv from HCV.out];clear hb4
       cases cv with
       | true =>
        have HT:=HC2.out rfl;clear HC2 HC3 HCV;have HT':Hid _:=HT;clear HT;go_wp2_with fail;exact ⟨⟨k1+1,by omega,by go_num,HT'.out,HS4.out,HB4.out⟩,by simp [intOf];omega⟩
       | false =>
        have HF:=hid (HC3.out rfl);clear HC2 HC3 HCV;go_wp2_with fail;go_ret;exact ⟨by first | (rw [HF.out];simp) | simp [HF.out],HB4.out⟩
     · have HD_ps:Hid (ps.all (fun y=>exOk d y true deep)=true):=by
        have:=hall.out
        rwa [List.take_of_length_le (by rw [HN.out];omega)] at this
       clear hb;go_wp2_with fail;clear xa0 xa1
       go_loopw [8] (fun iv wr=>∃ k2:Nat,k2≤m∧iv=.int .i64 k2∧Hid ((bs.take k2).all (fun y=>exOk d y false deep)=true)∧Hid (SameOn All W1 wr)∧Bz w wr) (fun iv _=>m - (intOf iv).toNat)
       case atStart=>exact ⟨0,Nat.zero_le _,rfl,by show _=_;simp,hso.out,HB.out⟩
       case round =>
        obtain ⟨k2,hk,rfl,hall,hso,hb⟩:=hrel;have HB:=hid hb;have b1:=bA.out.same_on hso.out;obtain ⟨xa0,xa1⟩:=sqB2 b1;clear b1;by_cases hlt:k2<m
        · obtain ⟨x,hxk⟩:∃ x,bs[k2]?=some x:=⟨bs[k2]'(by rw [HM.out];exact hlt),List.getElem?_eq_getElem _⟩
          obtain ⟨g,off,rfl,-,hgl,hat⟩:=HY.out (sqE hxk);obtain ⟨cs,hcsl,hcs,r1⟩:=hat k2 x hxk;have E1:∀ w',SameOn All wr w'→HEx w' All d cs x:=fun w' hw=>r1.mono (SameOn.trans (sqO hb) hw) (fun _ h=>h);obtain ⟨c0,c1,c2,c3,c4,c5,rfl⟩:=len6 hcsl;obtain ⟨a0,a1,a2,a3,a4,a5⟩:=sqC6 hcs (by omega);rw [← hb.cell (p:=⟨g,_,none⟩) hgl] at a0 a1 a2 a3 a4 a5;simp at a0 a1 a2 a3 a4 a5;have hki:(k2:Int)<(m:Int):=(by omega);have hk0:=sqI k2;clear hb hcs hat hcsl r1;generalize hcv:(fun y=>exOk d y false deep) x=cv;have HCV:=hid hcv;have HC2:Hid (cv=true→(bs.take (k2+1)).all (fun y=>exOk d y false deep)=true):=fun h=>allT_succ _ bs k2 x hxk hall.out (hcv.trans h);have HC3:Hid (cv=false→bs.all (fun y=>exOk d y false deep)=false):=fun h=>allT_at _ bs k2 x hxk (hcv.trans h);clear hcv;go_wp2_with fail;refine (hE _ _ x false deep (E1 _ ⟨Nat.le_refl _,fun _ _ _=>rfl⟩) (by omega) (by omega)).mono ?_;rintro e w4 ⟨rfl,hb4⟩;have HB4:=hid (HB.out.trans (hb4.mono HB.out.size));have HS4:=hid (hso.out.trans (sqO hb4));rw [show exOk d x false deep=cv from HCV.out];clear hb4
          cases cv with
          | true =>
           have HT:=HC2.out rfl;clear HC2 HC3 HCV;have HT':Hid _:=HT;clear HT;go_wp2_with fail;exact ⟨⟨k2+1,by omega,by go_num,HT'.out,HS4.out,HB4.out⟩,by simp [intOf];omega⟩
          | false =>
           have HF:=hid (HC3.out rfl);clear HC2 HC3 HCV;go_wp2_with fail;go_ret;exact ⟨by first | (rw [HF.out];simp) | simp [HF.out],HB4.out⟩
        · have HD_bs:Hid (bs.all (fun y=>exOk d y false deep)=true):=by
           have:=hall.out
           rwa [List.take_of_length_le (by rw [HM.out];omega)] at this
          clear hb;go_wp2_with fail;go_ret;exact ⟨by rw [HD_ps.out,HD_bs.out];simp,HB.out⟩
   | false =>
    go_enter func145,ntmps145;go_wp2_with (first | (go_at_call 55;go_must (refine (l01In_any _ _ _ _).mono ?_;rintro e w9 ⟨rfl,rfl⟩;rw [hin])));rw [← HW1.out];go_ret;exact ⟨by simp,B1.out⟩
 · have c2:((n:Int) != pats)=true:=by simpa using c1
   go_enter func145,ntmps145;go_wp2;rw [← HW1.out];go_ret;exact ⟨by simp [c1],B1.out⟩
theorem rightS_of {d:Nat} (h1:RgC d) (h2:ClC d):RgC (d+1):=by
 intro w cs x pat deep h hd0 hd1;obtain ⟨kv,cv,rfl,-,-,hts,hms,f0,f1⟩:=h;obtain ⟨kx,nx,tx,mx,ks,cl⟩:=x;simp only [Ex.kind,Ex.n,Ex.text,Ex.mod,Ex.kids,Ex.clauses] at *;obtain ⟨p,cap,rfl,hcl,hcm,hx⟩:=f0;obtain ⟨q,cap',rfl,hcl',hcm',hy⟩:=f1;have hnb:=sqM hcl hcm;have hmb:=sqM hcl' hcm';have hv:=exOk_eq d kx nx tx mx ks cl pat deep;rw [hv];clear hv;generalize hn:ks.length=n at *;generalize hm:cl.length=m at *;have HN:=hid hn;have HM:=hid hm;have HX:=hid hx;have HY:=hid hy;clear hx hy hn hm;by_cases c1:deep<0
 · rw [decide_eq_false (by omega)]
   go_enter func178,ntmps178;go_wp2;go_ret;exact ⟨by simp,(sqN _ _)⟩
 rw [decide_eq_true (by omega:0≤deep)]
 cases hpl:plainB kx nx tx mx n m with
 | false =>
  go_enter func178,ntmps178;go_wp2_with fail;refine (plainS_any _ _ _ _ _ _ _ _ _ _ _ hts hms hnb hmb).mono ?_;rintro e W1 ⟨rfl,hb⟩;rw [hpl];have B1:Hid (Bz w W1):=((sqN _ _)).trans (hb.mono (by simp));have bA:Hid (Blk W1 w.heap.size #[.int .i64 kx,.int .i64 nx,.string tx,.string mx,.slice p n cap,.slice q m cap'] 76):=(Blk.new (w:=w)).next hb;obtain ⟨xa0,xa1,xa2,xa3,xa4,xa5⟩:=sqB6 bA.out;clear hb;go_wp2;go_ret;exact ⟨by simp,B1.out⟩
 | true =>
  obtain ⟨r0,r1⟩:=plainB_range hpl
  cases pat with
  | true =>
   by_cases c6:kx≤6
   · have h6:inB kx 0 6=true:=by simp [inB];omega
     have hpt:patB kx true=true:=(by simp [patB];omega);rw [hpt,Bool.true_or];simp only [Bool.true_and];go_enter func178,ntmps178;go_wp2_with fail;refine (plainS_any _ _ _ _ _ _ _ _ _ _ _ hts hms hnb hmb).mono ?_;rintro e W1 ⟨rfl,hb⟩;rw [hpl];have B1:Hid (Bz w W1):=((sqN _ _)).trans (hb.mono (by simp));have bA:Hid (Blk W1 w.heap.size #[.int .i64 kx,.int .i64 nx,.string tx,.string mx,.slice p n cap,.slice q m cap'] 76):=(Blk.new (w:=w)).next hb;obtain ⟨xa0,xa1,xa2,xa3,xa4,xa5⟩:=sqB6 bA.out;clear hb;go_wp2_with (first | (go_at_call 55;go_must (refine (l01In_any _ _ _ _).mono ?_;rintro e w9 ⟨rfl,hw9⟩;rw [h6,hw9];clear hw9 w9)));clear xa0 xa1 xa2 xa3 xa4 xa5
     go_loopw [7] (fun iv wr=>∃ k1:Nat,k1≤n∧iv=.int .i64 k1∧Hid (kidsB (fun y q=>exOk d y q (deep - 1)) (ks.take k1) true true=true)∧Hid (SameOn All W1 wr)∧Bz w wr) (fun iv _=>n - (intOf iv).toNat)
     case atStart=>exact ⟨0,Nat.zero_le _,rfl,kidsB_nil _ _ _ _,⟨Nat.le_refl _,fun _ _ _=>rfl⟩,B1.out⟩
     case round =>
      obtain ⟨k1,hk,rfl,hall,hso,hb⟩:=hrel;have HB:=hid hb;have b1:=bA.out.same_on hso.out;have hlw:=b1.lt;obtain ⟨xa0,xa1,xa2,xa3,xa4,xa5⟩:=sqB6 b1;clear b1;by_cases hlt:k1<n
      · obtain ⟨x,hxk⟩:=sqA (l:=ks) (k:=k1) HN.out hlt
        obtain ⟨g,off,rfl,-,hgl,hat⟩:=HX.out (sqE hxk);obtain ⟨cs,hcsl,hcs,r1⟩:=hat k1 x hxk;have E1:∀ w',SameOn All wr w'→HEx w' All d cs x:=fun w' hw=>r1.mono (SameOn.trans (sqO hb) hw) (fun _ h=>h);obtain ⟨c0,c1,c2,c3,c4,c5,rfl⟩:=len6 hcsl;obtain ⟨a0,a1,a2,a3,a4,a5⟩:=sqC6 hcs (by omega);rw [← hb.cell (p:=⟨g,_,none⟩) hgl] at a0 a1 a2 a3 a4 a5;simp at a0 a1 a2 a3 a4 a5;have hki:(k1:Int)<(n:Int):=(by omega);have hk0:=sqI k1;have hgw:g<wr.heap.size:=Nat.lt_of_lt_of_le hgl hb.size;have qa0:∀ m:Wd (fun w'=>SameOn All wr w'∧Bz w w'),m.val.cell? ⟨g,off+k1 * 6,none⟩=some c0:=fun m=>(sqK (m.ok.1.2 g trivial hgw)).trans a0;have qa1:∀ m:Wd (fun w'=>SameOn All wr w'∧Bz w w'),m.val.cell? ⟨g,off+k1 * 6+1,none⟩=some c1:=fun m=>(sqK (m.ok.1.2 g trivial hgw)).trans a1;have qa2:∀ m:Wd (fun w'=>SameOn All wr w'∧Bz w w'),m.val.cell? ⟨g,off+k1 * 6+2,none⟩=some c2:=fun m=>(sqK (m.ok.1.2 g trivial hgw)).trans a2;have qa3:∀ m:Wd (fun w'=>SameOn All wr w'∧Bz w w'),m.val.cell? ⟨g,off+k1 * 6+3,none⟩=some c3:=fun m=>(sqK (m.ok.1.2 g trivial hgw)).trans a3;have qa4:∀ m:Wd (fun w'=>SameOn All wr w'∧Bz w w'),m.val.cell? ⟨g,off+k1 * 6+4,none⟩=some c4:=fun m=>(sqK (m.ok.1.2 g trivial hgw)).trans a4;have qa5:∀ m:Wd (fun w'=>SameOn All wr w'∧Bz w w'),m.val.cell? ⟨g,off+k1 * 6+5,none⟩=some c5:=fun m=>(sqK (m.ok.1.2 g trivial hgw)).trans a5;have qx0:∀ m:Wd (fun w'=>SameOn All wr w'∧Bz w w'),m.val.cell? ⟨w.heap.size,0,none⟩=some (.int .i64 kx):=fun m=>(sqK (m.ok.1.2 w.heap.size trivial hlw)).trans xa0;have qx4:∀ m:Wd (fun w'=>SameOn All wr w'∧Bz w w'),m.val.cell? ⟨w.heap.size,4,none⟩=some (.slice (some ⟨g,off,none⟩) n cap):=fun m=>(sqK (m.ok.1.2 w.heap.size trivial hlw)).trans xa4;clear hb hcs hat hcsl r1;generalize hcv:exOk d x true (deep - 1)=cv;have HCV:=hid hcv;have HC2:Hid (cv=true→kidsB (fun y q=>exOk d y q (deep - 1)) (ks.take (k1+1)) true true=true):=fun h=>kidsB_succ _ ks _ _ k1 x hxk hall.out (by rw [ite_self];exact hcv.trans h);have HC3:Hid (cv=false→kidsB (fun y q=>exOk d y q (deep - 1)) ks true true=false):=fun h=>kidsB_at _ ks _ _ k1 x hxk (by rw [ite_self];exact hcv.trans h);clear hcv;go_wp2;have hCne:Nonempty (Wd (fun w'=>SameOn All wr w'∧Bz w w')):=⟨⟨wr.drew,⟨⟨Nat.le_refl _,fun _ _ _=>rfl⟩,HB.out.drew⟩⟩⟩;refine wp_region_class (fun w'=>SameOn All wr w'∧Bz w w') (by kernel_rfl) (by kernel_rfl) ⟨⟨Nat.le_refl _,fun _ _ _=>rfl⟩,HB.out.drew⟩ ?_
        repeat (go_big_quiet_step (first | (rename_i m;go_at_call 178;refine (h1 _ _ x true (deep - 1) (E1 _ m.ok.1) (by omega) (by omega)).mono ?_;rintro e w1 ⟨rfl,hb1⟩;exact ⟨by rw [HCV.out],⟨⟨w1,⟨(SameOn.trans m.ok.1 (sqO hb1)),m.ok.2.trans (hb1.mono m.ok.2.size)⟩⟩,rfl⟩⟩)))
        refine wpQuiet_nil ?_;rintro _ ⟨mq,rfl⟩;have HB4:=hid mq.ok.2;have HS4:=hid (hso.out.trans mq.ok.1);generalize mq.val=w4 at HB4 HS4 ⊢;clear HCV
        cases cv with
        | true =>
         have HT':Hid _:=HC2.out rfl;clear HC2 HC3;go_wp2_with fail;exact ⟨⟨k1+1,by omega,by go_num,HT'.out,HS4.out,HB4.out⟩,by simp [intOf];omega⟩
        | false =>
         have HF:Hid _:=HC3.out rfl;clear HC2 HC3;go_wp2_with fail;go_ret;exact ⟨by rw [HF.out];simp,HB4.out⟩
      · have HD_ks:Hid (kidsB (fun y q=>exOk d y q (deep - 1)) ks true true=true):=by
         have:=hall.out
         rwa [List.take_of_length_le (by rw [HN.out];omega)] at this
        clear hb;go_wp2_with fail;clear xa0 xa1 xa2 xa3 xa4 xa5
        go_loopw [8] (fun iv wr=>∃ k2:Nat,k2≤m∧iv=.int .i64 k2∧Hid ((cl.take k2).all (fun y=>clB (fun z q=>exOk d z q (deep - 1)) y 1)=true)∧Hid (SameOn All W1 wr)∧Bz w wr) (fun iv _=>m - (intOf iv).toNat)
        case atStart=>exact ⟨0,Nat.zero_le _,rfl,by show _=_;simp,hso.out,HB.out⟩
        case round =>
         obtain ⟨k2,hk,rfl,hall,hso,hb⟩:=hrel;have HB:=hid hb;have b1:=bA.out.same_on hso.out;obtain ⟨xa0,xa1,xa2,xa3,xa4,xa5⟩:=sqB6 b1;clear b1;by_cases hlt:k2<m
         · obtain ⟨x,hxk⟩:∃ x,cl[k2]?=some x:=⟨cl[k2]'(by rw [HM.out];exact hlt),List.getElem?_eq_getElem _⟩
           obtain ⟨g,off,rfl,-,hgl,hat⟩:=HY.out (sqE hxk);obtain ⟨cs,hcsl,hcs,r1⟩:=hat k2 x hxk;have E1:∀ w',SameOn All wr w'→HCl w' All (HEx w' All d) cs x:=fun w' hw=>r1.mono (SameOn.trans (sqO hb) hw) (fun _ h=>h) (fun _ _ h=>h.mono (SameOn.trans (sqO hb) hw) (fun _ h=>h));obtain ⟨c0,c1,rfl⟩:=len2 hcsl;obtain ⟨a0,a1⟩:=sqC2 hcs (by omega);rw [← hb.cell (p:=⟨g,_,none⟩) hgl] at a0 a1;simp at a0 a1;have hki:(k2:Int)<(m:Int):=(by omega);have hk0:=sqI k2;clear hb hcs hat hcsl r1;generalize hcv:(fun y=>clB (fun z q=>exOk d z q (deep - 1)) y 1) x=cv;have HCV:=hid hcv;have HC2:Hid (cv=true→(cl.take (k2+1)).all (fun y=>clB (fun z q=>exOk d z q (deep - 1)) y 1)=true):=fun h=>allT_succ _ cl k2 x hxk hall.out (hcv.trans h);have HC3:Hid (cv=false→cl.all (fun y=>clB (fun z q=>exOk d z q (deep - 1)) y 1)=false):=fun h=>allT_at _ cl k2 x hxk (hcv.trans h);clear hcv;go_wp2_with fail;refine (h2 _ _ x 1 (deep - 1) (E1 _ ⟨Nat.le_refl _,fun _ _ _=>rfl⟩) (by omega) (by omega)).mono ?_;rintro e w4 ⟨rfl,hb4⟩;have HB4:=hid (HB.out.trans (hb4.mono HB.out.size));have HS4:=hid (hso.out.trans (sqO hb4));rw [show clB (fun z q=>exOk d z q (deep - 1)) x 1=cv from HCV.out];clear hb4
           cases cv with
           | true =>
            have HT:=HC2.out rfl;clear HC2 HC3 HCV;have HT':Hid _:=HT;clear HT;go_wp2_with fail;exact ⟨⟨k2+1,by omega,by go_num,HT'.out,HS4.out,HB4.out⟩,by simp [intOf];omega⟩
           | false =>
            have HF:=hid (HC3.out rfl);clear HC2 HC3 HCV;go_wp2_with fail;go_ret;exact ⟨by first | (rw [HF.out];simp) | simp [HF.out],HB4.out⟩
         · have HD_cl:Hid (cl.all (fun y=>clB (fun z q=>exOk d z q (deep - 1)) y 1)=true):=by
            have:=hall.out
            rwa [List.take_of_length_le (by rw [HM.out];omega)] at this
           clear hb;go_wp2_with fail;go_ret;exact ⟨by rw [HD_ks.out,HD_cl.out];simp,HB.out⟩
   · have h6:inB kx 0 6=false:=by simp [inB];omega
     have hpt:patB kx true=false:=(by simp [patB];omega);rw [hpt];go_enter func178,ntmps178;go_wp2_with fail;refine (plainS_any _ _ _ _ _ _ _ _ _ _ _ hts hms hnb hmb).mono ?_;rintro e W1 ⟨rfl,hb⟩;rw [hpl];have B1:Hid (Bz w W1):=((sqN _ _)).trans (hb.mono (by simp));have bA:Hid (Blk W1 w.heap.size #[.int .i64 kx,.int .i64 nx,.string tx,.string mx,.slice p n cap,.slice q m cap'] 76):=(Blk.new (w:=w)).next hb;obtain ⟨xa0,xa1,xa2,xa3,xa4,xa5⟩:=sqB6 bA.out;clear hb;go_wp2_with (first | (go_at_call 55;go_must (refine (l01In_any _ _ _ _).mono ?_;rintro e w9 ⟨rfl,hw9⟩;rw [h6,hw9];clear hw9 w9)));go_ret;exact ⟨by simp,B1.out⟩
  | false =>
   by_cases k3:kx=3
   · subst k3
     have hpt:patB 3 false=false:=(by simp [patB]);rw [hpt];go_enter func178,ntmps178;go_wp2_with fail;refine (plainS_any _ _ _ _ _ _ _ _ _ _ _ hts hms hnb hmb).mono ?_;rintro e W1 ⟨rfl,hb⟩;rw [hpl];have B1:Hid (Bz w W1):=((sqN _ _)).trans (hb.mono (by simp));have bA:Hid (Blk W1 w.heap.size #[.int .i64 3,.int .i64 nx,.string tx,.string mx,.slice p n cap,.slice q m cap'] 76):=(Blk.new (w:=w)).next hb;obtain ⟨xa0,xa1,xa2,xa3,xa4,xa5⟩:=sqB6 bA.out;clear hb;go_wp2;go_ret;exact ⟨by simp,B1.out⟩
   have hpt:patB kx false=true:=(by simp [patB,k3]);rw [hpt];by_cases k9:kx=9
   · subst k9
     have e9:(false || decide ((9:Int)=9))=true:=rfl;rw [e9];simp only [Bool.true_and];go_enter func178,ntmps178;go_wp2_with fail;refine (plainS_any _ _ _ _ _ _ _ _ _ _ _ hts hms hnb hmb).mono ?_;rintro e W1 ⟨rfl,hb⟩;rw [hpl];have B1:Hid (Bz w W1):=((sqN _ _)).trans (hb.mono (by simp));have bA:Hid (Blk W1 w.heap.size #[.int .i64 9,.int .i64 nx,.string tx,.string mx,.slice p n cap,.slice q m cap'] 76):=(Blk.new (w:=w)).next hb;obtain ⟨xa0,xa1,xa2,xa3,xa4,xa5⟩:=sqB6 bA.out;clear hb;go_wp2_with fail;clear xa0 xa1 xa2 xa3 xa4 xa5
     go_loopw [7] (fun iv wr=>∃ k1:Nat,k1≤n∧iv=.int .i64 k1∧Hid (kidsB (fun y q=>exOk d y q (deep - 1)) (ks.take k1) true false=true)∧Hid (SameOn All W1 wr)∧Bz w wr) (fun iv _=>n - (intOf iv).toNat)
     case atStart=>exact ⟨0,Nat.zero_le _,rfl,kidsB_nil _ _ _ _,⟨Nat.le_refl _,fun _ _ _=>rfl⟩,B1.out⟩
     case round =>
      obtain ⟨k1,hk,rfl,hall,hso,hb⟩:=hrel;have HB:=hid hb;have b1:=bA.out.same_on hso.out;have hlw:=b1.lt;obtain ⟨xa0,xa1,xa2,xa3,xa4,xa5⟩:=sqB6 b1;clear b1;by_cases hlt:k1<n
      · obtain ⟨x,hxk⟩:=sqA (l:=ks) (k:=k1) HN.out hlt
        obtain ⟨g,off,rfl,-,hgl,hat⟩:=HX.out (sqE hxk);obtain ⟨cs,hcsl,hcs,r1⟩:=hat k1 x hxk;have E1:∀ w',SameOn All wr w'→HEx w' All d cs x:=fun w' hw=>r1.mono (SameOn.trans (sqO hb) hw) (fun _ h=>h);obtain ⟨c0,c1,c2,c3,c4,c5,rfl⟩:=len6 hcsl;obtain ⟨a0,a1,a2,a3,a4,a5⟩:=sqC6 hcs (by omega);rw [← hb.cell (p:=⟨g,_,none⟩) hgl] at a0 a1 a2 a3 a4 a5;simp at a0 a1 a2 a3 a4 a5;have hki:(k1:Int)<(n:Int):=(by omega);have hk0:=sqI k1;have hgw:g<wr.heap.size:=Nat.lt_of_lt_of_le hgl hb.size;have qa0:∀ m:Wd (fun w'=>SameOn All wr w'∧Bz w w'),m.val.cell? ⟨g,off+k1 * 6,none⟩=some c0:=fun m=>(sqK (m.ok.1.2 g trivial hgw)).trans a0;have qa1:∀ m:Wd (fun w'=>SameOn All wr w'∧Bz w w'),m.val.cell? ⟨g,off+k1 * 6+1,none⟩=some c1:=fun m=>(sqK (m.ok.1.2 g trivial hgw)).trans a1;have qa2:∀ m:Wd (fun w'=>SameOn All wr w'∧Bz w w'),m.val.cell? ⟨g,off+k1 * 6+2,none⟩=some c2:=fun m=>(sqK (m.ok.1.2 g trivial hgw)).trans a2;have qa3:∀ m:Wd (fun w'=>SameOn All wr w'∧Bz w w'),m.val.cell? ⟨g,off+k1 * 6+3,none⟩=some c3:=fun m=>(sqK (m.ok.1.2 g trivial hgw)).trans a3;have qa4:∀ m:Wd (fun w'=>SameOn All wr w'∧Bz w w'),m.val.cell? ⟨g,off+k1 * 6+4,none⟩=some c4:=fun m=>(sqK (m.ok.1.2 g trivial hgw)).trans a4;have qa5:∀ m:Wd (fun w'=>SameOn All wr w'∧Bz w w'),m.val.cell? ⟨g,off+k1 * 6+5,none⟩=some c5:=fun m=>(sqK (m.ok.1.2 g trivial hgw)).trans a5;have qx0:∀ m:Wd (fun w'=>SameOn All wr w'∧Bz w w'),m.val.cell? ⟨w.heap.size,0,none⟩=some (.int .i64 9):=fun m=>(sqK (m.ok.1.2 w.heap.size trivial hlw)).trans xa0;have qx4:∀ m:Wd (fun w'=>SameOn All wr w'∧Bz w w'),m.val.cell? ⟨w.heap.size,4,none⟩=some (.slice (some ⟨g,off,none⟩) n cap):=fun m=>(sqK (m.ok.1.2 w.heap.size trivial hlw)).trans xa4;clear hb hcs hat hcsl r1;by_cases hz:k1=0
        · have HIF:Hid ((if k1=0 then true else false)=true):=by show _=_;rw [if_pos hz]
          have hz2:((k1:Int) == 0)=true:=(by simp;omega);clear hz;generalize hcv:exOk d x true (deep - 1)=cv;have HCV:=hid hcv;have HC2:Hid (cv=true→kidsB (fun y q=>exOk d y q (deep - 1)) (ks.take (k1+1)) true false=true):=fun h=>kidsB_succ _ ks _ _ k1 x hxk hall.out (by rw [HIF.out];exact hcv.trans h);have HC3:Hid (cv=false→kidsB (fun y q=>exOk d y q (deep - 1)) ks true false=false):=fun h=>kidsB_at _ ks _ _ k1 x hxk (by rw [HIF.out];exact hcv.trans h);clear hcv;go_wp2;have hCne:Nonempty (Wd (fun w'=>SameOn All wr w'∧Bz w w')):=⟨⟨wr.drew,⟨⟨Nat.le_refl _,fun _ _ _=>rfl⟩,HB.out.drew⟩⟩⟩;refine wp_region_class (fun w'=>SameOn All wr w'∧Bz w w') (by kernel_rfl) (by kernel_rfl) ⟨⟨Nat.le_refl _,fun _ _ _=>rfl⟩,HB.out.drew⟩ ?_
          repeat (go_big_quiet_step (first | (rename_i m;go_at_call 178;refine (h1 _ _ x true (deep - 1) (E1 _ m.ok.1) (by omega) (by omega)).mono ?_;rintro e w1 ⟨rfl,hb1⟩;exact ⟨by rw [HCV.out],⟨⟨w1,⟨(SameOn.trans m.ok.1 (sqO hb1)),m.ok.2.trans (hb1.mono m.ok.2.size)⟩⟩,rfl⟩⟩)))
          refine wpQuiet_nil ?_;rintro _ ⟨mq,rfl⟩;have HB4:=hid mq.ok.2;have HS4:=hid (hso.out.trans mq.ok.1);generalize mq.val=w4 at HB4 HS4 ⊢;clear HCV
          cases cv with
          | true =>
           have HT':Hid _:=HC2.out rfl;clear HC2 HC3;go_wp2_with fail;exact ⟨⟨k1+1,by omega,by go_num,HT'.out,HS4.out,HB4.out⟩,by simp [intOf];omega⟩
          | false =>
           have HF:Hid _:=HC3.out rfl;clear HC2 HC3;go_wp2_with fail;go_ret;exact ⟨by rw [HF.out];simp,HB4.out⟩
        · have HIF:Hid ((if k1=0 then true else false)=false):=by show _=_;rw [if_neg hz]
          have hz2:((k1:Int) == 0)=false:=(by simp;omega);clear hz;generalize hcv:exOk d x false (deep - 1)=cv;have HCV:=hid hcv;have HC2:Hid (cv=true→kidsB (fun y q=>exOk d y q (deep - 1)) (ks.take (k1+1)) true false=true):=fun h=>kidsB_succ _ ks _ _ k1 x hxk hall.out (by rw [HIF.out];exact hcv.trans h);have HC3:Hid (cv=false→kidsB (fun y q=>exOk d y q (deep - 1)) ks true false=false):=fun h=>kidsB_at _ ks _ _ k1 x hxk (by rw [HIF.out];exact hcv.trans h);clear hcv;go_wp2;have hCne:Nonempty (Wd (fun w'=>SameOn All wr w'∧Bz w w')):=⟨⟨wr.drew,⟨⟨Nat.le_refl _,fun _ _ _=>rfl⟩,HB.out.drew⟩⟩⟩;refine wp_region_class (fun w'=>SameOn All wr w'∧Bz w w') (by kernel_rfl) (by kernel_rfl) ⟨⟨Nat.le_refl _,fun _ _ _=>rfl⟩,HB.out.drew⟩ ?_
          repeat (go_big_quiet_step (first | (rename_i m;go_at_call 178;refine (h1 _ _ x false (deep - 1) (E1 _ m.ok.1) (by omega) (by omega)).mono ?_;rintro e w1 ⟨rfl,hb1⟩;exact ⟨by rw [HCV.out],⟨⟨w1,⟨(SameOn.trans m.ok.1 (sqO hb1)),m.ok.2.trans (hb1.mono m.ok.2.size)⟩⟩,rfl⟩⟩)))
          refine wpQuiet_nil ?_;rintro _ ⟨mq,rfl⟩;have HB4:=hid mq.ok.2;have HS4:=hid (hso.out.trans mq.ok.1);generalize mq.val=w4 at HB4 HS4 ⊢;clear HCV
          cases cv with
          | true =>
           have HT':Hid _:=HC2.out rfl;clear HC2 HC3;go_wp2_with fail;exact ⟨⟨k1+1,by omega,by go_num,HT'.out,HS4.out,HB4.out⟩,by simp [intOf];omega⟩
          | false =>
           have HF:Hid _:=HC3.out rfl;clear HC2 HC3;go_wp2_with fail;go_ret;exact ⟨by rw [HF.out];simp,HB4.out⟩
      · have HD_ks:Hid (kidsB (fun y q=>exOk d y q (deep - 1)) ks true false=true):=by
         have:=hall.out
         rwa [List.take_of_length_le (by rw [HN.out];omega)] at this
        clear hb;go_wp2_with fail;clear xa0 xa1 xa2 xa3 xa4 xa5
        go_loopw [8] (fun iv wr=>∃ k2:Nat,k2≤m∧iv=.int .i64 k2∧Hid ((cl.take k2).all (fun y=>clB (fun z q=>exOk d z q (deep - 1)) y 1)=true)∧Hid (SameOn All W1 wr)∧Bz w wr) (fun iv _=>m - (intOf iv).toNat)
        case atStart=>exact ⟨0,Nat.zero_le _,rfl,by show _=_;simp,hso.out,HB.out⟩
        case round =>
         obtain ⟨k2,hk,rfl,hall,hso,hb⟩:=hrel;have HB:=hid hb;have b1:=bA.out.same_on hso.out;obtain ⟨xa0,xa1,xa2,xa3,xa4,xa5⟩:=sqB6 b1;clear b1;by_cases hlt:k2<m
         · obtain ⟨x,hxk⟩:∃ x,cl[k2]?=some x:=⟨cl[k2]'(by rw [HM.out];exact hlt),List.getElem?_eq_getElem _⟩
           obtain ⟨g,off,rfl,-,hgl,hat⟩:=HY.out (sqE hxk);obtain ⟨cs,hcsl,hcs,r1⟩:=hat k2 x hxk;have E1:∀ w',SameOn All wr w'→HCl w' All (HEx w' All d) cs x:=fun w' hw=>r1.mono (SameOn.trans (sqO hb) hw) (fun _ h=>h) (fun _ _ h=>h.mono (SameOn.trans (sqO hb) hw) (fun _ h=>h));obtain ⟨c0,c1,rfl⟩:=len2 hcsl;obtain ⟨a0,a1⟩:=sqC2 hcs (by omega);rw [← hb.cell (p:=⟨g,_,none⟩) hgl] at a0 a1;simp at a0 a1;have hki:(k2:Int)<(m:Int):=(by omega);have hk0:=sqI k2;clear hb hcs hat hcsl r1;generalize hcv:(fun y=>clB (fun z q=>exOk d z q (deep - 1)) y 1) x=cv;have HCV:=hid hcv;have HC2:Hid (cv=true→(cl.take (k2+1)).all (fun y=>clB (fun z q=>exOk d z q (deep - 1)) y 1)=true):=fun h=>allT_succ _ cl k2 x hxk hall.out (hcv.trans h);have HC3:Hid (cv=false→cl.all (fun y=>clB (fun z q=>exOk d z q (deep - 1)) y 1)=false):=fun h=>allT_at _ cl k2 x hxk (hcv.trans h);clear hcv;go_wp2_with fail;refine (h2 _ _ x 1 (deep - 1) (E1 _ ⟨Nat.le_refl _,fun _ _ _=>rfl⟩) (by omega) (by omega)).mono ?_;rintro e w4 ⟨rfl,hb4⟩;have HB4:=hid (HB.out.trans (hb4.mono HB.out.size));have HS4:=hid (hso.out.trans (sqO hb4));rw [show clB (fun z q=>exOk d z q (deep - 1)) x 1=cv from HCV.out];clear hb4
           cases cv with
           | true =>
            have HT:=HC2.out rfl;clear HC2 HC3 HCV;have HT':Hid _:=HT;clear HT;go_wp2_with fail;exact ⟨⟨k2+1,by omega,by go_num,HT'.out,HS4.out,HB4.out⟩,by simp [intOf];omega⟩
           | false =>
            have HF:=hid (HC3.out rfl);clear HC2 HC3 HCV;go_wp2_with fail;go_ret;exact ⟨by first | (rw [HF.out];simp) | simp [HF.out],HB4.out⟩
         · have HD_cl:Hid (cl.all (fun y=>clB (fun z q=>exOk d z q (deep - 1)) y 1)=true):=by
            have:=hall.out
            rwa [List.take_of_length_le (by rw [HM.out];omega)] at this
           clear hb;go_wp2_with fail;go_ret;exact ⟨by rw [HD_ks.out,HD_cl.out];simp,HB.out⟩
   · have e9:(false || decide (kx=9))=false:=by simp [k9]
     have k9b:(kx == 9)=false:=(by simpa using k9);have k3b:(kx == 3)=false:=(by simpa using k3);rw [e9];simp only [Bool.true_and];go_enter func178,ntmps178;go_wp2_with fail;refine (plainS_any _ _ _ _ _ _ _ _ _ _ _ hts hms hnb hmb).mono ?_;rintro e W1 ⟨rfl,hb⟩;rw [hpl];have B1:Hid (Bz w W1):=((sqN _ _)).trans (hb.mono (by simp));have bA:Hid (Blk W1 w.heap.size #[.int .i64 kx,.int .i64 nx,.string tx,.string mx,.slice p n cap,.slice q m cap'] 76):=(Blk.new (w:=w)).next hb;obtain ⟨xa0,xa1,xa2,xa3,xa4,xa5⟩:=sqB6 bA.out;clear hb;go_wp2_with fail;clear xa0 xa1 xa2 xa3 xa4 xa5
     go_loopw [7] (fun iv wr=>∃ k1:Nat,k1≤n∧iv=.int .i64 k1∧Hid (kidsB (fun y q=>exOk d y q (deep - 1)) (ks.take k1) false false=true)∧Hid (SameOn All W1 wr)∧Bz w wr) (fun iv _=>n - (intOf iv).toNat)
     case atStart=>exact ⟨0,Nat.zero_le _,rfl,kidsB_nil _ _ _ _,⟨Nat.le_refl _,fun _ _ _=>rfl⟩,B1.out⟩
     case round =>
      obtain ⟨k1,hk,rfl,hall,hso,hb⟩:=hrel;have HB:=hid hb;have b1:=bA.out.same_on hso.out;have hlw:=b1.lt;obtain ⟨xa0,xa1,xa2,xa3,xa4,xa5⟩:=sqB6 b1;clear b1;by_cases hlt:k1<n
      · obtain ⟨x,hxk⟩:=sqA (l:=ks) (k:=k1) HN.out hlt
        obtain ⟨g,off,rfl,-,hgl,hat⟩:=HX.out (sqE hxk);obtain ⟨cs,hcsl,hcs,r1⟩:=hat k1 x hxk;have E1:∀ w',SameOn All wr w'→HEx w' All d cs x:=fun w' hw=>r1.mono (SameOn.trans (sqO hb) hw) (fun _ h=>h);obtain ⟨c0,c1,c2,c3,c4,c5,rfl⟩:=len6 hcsl;obtain ⟨a0,a1,a2,a3,a4,a5⟩:=sqC6 hcs (by omega);rw [← hb.cell (p:=⟨g,_,none⟩) hgl] at a0 a1 a2 a3 a4 a5;simp at a0 a1 a2 a3 a4 a5;have hki:(k1:Int)<(n:Int):=(by omega);have hk0:=sqI k1;have hgw:g<wr.heap.size:=Nat.lt_of_lt_of_le hgl hb.size;have qa0:∀ m:Wd (fun w'=>SameOn All wr w'∧Bz w w'),m.val.cell? ⟨g,off+k1 * 6,none⟩=some c0:=fun m=>(sqK (m.ok.1.2 g trivial hgw)).trans a0;have qa1:∀ m:Wd (fun w'=>SameOn All wr w'∧Bz w w'),m.val.cell? ⟨g,off+k1 * 6+1,none⟩=some c1:=fun m=>(sqK (m.ok.1.2 g trivial hgw)).trans a1;have qa2:∀ m:Wd (fun w'=>SameOn All wr w'∧Bz w w'),m.val.cell? ⟨g,off+k1 * 6+2,none⟩=some c2:=fun m=>(sqK (m.ok.1.2 g trivial hgw)).trans a2;have qa3:∀ m:Wd (fun w'=>SameOn All wr w'∧Bz w w'),m.val.cell? ⟨g,off+k1 * 6+3,none⟩=some c3:=fun m=>(sqK (m.ok.1.2 g trivial hgw)).trans a3;have qa4:∀ m:Wd (fun w'=>SameOn All wr w'∧Bz w w'),m.val.cell? ⟨g,off+k1 * 6+4,none⟩=some c4:=fun m=>(sqK (m.ok.1.2 g trivial hgw)).trans a4;have qa5:∀ m:Wd (fun w'=>SameOn All wr w'∧Bz w w'),m.val.cell? ⟨g,off+k1 * 6+5,none⟩=some c5:=fun m=>(sqK (m.ok.1.2 g trivial hgw)).trans a5;have qx0:∀ m:Wd (fun w'=>SameOn All wr w'∧Bz w w'),m.val.cell? ⟨w.heap.size,0,none⟩=some (.int .i64 kx):=fun m=>(sqK (m.ok.1.2 w.heap.size trivial hlw)).trans xa0;have qx4:∀ m:Wd (fun w'=>SameOn All wr w'∧Bz w w'),m.val.cell? ⟨w.heap.size,4,none⟩=some (.slice (some ⟨g,off,none⟩) n cap):=fun m=>(sqK (m.ok.1.2 w.heap.size trivial hlw)).trans xa4;clear hb hcs hat hcsl r1;generalize hcv:exOk d x false (deep - 1)=cv;have HCV:=hid hcv;have HC2:Hid (cv=true→kidsB (fun y q=>exOk d y q (deep - 1)) (ks.take (k1+1)) false false=true):=fun h=>kidsB_succ _ ks _ _ k1 x hxk hall.out (by rw [ite_self];exact hcv.trans h);have HC3:Hid (cv=false→kidsB (fun y q=>exOk d y q (deep - 1)) ks false false=false):=fun h=>kidsB_at _ ks _ _ k1 x hxk (by rw [ite_self];exact hcv.trans h);clear hcv;go_wp2;have hCne:Nonempty (Wd (fun w'=>SameOn All wr w'∧Bz w w')):=⟨⟨wr.drew,⟨⟨Nat.le_refl _,fun _ _ _=>rfl⟩,HB.out.drew⟩⟩⟩;refine wp_region_class (fun w'=>SameOn All wr w'∧Bz w w') (by kernel_rfl) (by kernel_rfl) ⟨⟨Nat.le_refl _,fun _ _ _=>rfl⟩,HB.out.drew⟩ ?_
        repeat (go_big_quiet_step (first | (rename_i m;go_at_call 178;refine (h1 _ _ x false (deep - 1) (E1 _ m.ok.1) (by omega) (by omega)).mono ?_;rintro e w1 ⟨rfl,hb1⟩;exact ⟨by rw [HCV.out],⟨⟨w1,⟨(SameOn.trans m.ok.1 (sqO hb1)),m.ok.2.trans (hb1.mono m.ok.2.size)⟩⟩,rfl⟩⟩)))
        refine wpQuiet_nil ?_;rintro _ ⟨mq,rfl⟩;have HB4:=hid mq.ok.2;have HS4:=hid (hso.out.trans mq.ok.1);generalize mq.val=w4 at HB4 HS4 ⊢;clear HCV
        cases cv with
        | true =>
         have HT':Hid _:=HC2.out rfl;clear HC2 HC3;go_wp2_with fail;exact ⟨⟨k1+1,by omega,by go_num,HT'.out,HS4.out,HB4.out⟩,by simp [intOf];omega⟩
        | false =>
         have HF:Hid _:=HC3.out rfl;clear HC2 HC3;go_wp2_with fail;go_ret;exact ⟨by rw [HF.out];simp,HB4.out⟩
      · have HD_ks:Hid (kidsB (fun y q=>exOk d y q (deep - 1)) ks false false=true):=by
         have:=hall.out
         rwa [List.take_of_length_le (by rw [HN.out];omega)] at this
        clear hb;go_wp2_with fail;clear xa0 xa1 xa2 xa3 xa4 xa5
        go_loopw [8] (fun iv wr=>∃ k2:Nat,k2≤m∧iv=.int .i64 k2∧Hid ((cl.take k2).all (fun y=>clB (fun z q=>exOk d z q (deep - 1)) y 1)=true)∧Hid (SameOn All W1 wr)∧Bz w wr) (fun iv _=>m - (intOf iv).toNat)
        case atStart=>exact ⟨0,Nat.zero_le _,rfl,by show _=_;simp,hso.out,HB.out⟩
        case round =>
         obtain ⟨k2,hk,rfl,hall,hso,hb⟩:=hrel;have HB:=hid hb;have b1:=bA.out.same_on hso.out;obtain ⟨xa0,xa1,xa2,xa3,xa4,xa5⟩:=sqB6 b1;clear b1;by_cases hlt:k2<m
         · obtain ⟨x,hxk⟩:∃ x,cl[k2]?=some x:=⟨cl[k2]'(by rw [HM.out];exact hlt),List.getElem?_eq_getElem _⟩
           obtain ⟨g,off,rfl,-,hgl,hat⟩:=HY.out (sqE hxk);obtain ⟨cs,hcsl,hcs,r1⟩:=hat k2 x hxk;have E1:∀ w',SameOn All wr w'→HCl w' All (HEx w' All d) cs x:=fun w' hw=>r1.mono (SameOn.trans (sqO hb) hw) (fun _ h=>h) (fun _ _ h=>h.mono (SameOn.trans (sqO hb) hw) (fun _ h=>h));obtain ⟨c0,c1,rfl⟩:=len2 hcsl;obtain ⟨a0,a1⟩:=sqC2 hcs (by omega);rw [← hb.cell (p:=⟨g,_,none⟩) hgl] at a0 a1;simp at a0 a1;have hki:(k2:Int)<(m:Int):=(by omega);have hk0:=sqI k2;clear hb hcs hat hcsl r1;generalize hcv:(fun y=>clB (fun z q=>exOk d z q (deep - 1)) y 1) x=cv;have HCV:=hid hcv;have HC2:Hid (cv=true→(cl.take (k2+1)).all (fun y=>clB (fun z q=>exOk d z q (deep - 1)) y 1)=true):=fun h=>allT_succ _ cl k2 x hxk hall.out (hcv.trans h);have HC3:Hid (cv=false→cl.all (fun y=>clB (fun z q=>exOk d z q (deep - 1)) y 1)=false):=fun h=>allT_at _ cl k2 x hxk (hcv.trans h);clear hcv;go_wp2_with fail;refine (h2 _ _ x 1 (deep - 1) (E1 _ ⟨Nat.le_refl _,fun _ _ _=>rfl⟩) (by omega) (by omega)).mono ?_;rintro e w4 ⟨rfl,hb4⟩;have HB4:=hid (HB.out.trans (hb4.mono HB.out.size));have HS4:=hid (hso.out.trans (sqO hb4));rw [show clB (fun z q=>exOk d z q (deep - 1)) x 1=cv from HCV.out];clear hb4
           cases cv with
           | true =>
            have HT:=HC2.out rfl;clear HC2 HC3 HCV;have HT':Hid _:=HT;clear HT;go_wp2_with fail;exact ⟨⟨k2+1,by omega,by go_num,HT'.out,HS4.out,HB4.out⟩,by simp [intOf];omega⟩
           | false =>
            have HF:=hid (HC3.out rfl);clear HC2 HC3 HCV;go_wp2_with fail;go_ret;exact ⟨by first | (rw [HF.out];simp) | simp [HF.out],HB4.out⟩
         · have HD_cl:Hid (cl.all (fun y=>clB (fun z q=>exOk d z q (deep - 1)) y 1)=true):=by
            have:=hall.out
            rwa [List.take_of_length_le (by rw [HM.out];omega)] at this
           clear hb;go_wp2_with fail;go_ret;exact ⟨by rw [HD_ks.out,HD_cl.out];simp,HB.out⟩
theorem right_allS:∀ d,RgC d
 | 0=>fun w cs x pat deep h _ _=>h.elim
 | d+1=>rightS_of (right_allS d) (clauseS_of (right_allS d))
theorem clause_allS (d:Nat):ClC d:=clauseS_of (right_allS d)
def cmpI (a b:Int):Int:=if a<b then -1 else if b<a then 1 else 0
def cmpS (a b:ByteArray):Int:=Lib.compareBytes a.data.toList b.data.toList
theorem cmpI_lt {a b:Int} (h:a<b):cmpI a b = -1:=if_pos h
theorem cmpI_gt {a b:Int} (h:b<a):cmpI a b=1:=by unfold cmpI;rw [if_neg (by omega),if_pos h]
theorem cmpI_self (a:Int):cmpI a a=0:=by unfold cmpI;rw [if_neg (by omega),if_neg (by omega)]
theorem compare_lt:∀ {a b:List UInt8},Op.bytesLess a b=true→Lib.compareBytes a b = -1
 | [],[],h=>by simp [Op.bytesLess] at h
 | _ :: _,[],h=>by simp [Op.bytesLess] at h
 | [],_ :: _,_=>rfl
 | x :: a,y :: b,h=>by
  simp only [Op.bytesLess,Bool.or_eq_true,decide_eq_true_eq,Bool.and_eq_true,beq_iff_eq] at h;unfold Lib.compareBytes
  rcases h with h | ⟨rfl,h⟩
  · rw [if_pos h]
  · rw [if_neg (UInt8.lt_irrefl _),if_neg (UInt8.lt_irrefl _)];exact compare_lt h
theorem compare_self:∀ (a:List UInt8),Lib.compareBytes a a=0
 | []=>rfl
 | x :: a=>by unfold Lib.compareBytes;rw [if_neg (UInt8.lt_irrefl _),if_neg (UInt8.lt_irrefl _)];exact compare_self a
theorem compare_gt:∀ {a b:List UInt8},Op.bytesLess a b=false→a≠b→Lib.compareBytes a b=1
 | [],[],_,h=>absurd rfl h
 | _ :: _,[],_,_=>rfl
 | [],_ :: _,h,_=>by simp [Op.bytesLess] at h
 | x :: a,y :: b,h,hne=>by
  simp only [Op.bytesLess,Bool.or_eq_false_iff,decide_eq_false_iff_not,Bool.and_eq_false_iff,beq_eq_false_iff_ne] at h;unfold Lib.compareBytes;rw [if_neg h.1];by_cases hxy:x=y
  · subst hxy
    rw [if_neg (UInt8.lt_irrefl _)]
    rcases h.2 with h2 | h2
    · exact absurd rfl h2
    · exact compare_gt h2 (fun e=>hne (by rw [e]))
  · have:y<x:=by
     rw [UInt8.lt_iff_toNat_lt] at h ⊢;have:x.toNat≠y.toNat:=fun e=>hxy (UInt8.toNat_inj.1 e);omega
    rw [if_pos this]
theorem cmpS_lt {a b:ByteArray} (h:Op.bytesLess a.toList b.toList=true):cmpS a b = -1:=by
 unfold cmpS;rw [ByteArray.toList_eq,ByteArray.toList_eq] at h;exact compare_lt h
theorem cmpS_gt {a b:ByteArray} (h:Op.bytesLess a.toList b.toList=false) (hne:a≠b):cmpS a b=1:=by
 unfold cmpS;rw [ByteArray.toList_eq,ByteArray.toList_eq] at h;exact compare_gt h (fun e=>hne (bytes_inj e))
theorem cmpS_self (a:ByteArray):cmpS a a=0:=compare_self _
theorem bytesLess_self:∀ (a:List UInt8),Op.bytesLess a a=false
 | []=>rfl
 | x :: a=>by simp [Op.bytesLess,bytesLess_self a]
theorem isNaN_any (a:Int) (w:World):Calls prog 175 #[.int .i64 a] w fun e w'=>e=.returned (.bool false)∧w'=w:=by
 go_enter func175,ntmps175;go_wp2;go_ret;exact ⟨rfl,rfl⟩
theorem cmpInt_any (a b:Int) (w:World):Calls prog 142 #[.int .i64 a,.int .i64 b] w fun e w'=>e=.returned (.int .i64 (cmpI a b))∧w'=w:=by
 by_cases h1:a<b
 · have HS:Hid (cmpI a b = -1):=cmpI_lt h1
   go_enter func142,ntmps142;go_wp2_with (go_at_call 175;go_must (refine (isNaN_any _ _).mono ?_;rintro e w' ⟨rfl,rfl⟩));go_ret;exact ⟨by rw [HS.out];rfl,rfl⟩
 by_cases h2:b<a
 · have HS:Hid (cmpI a b=1):=cmpI_gt h2
   go_enter func142,ntmps142;go_wp2_with (go_at_call 175;go_must (refine (isNaN_any _ _).mono ?_;rintro e w' ⟨rfl,rfl⟩));go_ret;exact ⟨by rw [HS.out];rfl,rfl⟩
 obtain rfl:a=b:=(by omega);have HS:=hid (cmpI_self a);go_enter func142,ntmps142;go_wp2_with (go_at_call 175;go_must (refine (isNaN_any _ _).mono ?_;rintro e w' ⟨rfl,rfl⟩));go_ret;exact ⟨by rw [HS.out];rfl,rfl⟩
theorem compareString_any (a b:ByteArray) (w:World) :
 Calls prog 174 #[.string a,.string b] w fun e w'=>e=.returned (.int .i64 (cmpS a b))∧w'=w:=by
 go_enter func174,ntmps174;go_wp2;rw [run_callFunc_extern func203 (by kernel_rfl) (by kernel_rfl) (by kernel_rfl) (e:=Extern.BytealgCompare.compare) (by kernel_rfl),Lib.run_compareString];simp only [Result.andThen];rw [Oper.upon_value];go_wp2;go_ret;exact ⟨rfl,rfl⟩
theorem stringsCompare_any (a b:ByteArray) (w:World) :
 Calls prog 141 #[.string a,.string b] w fun e w'=>e=.returned (.int .i64 (cmpS a b))∧w'=w:=by
 go_enter func141,ntmps141;go_wp2_with (go_at_call 174;go_must (refine (compareString_any _ _ _).mono ?_;rintro e w' ⟨rfl,rfl⟩));go_ret;exact ⟨rfl,rfl⟩
def or2 (a b:Int):Int:=if a=0 then b else a
theorem cmpOr2_any (a b:Int) (g:Nat) (w:World) (h0:w.cell? ⟨g,0,none⟩=some (.int .i64 a)) (h1:w.cell? ⟨g,1,none⟩=some (.int .i64 b)) :
 Calls prog 140 #[.slice (some ⟨g,0,none⟩) 2 2] w fun e w'=>e=.returned (.int .i64 (or2 a b))∧w'=w:=by
 go_enter func140,ntmps140;go_wp2
 go_loopw [8] (fun iv wr=>∃ k:Nat,k≤2∧iv=.int .i64 k∧(1≤k→a=0)∧(2≤k→b=0)∧wr=w) (fun iv _=>2 - (intOf iv).toNat)
 case atStart=>exact ⟨0,by omega,rfl,fun h=>by omega,fun h=>by omega,rfl⟩
 case round =>
  obtain ⟨k,hk,rfl,e0,e1,rfl⟩:=hrel
  match k,hk with
  | 0,_ =>
   by_cases hz:a=0
   · go_wp2
     exact ⟨⟨1,by omega,by go_num,fun _=>hz,fun h=>by omega,(by first | rfl | trivial)⟩,by simp [intOf]⟩
   · have HS:Hid (or2 a b=a):=if_neg hz
     go_wp2;go_ret;exact ⟨by rw [HS.out];rfl,rfl⟩
  | 1,_ =>
   have z0:=e0 (by omega);by_cases hz:b=0
   · go_wp2
     exact ⟨⟨2,by omega,by go_num,fun _=>z0,fun _=>hz,(by first | rfl | trivial)⟩,by simp [intOf]⟩
   · have HS:Hid (or2 a b=b):=by show _=_;unfold or2;rw [if_pos z0]
     go_wp2;go_ret;exact ⟨by rw [HS.out];rfl,rfl⟩
  | 2,_ =>
   have HS:Hid (or2 a b=0):=(by show _=_;unfold or2;rw [if_pos (e0 (by omega)),e1 (by omega)]);go_wp2;go_ret;exact ⟨by rw [HS.out];rfl,rfl⟩
  | k+3,hk=>omega
def ShapesAt (w:World):Prop :=
 ∀ k:Nat,k<11→w.cell? ⟨2,k * 5,none⟩=some (.int .i64 (txtK k))∧w.cell? ⟨2,k * 5+1,none⟩=some (.int .i64 (kidLo k))∧w.cell? ⟨2,k * 5+2,none⟩=some (.int .i64 (kidHi k)) ∧
  w.cell? ⟨2,k * 5+3,none⟩=some (.int .i64 (clsLo k))∧w.cell? ⟨2,k * 5+4,none⟩=some (.int .i64 (clsHi k))
structure Tabs (w:World):Prop where
 keys:KeysAt w
 shapes:ShapesAt w
theorem Tabs.below {w w':World} (h:Tabs w) (hb:Bz w w'):Tabs w' :=
 ⟨⟨cell_next hb h.keys.1,cell_next hb h.keys.2.1,cell_next hb h.keys.2.2⟩,fun k hk=>by
  obtain ⟨a,b,c,d,e⟩:=h.shapes k hk
  exact ⟨cell_next hb a,cell_next hb b,cell_next hb c,cell_next hb d,cell_next hb e⟩⟩
theorem withinM_any (a b c:Int) (w:World):Calls prog 75 #[.int .i64 a,.int .i64 b,.int .i64 c] w fun e w'=>e=.returned (.bool (inB a b c))∧w'=w:=by
 by_cases h1:b≤a <;> by_cases h2:a≤c
 all_goals
  go_enter func75,ntmps75;go_wp2;go_ret;exact ⟨by simp [inB,h1,h2],rfl⟩
theorem isOp_any (t:ByteArray) (w:World):Calls prog 260 #[.string t] w fun e w'=>e=.returned (.bool (opB t))∧w'=w:=by
 cases h0:(t.toList == [61,61]) <;> cases h1:(t.toList == [60]) <;> cases h2:(t.toList == [43]) <;> cases h3:(t.toList == [45]) <;> cases h4:(t.toList == [42])
 all_goals
  go_enter func260,ntmps260;go_wp2;go_ret;exact ⟨by simp [opB,h0,h1,h2,h3,h4],rfl⟩
theorem textOk_any (k:Int) (t:ByteArray) (w:World) (hts:t.size≤maxLen) (hk:KeysAt w):Calls prog 258 #[.int .i64 k,.string t] w fun e w'=>e=.returned (.bool (tkB k t))∧w'=w:=by
 have HK:=hid hk;clear hk;by_cases k1:k=1
 · subst k1
   go_enter func258,ntmps258;go_wp2_with (go_at_call 85;go_must (refine (implAtomOk_any _ _ hts HK.out).mono ?_;rintro e w' ⟨rfl,rfl⟩));go_ret;exact ⟨by simp [tkB],rfl⟩
 by_cases k2:k=2
 · subst k2
   go_enter func258,ntmps258;go_wp2_with (go_at_call 71;go_must (refine (implVarOk_any _ _ hts).mono ?_;rintro e w' ⟨rfl,rfl⟩));go_ret;exact ⟨by simp [tkB],rfl⟩
 by_cases k3:k=3
 · subst k3
   go_enter func258,ntmps258;go_wp2_with (go_at_call 260;go_must (refine (isOp_any _ _).mono ?_;rintro e w' ⟨rfl,rfl⟩));go_ret;exact ⟨by simp [tkB],rfl⟩
 · have HS:Hid (tkB k t=t.toList.isEmpty):=by show _=_;rw [Bool.eq_iff_iff];simp [tkB,k1,k2,k3]
   go_enter func258,ntmps258;go_wp2;go_ret;exact ⟨by rw [HS.out];rfl,rfl⟩
theorem numberOk_any (k n:Int) (t m:ByteArray) (p q:Option Addr) (nk c nc c':Nat) (w:World):Calls prog 256 #[.agg #[.int .i64 k,.int .i64 n,.string t,.string m,.slice p nk c,.slice q nc c']] w fun e w'=>e=.returned (.bool (numB k n))∧Bz w w':=by
 have BL:Hid (Bz w (w.alloc (.cells #[.int .i64 k,.int .i64 n,.string t,.string m,.slice p nk c,.slice q nc c'] 76))):=(sqN _ _);by_cases k0:k=0
 · subst k0
   go_enter func256,ntmps256;go_wp2_with (go_at_call 75;go_must (refine (withinM_any _ _ _ _).mono ?_;rintro e w' ⟨rfl,rfl⟩));go_ret;exact ⟨by simp [numB],BL.out⟩
 · have HS:Hid (numB k n=(n == 0)):=by show _=_;rw [Bool.eq_iff_iff];simp [numB,k0]
   go_enter func256,ntmps256;go_wp2;go_ret;exact ⟨by rw [HS.out];rfl,BL.out⟩
theorem modOk_any (k n:Int) (t m:ByteArray) (p q:Option Addr) (nk c nc c':Nat) (w:World) (hms:m.size≤maxLen) (hk:KeysAt w):Calls prog 257 #[.agg #[.int .i64 k,.int .i64 n,.string t,.string m,.slice p nk c,.slice q nc c']] w fun e w'=>e=.returned (.bool (modB k m))∧Bz w w':=by
 have BL:Hid (Bz w (w.alloc (.cells #[.int .i64 k,.int .i64 n,.string t,.string m,.slice p nk c,.slice q nc c'] 76))):=(sqN _ _);have HK:Hid (KeysAt (w.alloc (.cells #[.int .i64 k,.int .i64 n,.string t,.string m,.slice p nk c,.slice q nc c'] 76))):=⟨cell_next BL.out hk.1,cell_next BL.out hk.2.1,cell_next BL.out hk.2.2⟩;clear hk;by_cases hm:m.toList = []
 · have hm2:(m.toList == [])=true:=by simpa using hm
   have HS:Hid (modB k m=true):=(by show _=_;simp [modB,hm]);clear hm;go_enter func257,ntmps257;go_wp2;go_ret;exact ⟨by rw [HS.out];rfl,BL.out⟩
 · have hm2:(m.toList == [])=false:=by simpa using hm
   by_cases k8:k=8
   · subst k8
     have HS:Hid (modB 8 m=atomB m):=(by show _=_;simp [modB,hm]);clear hm;go_enter func257,ntmps257;go_wp2_with (go_at_call 85;go_must (refine (implAtomOk_any _ _ hms HK.out).mono ?_;rintro e w' ⟨rfl,rfl⟩));go_ret;exact ⟨by rw [HS.out];rfl,BL.out⟩
   · have HS:Hid (modB k m=false):=by show _=_;simp [modB,hm,k8]
     clear hm;go_enter func257,ntmps257;go_wp2;go_ret;exact ⟨by rw [HS.out];rfl,BL.out⟩
theorem partsOk_any (k n:Int) (t m:ByteArray) (p q:Option Addr) (nk c nc c':Nat) (w:World) (hts:t.size≤maxLen) (hms:m.size≤maxLen) (hnk:nk≤9223372036854775807) (hnc:nc≤9223372036854775807) (hT:Tabs w) :
 Calls prog 251 #[.agg #[.int .i64 k,.int .i64 n,.string t,.string m,.slice p nk c,.slice q nc c']] w fun e w'=>e=.returned (.bool (plainB k n t m nk nc))∧Bz w w':=by
 have HT:=hid hT;clear hT;by_cases hr:0≤k∧k≤10
 · obtain ⟨kn,rfl⟩:∃ kn:Nat,k=kn:=⟨k.toNat,by omega⟩
   have hkn:kn<11:=(by omega);have hki:(kn:Int)<11:=(by omega);have hk0:=sqI kn;have hin:inB (kn:Int) 0 10=true:=(by simp [inB];omega);clear hr;have BL:Hid (Bz w (w.alloc (.cells #[.int .i64 (kn:Int),.int .i64 n,.string t,.string m,.slice p nk c,.slice q nc c'] 76))):=(sqN _ _);have BM:Hid (Bz w ((w.alloc (.cells #[.int .i64 (kn:Int),.int .i64 n,.string t,.string m,.slice p nk c,.slice q nc c'] 76)).alloc (.cells #[.int .i64 (txtK kn),.int .i64 (kidLo kn),.int .i64 (kidHi kn),.int .i64 (clsLo kn),.int .i64 (clsHi kn)] 290))):=BL.out.alloc BL.out.size _;obtain ⟨s0,s1,s2,s3,s4⟩:=(HT.out.below BL.out).shapes kn hkn;have HP:Hid (plainB kn n t m nk nc=(numB kn n && (modB kn m && (tkB (txtK kn) t && (inB nk (kidLo kn) (kidHi kn) && inB nc (clsLo kn) (clsHi kn)))))):=(by show _=_;simp [plainB,hin,txtB])
   cases h1:numB kn n with
   | false =>
    go_enter func251,ntmps251;go_wp2_with (first | (go_at_call 75;go_must (refine (withinM_any _ _ _ _).mono ?_;rintro e w9 ⟨rfl,rfl⟩;rw [hin])));refine (numberOk_any _ _ _ _ _ _ _ _ _ _ _).mono ?_;rintro e w2 ⟨rfl,hb2⟩;rw [h1];have B2:=hid (BM.out.trans (hb2.mono BM.out.size));go_wp2;go_ret;exact ⟨by rw [HP.out,h1];simp,B2.out⟩
   | true =>
    cases h2:modB kn m with
    | false =>
     go_enter func251,ntmps251;go_wp2_with (first | (go_at_call 75;go_must (refine (withinM_any _ _ _ _).mono ?_;rintro e w9 ⟨rfl,rfl⟩;rw [hin])));refine (numberOk_any _ _ _ _ _ _ _ _ _ _ _).mono ?_;rintro e w2 ⟨rfl,hb2⟩;rw [h1];have B2:=hid (BM.out.trans (hb2.mono BM.out.size));have g1:Hid (Blk w2 w.heap.size #[.int .i64 (kn:Int),.int .i64 n,.string t,.string m,.slice p nk c,.slice q nc c'] 76):=((Blk.new (w:=w)).alloc).next hb2
     have g2:Hid (Blk w2 (w.heap.size+1) #[.int .i64 (txtK kn),.int .i64 (kidLo kn),.int .i64 (kidHi kn),.int .i64 (clsLo kn),.int .i64 (clsHi kn)] 290):=by
      have:=(Blk.new (w:=(w.alloc (.cells #[.int .i64 (kn:Int),.int .i64 n,.string t,.string m,.slice p nk c,.slice q nc c'] 76))) (cs:=#[.int .i64 (txtK kn),.int .i64 (kidLo kn),.int .i64 (kidHi kn),.int .i64 (clsLo kn),.int .i64 (clsHi kn)]) (t:=290)).next hb2;simp only [alloc_hs] at this;exact this
     obtain ⟨a0,a1,a2,a3,a4,a5⟩:=sqB6 g1.out;clear hb2 s0 s1 s2 s3 s4;go_wp2_with fail;refine (modOk_any _ _ _ _ _ _ _ _ _ _ _ hms (HT.out.below B2.out).keys).mono ?_;rintro e w3 ⟨rfl,hb3⟩;rw [h2];have B3:=hid (B2.out.trans (hb3.mono B2.out.size));go_wp2;go_ret;exact ⟨by rw [HP.out,h1,h2];simp,B3.out⟩
    | true =>
     cases h3:tkB (txtK kn) t with
     | false =>
      go_enter func251,ntmps251;go_wp2_with (first | (go_at_call 75;go_must (refine (withinM_any _ _ _ _).mono ?_;rintro e w9 ⟨rfl,rfl⟩;rw [hin])));refine (numberOk_any _ _ _ _ _ _ _ _ _ _ _).mono ?_;rintro e w2 ⟨rfl,hb2⟩;rw [h1];have B2:=hid (BM.out.trans (hb2.mono BM.out.size));have g1:Hid (Blk w2 w.heap.size #[.int .i64 (kn:Int),.int .i64 n,.string t,.string m,.slice p nk c,.slice q nc c'] 76):=((Blk.new (w:=w)).alloc).next hb2
      have g2:Hid (Blk w2 (w.heap.size+1) #[.int .i64 (txtK kn),.int .i64 (kidLo kn),.int .i64 (kidHi kn),.int .i64 (clsLo kn),.int .i64 (clsHi kn)] 290):=by
       have:=(Blk.new (w:=(w.alloc (.cells #[.int .i64 (kn:Int),.int .i64 n,.string t,.string m,.slice p nk c,.slice q nc c'] 76))) (cs:=#[.int .i64 (txtK kn),.int .i64 (kidLo kn),.int .i64 (kidHi kn),.int .i64 (clsLo kn),.int .i64 (clsHi kn)]) (t:=290)).next hb2;simp only [alloc_hs] at this;exact this
      obtain ⟨a0,a1,a2,a3,a4,a5⟩:=sqB6 g1.out;clear hb2 s0 s1 s2 s3 s4;go_wp2_with fail;refine (modOk_any _ _ _ _ _ _ _ _ _ _ _ hms (HT.out.below B2.out).keys).mono ?_;rintro e w3 ⟨rfl,hb3⟩;rw [h2];have B3:=hid (B2.out.trans (hb3.mono B2.out.size));have g3:=g1.out.next hb3;have g4:=g2.out.next hb3;clear a0 a1 a2 a3 a4 a5;obtain ⟨a0,a1,a2,a3,a4,a5⟩:=sqB6 g3;have b0:=g4.cell 0 _ rfl;have b1:=g4.cell 1 _ rfl;have b2:=g4.cell 2 _ rfl;have b3:=g4.cell 3 _ rfl;have b4:=g4.cell 4 _ rfl;clear hb3 g3 g4;go_wp2_with (first | (go_at_call 258;go_must (refine (textOk_any _ _ _ hts (HT.out.below B3.out).keys).mono ?_;rintro e w9 ⟨rfl,rfl⟩;rw [h3])));go_ret;exact ⟨by rw [HP.out,h1,h2,h3];simp,B3.out⟩
     | true =>
      cases h4:inB nk (kidLo kn) (kidHi kn) with
      | false =>
       go_enter func251,ntmps251;go_wp2_with (first | (go_at_call 75;go_must (refine (withinM_any _ _ _ _).mono ?_;rintro e w9 ⟨rfl,rfl⟩;rw [hin])));refine (numberOk_any _ _ _ _ _ _ _ _ _ _ _).mono ?_;rintro e w2 ⟨rfl,hb2⟩;rw [h1];have B2:=hid (BM.out.trans (hb2.mono BM.out.size));have g1:Hid (Blk w2 w.heap.size #[.int .i64 (kn:Int),.int .i64 n,.string t,.string m,.slice p nk c,.slice q nc c'] 76):=((Blk.new (w:=w)).alloc).next hb2
       have g2:Hid (Blk w2 (w.heap.size+1) #[.int .i64 (txtK kn),.int .i64 (kidLo kn),.int .i64 (kidHi kn),.int .i64 (clsLo kn),.int .i64 (clsHi kn)] 290):=by
        have:=(Blk.new (w:=(w.alloc (.cells #[.int .i64 (kn:Int),.int .i64 n,.string t,.string m,.slice p nk c,.slice q nc c'] 76))) (cs:=#[.int .i64 (txtK kn),.int .i64 (kidLo kn),.int .i64 (kidHi kn),.int .i64 (clsLo kn),.int .i64 (clsHi kn)]) (t:=290)).next hb2;simp only [alloc_hs] at this;exact this
       obtain ⟨a0,a1,a2,a3,a4,a5⟩:=sqB6 g1.out;clear hb2 s0 s1 s2 s3 s4;go_wp2_with fail;refine (modOk_any _ _ _ _ _ _ _ _ _ _ _ hms (HT.out.below B2.out).keys).mono ?_;rintro e w3 ⟨rfl,hb3⟩;rw [h2];have B3:=hid (B2.out.trans (hb3.mono B2.out.size));have g3:=g1.out.next hb3;have g4:=g2.out.next hb3;clear a0 a1 a2 a3 a4 a5;obtain ⟨a0,a1,a2,a3,a4,a5⟩:=sqB6 g3;have b0:=g4.cell 0 _ rfl;have b1:=g4.cell 1 _ rfl;have b2:=g4.cell 2 _ rfl;have b3:=g4.cell 3 _ rfl;have b4:=g4.cell 4 _ rfl;clear hb3 g3 g4;go_wp2_with (first | (go_at_call 258;go_must (refine (textOk_any _ _ _ hts (HT.out.below B3.out).keys).mono ?_;rintro e w9 ⟨rfl,rfl⟩;rw [h3])) | (go_at_call_of 75 (kidLo kn);go_must (refine (withinM_any _ _ _ _).mono ?_;rintro e w9 ⟨rfl,rfl⟩;rw [h4])));go_ret;exact ⟨by rw [HP.out,h1,h2,h3,h4];simp,B3.out⟩
      | true =>
       go_enter func251,ntmps251;go_wp2_with (first | (go_at_call 75;go_must (refine (withinM_any _ _ _ _).mono ?_;rintro e w9 ⟨rfl,rfl⟩;rw [hin])));refine (numberOk_any _ _ _ _ _ _ _ _ _ _ _).mono ?_;rintro e w2 ⟨rfl,hb2⟩;rw [h1];have B2:=hid (BM.out.trans (hb2.mono BM.out.size));have g1:Hid (Blk w2 w.heap.size #[.int .i64 (kn:Int),.int .i64 n,.string t,.string m,.slice p nk c,.slice q nc c'] 76):=((Blk.new (w:=w)).alloc).next hb2
       have g2:Hid (Blk w2 (w.heap.size+1) #[.int .i64 (txtK kn),.int .i64 (kidLo kn),.int .i64 (kidHi kn),.int .i64 (clsLo kn),.int .i64 (clsHi kn)] 290):=by
        have:=(Blk.new (w:=(w.alloc (.cells #[.int .i64 (kn:Int),.int .i64 n,.string t,.string m,.slice p nk c,.slice q nc c'] 76))) (cs:=#[.int .i64 (txtK kn),.int .i64 (kidLo kn),.int .i64 (kidHi kn),.int .i64 (clsLo kn),.int .i64 (clsHi kn)]) (t:=290)).next hb2;simp only [alloc_hs] at this;exact this
       obtain ⟨a0,a1,a2,a3,a4,a5⟩:=sqB6 g1.out;clear hb2 s0 s1 s2 s3 s4;go_wp2_with fail;refine (modOk_any _ _ _ _ _ _ _ _ _ _ _ hms (HT.out.below B2.out).keys).mono ?_;rintro e w3 ⟨rfl,hb3⟩;rw [h2];have B3:=hid (B2.out.trans (hb3.mono B2.out.size));have g3:=g1.out.next hb3;have g4:=g2.out.next hb3;clear a0 a1 a2 a3 a4 a5;obtain ⟨a0,a1,a2,a3,a4,a5⟩:=sqB6 g3;have b0:=g4.cell 0 _ rfl;have b1:=g4.cell 1 _ rfl;have b2:=g4.cell 2 _ rfl;have b3:=g4.cell 3 _ rfl;have b4:=g4.cell 4 _ rfl;clear hb3 g3 g4;go_wp2_with (first | (go_at_call 258;go_must (refine (textOk_any _ _ _ hts (HT.out.below B3.out).keys).mono ?_;rintro e w9 ⟨rfl,rfl⟩;rw [h3])) | (go_at_call_of 75 (kidLo kn);go_must (refine (withinM_any _ _ _ _).mono ?_;rintro e w9 ⟨rfl,rfl⟩;rw [h4])) | (go_at_call_of 75 (clsLo kn);go_must (refine (withinM_any _ _ _ _).mono ?_;rintro e w9 ⟨rfl,rfl⟩)));go_ret;exact ⟨by rw [HP.out,h1,h2,h3,h4];simp,B3.out⟩
 · have hin:inB k 0 10=false:=by simp [inB];omega
   have BL:Hid (Bz w (w.alloc (.cells #[.int .i64 k,.int .i64 n,.string t,.string m,.slice p nk c,.slice q nc c'] 76))):=(sqN _ _);clear hr;go_enter func251,ntmps251;go_wp2_with (first | (go_at_call 75;go_must (refine (withinM_any _ _ _ _).mono ?_;rintro e w9 ⟨rfl,rfl⟩;rw [hin])));go_ret;exact ⟨by simp [plainB,hin],BL.out⟩
def cmpRf (a b:Rf):Int:=or2 (cmpS a.name b.name) (cmpI a.arity b.arity)
def lessB (a b:Rf):Bool:=decide (cmpRf a b<0)
def refB (r:Rf):Bool:=atomB r.name && inB r.arity 0 6
def sameR (r:Rf) (f:Fn'):Bool:=f.name.toList == r.name.toList && f.arity == r.arity
theorem l02Less_any (a b:Rf) (w:World):Calls prog 83 #[.agg #[.string a.name,.int .i64 a.arity],.agg #[.string b.name,.int .i64 b.arity]] w fun e w'=>e=.returned (.bool (lessB a b))∧Bz w w':=by
 obtain ⟨s,m⟩:=a;obtain ⟨t,n⟩:=b;have BL:Hid (Bz w ((w.alloc (.cells #[.string s,.int .i64 m] 84)).alloc (.cells #[.string t,.int .i64 n] 84))):=((sqN _ _)).alloc (by simp) _;simp only
 cases hb:Op.bytesLess s.toList t.toList with
 | true =>
  have HS:Hid (lessB ⟨s,m⟩ ⟨t,n⟩=true):=(by show _=_;simp [lessB,cmpRf,or2,cmpS_lt hb]);go_enter func83,ntmps83;go_wp2;go_ret;exact ⟨by rw [HS.out];rfl,BL.out⟩
 | false =>
  by_cases he:s=t
  · subst he
    have HS:Hid (lessB ⟨s,m⟩ ⟨s,n⟩=decide (m<n)):=by
     show _=_;simp only [lessB,cmpRf,or2,cmpS_self,if_true,cmpI];by_cases h1:m<n
     · simp [h1]
     · by_cases h2:n<m <;> simp [h1,h2]
    go_enter func83,ntmps83;go_wp2;go_ret;exact ⟨by rw [HS.out];rfl,BL.out⟩
  · have HS:Hid (lessB ⟨s,m⟩ ⟨t,n⟩=false):=by show _=_;simp [lessB,cmpRf,or2,cmpS_gt hb he]
    have hq1:=str_ne he;have hq2:=str_neB he;go_enter func83,ntmps83;go_wp2;go_ret;exact ⟨by rw [HS.out];rfl,BL.out⟩
theorem compareRef_any (a b:Rf) (w:World):Calls prog 97 #[.agg #[.string a.name,.int .i64 a.arity],.agg #[.string b.name,.int .i64 b.arity]] w fun e w'=>e=.returned (.int .i64 (cmpRf a b))∧Bz w w':=by
 obtain ⟨s,m⟩:=a;obtain ⟨t,n⟩:=b;simp only;obtain ⟨W2,hW2⟩:∃ W2,W2=(w.alloc (.cells #[.string s,.int .i64 m] 84)).alloc (.cells #[.string t,.int .i64 n] 84):=⟨_,rfl⟩;have bA:Hid (Blk W2 w.heap.size #[.string s,.int .i64 m] 84):=(by show Blk _ _ _ _;rw [hW2];exact Blk.new.alloc)
 have bB:Hid (Blk W2 (w.heap.size+1) #[.string t,.int .i64 n] 84):=by
  show Blk _ _ _ _;rw [hW2];have:=Blk.new (w:=w.alloc (.cells #[.string s,.int .i64 m] 84)) (cs:=#[.string t,.int .i64 n]) (t:=84)
  rwa [alloc_hs] at this
 have HAL:Hid (Bz w W2):=(by show Below _ _ _;rw [hW2];exact ((sqN _ _)).alloc (by simp) _);have HW2:Hid (W2=(w.alloc (.cells #[.string s,.int .i64 m] 84)).alloc (.cells #[.string t,.int .i64 n] 84)):=hW2;clear hW2;obtain ⟨a0,a1⟩:=sqB2 bA.out;obtain ⟨b0,b1⟩:=sqB2 bB.out;generalize ho:or2 (cmpS s t) (cmpI m n)=o;have HO:Hid (or2 (cmpS s t) (cmpI m n)=o):=ho;have HS:Hid (cmpRf ⟨s,m⟩ ⟨t,n⟩=o):=ho;clear ho;go_enter func97,ntmps97;go_wp2_with fail;rw [← HW2.out]
 go_region_held3 (fun w'=>w'.cell? ⟨w.heap.size,0,none⟩=some (.string s)∧w'.cell? ⟨w.heap.size,1,none⟩=some (.int .i64 m)∧w'.cell? ⟨w.heap.size+1,0,none⟩=some (.string t)∧w'.cell? ⟨w.heap.size+1,1,none⟩=some (.int .i64 n))
  (first | go_keep)
  (first
   | (go_at_call 142;refine (cmpInt_any _ _ _).mono ?_;rintro e w' ⟨rfl,rfl⟩)
   | (go_at_call 141;refine (stringsCompare_any _ _ _).mono ?_;rintro e w' ⟨rfl,rfl⟩)
   | (go_at_call 140;refine (cmpOr2_any (cmpS s t) (cmpI m n) _ _ (by exact cell_new _ _ _ 0 _ rfl) (by exact cell_new _ _ _ 1 _ rfl)).mono ?_;rintro e w' ⟨rfl,rfl⟩;rw [HO.out]))
 go_split_ands;have K3:Bz W2 ((W2.alloc (.cells #[.int .i64 (cmpS s t),.int .i64 (cmpI m n)] 3)).drew):=((sqN _ _)).drew;have HB3:Hid (Bz w ((W2.alloc (.cells #[.int .i64 (cmpS s t),.int .i64 (cmpI m n)] 3)).drew)):=HAL.out.trans (K3.mono HAL.out.size);clear K3;go_wp2;go_ret;exact ⟨by rw [HS.out];rfl,HB3.out⟩
theorem refOk_any (r:Rf) (w:World) (hs:r.name.size≤maxLen) (hk:KeysAt w):Calls prog 209 #[.agg #[.string r.name,.int .i64 r.arity]] w fun e w'=>e=.returned (.bool (refB r))∧Bz w w':=by
 obtain ⟨s,n⟩:=r;simp only at *;have BL:Hid (Bz w (w.alloc (.cells #[.string s,.int .i64 n] 84))):=(sqN _ _);have HK:Hid (KeysAt (w.alloc (.cells #[.string s,.int .i64 n] 84))):=⟨cell_next BL.out hk.1,cell_next BL.out hk.2.1,cell_next BL.out hk.2.2⟩;clear hk
 cases ha:atomB s with
 | true =>
  go_enter func209,ntmps209;go_wp2_with (first | (go_at_call 85;go_must (refine (implAtomOk_any _ _ hs HK.out).mono ?_;rintro e w' ⟨rfl,rfl⟩;rw [ha])) | (go_at_call 75;go_must (refine (withinM_any _ _ _ _).mono ?_;rintro e w' ⟨rfl,rfl⟩)));go_ret;exact ⟨by simp [refB,ha],BL.out⟩
 | false =>
  go_enter func209,ntmps209;go_wp2_with (first | (go_at_call 85;go_must (refine (implAtomOk_any _ _ hs HK.out).mono ?_;rintro e w' ⟨rfl,rfl⟩;rw [ha])));go_ret;exact ⟨by simp [refB,ha],BL.out⟩
theorem refOf_any (s:ByteArray) (n:Int) (p:Option Addr) (l c:Nat) (w:World):Calls prog 93 #[.agg #[.string s,.int .i64 n,.slice p l c]] w fun e w'=>e=.returned (.agg #[.string s,.int .i64 n])∧Bz w w':=by
 go_enter func93,ntmps93;go_wp2;refine bodyPost_ret (v:=.agg #[.string s,.int .i64 n]) (by simp [results,results93,go_sem]) rfl ⟨rfl,?_⟩
 first | exact (sqN _ _) | exact ((sqN _ _)).alloc (by simp) _ | exact ((((sqN _ _)).alloc (by simp) _).setCell (by simp) _).setCell (by simp) _
theorem exShape {w:World} {S:Nat→Prop} {d:Nat} {cs:List Value} {x:Ex} (h:HEx w S d cs x):∃ sk sn st se p1 n1 q1 p2 n2 q2,cs = [.int .i64 sk,.int .i64 sn,.string st,.string se,.slice p1 n1 q1,.slice p2 n2 q2]:=by
 cases d with
 | zero=>exact h.elim
 | succ d =>
  obtain ⟨kv,cv,rfl,_,_,_,_,⟨p1,c1,rfl,_⟩,⟨p2,c2,rfl,_⟩⟩:=h;exact ⟨_,_,_,_,_,_,_,_,_,_,rfl⟩
theorem clShape {w:World} {S:Nat→Prop} {R:List Value→Ex→Prop} {cs:List Value} {x:Cl} (h:HCl w S R cs x):∃ p1 n1 q1 p2 n2 q2,cs = [.slice p1 n1 q1,.slice p2 n2 q2]:=by
 obtain ⟨pv,bv,rfl,⟨p1,c1,rfl,_⟩,⟨p2,c2,rfl,_⟩⟩:=h;exact ⟨_,_,_,_,_,_,rfl⟩
def XpC (d:Nat):Prop :=
 ∀ (w:World) (cs:List Value) (x:Ex) (pat:Bool) (deep:Int),Tabs w→HEx w All d cs x→0≤deep→deep≤41→Calls prog 241 #[.agg cs.toArray,.int .i64 deep,.bool pat] w fun e w'=>e=.returned (.bool (exOk d x pat (40 - deep)))∧Bz w w'
def XsC (d:Nat):Prop :=
 ∀ (w:World) (v:Value) (es:List Ex) (pat:Bool) (deep:Int),Tabs w→Rows w All 6 (HEx w All d) v es→0≤deep→deep≤41→Calls prog 229 #[v,.int .i64 deep,.bool pat] w fun e w'=>e=.returned (.bool (es.all (fun y=>exOk d y pat (40 - deep))))∧Bz w w'
def KcC (d:Nat):Prop :=
 ∀ (w:World) (cs:List Value) (c:Cl) (pats deep:Int),Tabs w→HCl w All (HEx w All d) cs c→0≤deep→deep≤41→Calls prog 223 #[.agg cs.toArray,.int .i64 pats,.int .i64 deep] w fun e w'=>e=.returned (.bool (clB (fun y q=>exOk d y q (40 - deep)) c pats))∧Bz w w'
def KsC (d:Nat):Prop :=
 ∀ (w:World) (v:Value) (cl:List Cl) (deep:Int),Tabs w→Rows w All 2 (HCl w All (HEx w All d)) v cl→0≤deep→deep≤41→Calls prog 252 #[v,.int .i64 deep] w fun e w'=>e=.returned (.bool (cl.all (fun c=>clB (fun y q=>exOk d y q (40 - deep)) c 1)))∧Bz w w'
theorem expsI_of {d:Nat} (hE:XpC d):XsC d:=by
 intro w v es pat deep hT h hd0 hd1;have HT:=hid hT;obtain ⟨p,cap,rfl,hcl,hcm,hx⟩:=h;have hnb:=sqM hcl hcm;generalize hn:es.length=n at *;have HN:=hid hn;have HX:=hid hx;clear hx hn hT;go_enter func229,ntmps229;go_wp2_with fail
 go_loopw [11] (fun iv wr=>∃ k:Nat,k≤n∧iv=.int .i64 k∧Hid ((es.take k).all (fun y=>exOk d y pat (40 - deep))=true)∧Bz w wr) (fun iv _=>n - (intOf iv).toNat)
 case atStart=>exact ⟨0,Nat.zero_le _,rfl,by show _=_;simp,Below.refl _ _⟩
 case round =>
  obtain ⟨k,hk,rfl,hall,hb⟩:=hrel;have HB:=hid hb;by_cases hlt:k<n
  · obtain ⟨x,hxk⟩:=sqA (l:=es) (k:=k) HN.out hlt
    obtain ⟨g,off,rfl,-,hgl,hat⟩:=HX.out (sqE hxk);obtain ⟨cs,hcsl,hcs,r1⟩:=hat k x hxk;obtain ⟨sk,sn,st,se,p1,n1,q1,p2,n2,q2,rfl⟩:=exShape r1;have E1:∀ w',Bz w w'→HEx w' All d [.int .i64 sk,.int .i64 sn,.string st,.string se,.slice p1 n1 q1,.slice p2 n2 q2] x:=fun w' hw=>r1.mono (sqO hw) (fun _ h=>h);obtain ⟨a0,a1,a2,a3,a4,a5⟩:=sqC6 hcs (by omega);rw [← hb.cell (p:=⟨g,_,none⟩) hgl] at a0 a1 a2 a3 a4 a5;simp at a0 a1 a2 a3 a4 a5;have hki:(k:Int)<(n:Int):=(by omega);have hk0:=sqI k;have HBA:Hid (Bz w (wr.alloc (.cells #[.int .i64 sk,.int .i64 sn,.string st,.string se,.slice p1 n1 q1,.slice p2 n2 q2] 76))):=HB.out.alloc HB.out.size _;clear hb hcs hat hcsl r1;generalize hcv:exOk d x pat (40 - deep)=cv;have HCV:=hid hcv;have HC2:Hid (cv=true→(es.take (k+1)).all (fun y=>exOk d y pat (40 - deep))=true):=fun h=>allT_succ _ es k x hxk hall.out (hcv.trans h);have HC3:Hid (cv=false→es.all (fun y=>exOk d y pat (40 - deep))=false):=fun h=>allT_at _ es k x hxk (hcv.trans h);clear hcv;go_wp2_with fail;refine (hE _ _ x pat deep (HT.out.below HBA.out) (E1 _ HBA.out) (by omega) (by omega)).mono ?_;rintro e w4 ⟨rfl,hb4⟩;rw [HCV.out];have HB4:=hid (HBA.out.trans (hb4.mono HBA.out.size));clear hb4 HCV
    cases cv with
    | true =>
     have HT':Hid _:=HC2.out rfl;clear HC2 HC3;go_wp2_with fail;exact ⟨⟨k+1,by omega,by go_num,HT'.out,HB4.out⟩,by simp [intOf];omega⟩
    | false =>
     have HF:=hid (HC3.out rfl);clear HC2 HC3;go_wp2_with fail;go_ret;exact ⟨by first | (rw [HF.out];rfl) | (rw [HF.out];simp),HB4.out⟩
  · have HD:Hid (es.all (fun y=>exOk d y pat (40 - deep))=true):=by
     have:=hall.out
     rwa [List.take_of_length_le (by rw [HN.out];omega)] at this
    clear hb;go_wp2_with fail;go_ret;exact ⟨by first | (rw [HD.out];rfl) | (rw [HD.out];simp),HB.out⟩
theorem casesI_of {d:Nat} (hE:KcC d):KsC d:=by
 intro w v cl deep hT h hd0 hd1;have HT:=hid hT;obtain ⟨p,cap,rfl,hcl,hcm,hx⟩:=h;have hnb:=sqM hcl hcm;generalize hn:cl.length=n at *;have HN:=hid hn;have HX:=hid hx;clear hx hn hT;go_enter func252,ntmps252;go_wp2_with fail
 go_loopw [9] (fun iv wr=>∃ k:Nat,k≤n∧iv=.int .i64 k∧Hid ((cl.take k).all (fun c=>clB (fun y q=>exOk d y q (40 - deep)) c 1)=true)∧Bz w wr) (fun iv _=>n - (intOf iv).toNat)
 case atStart=>exact ⟨0,Nat.zero_le _,rfl,by show _=_;simp,Below.refl _ _⟩
 case round =>
  obtain ⟨k,hk,rfl,hall,hb⟩:=hrel;have HB:=hid hb;by_cases hlt:k<n
  · obtain ⟨x,hxk⟩:=sqA (l:=cl) (k:=k) HN.out hlt
    obtain ⟨g,off,rfl,-,hgl,hat⟩:=HX.out (sqE hxk);obtain ⟨cs,hcsl,hcs,r1⟩:=hat k x hxk;obtain ⟨p1,n1,q1,p2,n2,q2,rfl⟩:=clShape r1;have E1:∀ w',Bz w w'→HCl w' All (HEx w' All d) [.slice p1 n1 q1,.slice p2 n2 q2] x:=fun w' hw=>r1.mono (sqO hw) (fun _ h=>h) (fun _ _ h=>h.mono (sqO hw) (fun _ h=>h));obtain ⟨a0,a1⟩:=sqC2 hcs (by omega);rw [← hb.cell (p:=⟨g,_,none⟩) hgl] at a0 a1;simp at a0 a1;have hki:(k:Int)<(n:Int):=(by omega);have hk0:=sqI k;have HBA:Hid (Bz w (wr.alloc (.cells #[.slice p1 n1 q1,.slice p2 n2 q2] 46))):=HB.out.alloc HB.out.size _;clear hb hcs hat hcsl r1;generalize hcv:clB (fun y q=>exOk d y q (40 - deep)) x 1=cv;have HCV:=hid hcv;have HC2:Hid (cv=true→(cl.take (k+1)).all (fun c=>clB (fun y q=>exOk d y q (40 - deep)) c 1)=true):=fun h=>allT_succ _ cl k x hxk hall.out (hcv.trans h);have HC3:Hid (cv=false→cl.all (fun c=>clB (fun y q=>exOk d y q (40 - deep)) c 1)=false):=fun h=>allT_at _ cl k x hxk (hcv.trans h);clear hcv;go_wp2_with fail;refine (hE _ _ x 1 deep (HT.out.below HBA.out) (E1 _ HBA.out) (by omega) (by omega)).mono ?_;rintro e w4 ⟨rfl,hb4⟩;rw [HCV.out];have HB4:=hid (HBA.out.trans (hb4.mono HBA.out.size));clear hb4 HCV
    cases cv with
    | true =>
     have HT':Hid _:=HC2.out rfl;clear HC2 HC3;go_wp2_with fail;exact ⟨⟨k+1,by omega,by go_num,HT'.out,HB4.out⟩,by simp [intOf];omega⟩
    | false =>
     have HF:=hid (HC3.out rfl);clear HC2 HC3;go_wp2_with fail;go_ret;exact ⟨by first | (rw [HF.out];rfl) | (rw [HF.out];simp),HB4.out⟩
  · have HD:Hid (cl.all (fun c=>clB (fun y q=>exOk d y q (40 - deep)) c 1)=true):=by
     have:=hall.out
     rwa [List.take_of_length_le (by rw [HN.out];omega)] at this
    clear hb;go_wp2_with fail;go_ret;exact ⟨by first | (rw [HD.out];rfl) | (rw [HD.out];simp),HB.out⟩
theorem clauseI_of {d:Nat} (hE:XsC d):KcC d:=by
 intro w cs c pats deep hT h hd0 hd1;have HT:=hid hT;obtain ⟨pv,bv,rfl,f0,f1⟩:=h;obtain ⟨ps,bs⟩:=c;simp only at f0 f1;have BL:Hid (Bz w (w.alloc (.cells #[pv,bv] 46))):=(sqN _ _);have F0:∀ w',Bz w w'→Rows w' All 6 (HEx w' All d) pv ps:=fun w' hw=>f0.mono (sqO hw) (fun _ h=>h) (fun _ _ _ h=>h.mono (sqO hw) (fun _ h=>h));have F1:∀ w',Bz w w'→Rows w' All 6 (HEx w' All d) bv bs:=fun w' hw=>f1.mono (sqO hw) (fun _ h=>h) (fun _ _ _ h=>h.mono (sqO hw) (fun _ h=>h));obtain ⟨p,cap,rfl,hcl,hcm,-⟩:=f0;obtain ⟨q,cap',rfl,hcl',hcm',-⟩:=f1;have hnb:=sqM hcl hcm;have hmb:=sqM hcl' hcm';have hv:clB (fun y q=>exOk d y q (40 - deep)) (ps,bs) pats=(decide ((ps.length:Int)=pats) && (inB bs.length 1 20 && (ps.all (fun y=>exOk d y true (40 - deep)) && bs.all (fun y=>exOk d y false (40 - deep))))):=rfl;rw [hv];clear hv hT;generalize ps.length=n at *;generalize bs.length=m at *;by_cases c1:(n:Int)=pats
 · subst c1
   rw [decide_eq_true rfl]
   cases hin:inB m 1 20 with
   | false =>
    go_enter func223,ntmps223;go_wp2_with (first | (go_at_call 75;go_must (refine (withinM_any _ _ _ _).mono ?_;rintro e w9 ⟨rfl,rfl⟩;rw [hin])));go_ret;exact ⟨by simp,BL.out⟩
   | true =>
    cases h1:ps.all (fun y=>exOk d y true (40 - deep)) with
    | false =>
     go_enter func223,ntmps223;go_wp2_with (first | (go_at_call 75;go_must (refine (withinM_any _ _ _ _).mono ?_;rintro e w9 ⟨rfl,rfl⟩;rw [hin])));refine (hE _ _ ps true deep (HT.out.below BL.out) (F0 _ BL.out) (by omega) (by omega)).mono ?_;rintro e w2 ⟨rfl,hb2⟩;rw [h1];have B2:=hid (BL.out.trans (hb2.mono BL.out.size));clear hb2;go_wp2_with fail;go_ret;exact ⟨by simp,B2.out⟩
    | true =>
     go_enter func223,ntmps223;go_wp2_with (first | (go_at_call 75;go_must (refine (withinM_any _ _ _ _).mono ?_;rintro e w9 ⟨rfl,rfl⟩;rw [hin])));refine (hE _ _ ps true deep (HT.out.below BL.out) (F0 _ BL.out) (by omega) (by omega)).mono ?_;rintro e w2 ⟨rfl,hb2⟩;rw [h1];have B2:=hid (BL.out.trans (hb2.mono BL.out.size));have hbk:=(Blk.new (w:=w) (cs:=#[.slice p n cap,.slice q m cap']) (t:=46)).next hb2;obtain ⟨a0,a1⟩:=sqB2 hbk;clear hb2 hbk;go_wp2_with fail;refine (hE _ _ bs false deep (HT.out.below B2.out) (F1 _ B2.out) (by omega) (by omega)).mono ?_;rintro e w3 ⟨rfl,hb3⟩;have B3:=hid (B2.out.trans (hb3.mono B2.out.size));clear hb3;go_wp2_with fail;go_ret;exact ⟨by simp,B3.out⟩
 · have c2:((n:Int) == pats)=false:=by simpa using c1
   rw [decide_eq_false c1];go_enter func223,ntmps223;go_wp2;go_ret;exact ⟨by simp,BL.out⟩
theorem plainB_parts {k n:Int} {t m:ByteArray} {nk nc:Nat} (h:plainB k n t m nk nc=true):kidLo k≤nk∧(nk:Int)≤kidHi k∧clsLo k≤nc∧(nc:Int)≤clsHi k:=by
 unfold plainB at h;simp only [Bool.and_eq_true,inB,decide_eq_true_eq] at h;omega
theorem expI_of {d:Nat} (h0:XpC d) (h1:XsC d) (h2:KsC d):XpC (d+1):=by
 intro w cs x pat deep hT h hd0 hd1;have HT:=hid hT;obtain ⟨kv,cv,rfl,-,-,hts,hms,f0,f1⟩:=h;obtain ⟨kx,nx,tx,mx,ks,cl⟩:=x;simp only [Ex.kind,Ex.n,Ex.text,Ex.mod,Ex.kids,Ex.clauses] at *;have F0:∀ w',Bz w w'→Rows w' All 6 (HEx w' All d) kv ks:=fun w' hw=>f0.mono (sqO hw) (fun _ h=>h) (fun _ _ _ h=>h.mono (sqO hw) (fun _ h=>h));have F1:∀ w',Bz w w'→Rows w' All 2 (HCl w' All (HEx w' All d)) cv cl:=fun w' hw=>f1.mono (sqO hw) (fun _ h=>h) (fun _ _ _ h=>h.mono (sqO hw) (fun _ h=>h) (fun _ _ h=>h.mono (sqO hw) (fun _ h=>h)));obtain ⟨p,cap,rfl,hcl,hcm,hx⟩:=f0;obtain ⟨q,cap',rfl,hcl',hcm',-⟩:=f1;have hnb:=sqM hcl hcm;have hmb:=sqM hcl' hcm';have hv:=exOk_eq d kx nx tx mx ks cl pat (40 - deep);have e1:40 - deep - 1=40 - (deep+1):=(by omega);rw [e1] at hv;rw [hv];clear hv e1 hT;have BL:Hid (∀ (cs:Array Value) (t:TypeId),Bz w (w.alloc (.cells cs t))):=fun cs t=>(sqN _ _);generalize hn:ks.length=n at *;generalize hm:cl.length=m at *;have HN:=hid hn;have HM:=hid hm;have HX:=hid hx;clear hx hn hm;by_cases c1:40<deep
 · rw [decide_eq_false (by omega)]
   go_enter func241,ntmps241;go_wp2_with fail;go_ret;exact ⟨by simp,BL.out _ _⟩
 rw [decide_eq_true (by omega:0≤40 - deep)]
 cases hpl:plainB kx nx tx mx n m with
 | false =>
  go_enter func241,ntmps241;go_wp2_with fail;refine (partsOk_any _ _ _ _ _ _ _ _ _ _ _ hts hms hnb hmb (HT.out.below (BL.out _ _))).mono ?_;rintro e W1 ⟨rfl,hb⟩;rw [hpl];have B1:Hid (Bz w W1):=((sqN _ _)).trans (hb.mono (by simp));have bA:Hid (Blk W1 w.heap.size #[.int .i64 kx,.int .i64 nx,.string tx,.string mx,.slice p n cap,.slice q m cap'] 76):=(Blk.new (w:=w)).next hb;obtain ⟨xa0,xa1,xa2,xa3,xa4,xa5⟩:=sqB6 bA.out;clear hb;go_wp2_with fail;go_ret;exact ⟨by simp,B1.out⟩
 | true =>
  obtain ⟨r0,r1⟩:=plainB_range hpl;obtain ⟨g0,g1,g2,g3⟩:=plainB_parts hpl;simp only [Bool.true_and]
  have nocl:kx≠10→cl = []:=fun h=>by
   have:clsHi kx=0:=(by simp [clsHi,h]);have h3:=HM.out;exact List.length_eq_zero_iff.1 (by omega)
  by_cases k3:kx=3
  · subst k3
    have hk:ks = []:=by
     have:kidHi 3=0:=(by decide);have h3:=HN.out;exact List.length_eq_zero_iff.1 (by omega)
    have HV:Hid ((patB 3 pat && (kidsB (fun y q=>exOk d y q (40 - (deep+1))) ks (pat || decide ((3:Int)=9)) pat && cl.all (fun c=>clB (fun y q=>exOk d y q (40 - (deep+1))) c 1)))=pat):=by
     show _=_
     rw [hk,nocl (by omega)];cases pat <;> simp [kidsB,patB]
    clear nocl hk g0 g1 g2 g3;rw [HV.out];go_enter func241,ntmps241;go_wp2_with fail;refine (partsOk_any _ _ _ _ _ _ _ _ _ _ _ hts hms hnb hmb (HT.out.below (BL.out _ _))).mono ?_;rintro e W1 ⟨rfl,hb⟩;rw [hpl];have B1:Hid (Bz w W1):=((sqN _ _)).trans (hb.mono (by simp));have bA:Hid (Blk W1 w.heap.size #[.int .i64 3,.int .i64 nx,.string tx,.string mx,.slice p n cap,.slice q m cap'] 76):=(Blk.new (w:=w)).next hb;obtain ⟨xa0,xa1,xa2,xa3,xa4,xa5⟩:=sqB6 bA.out;clear hb;go_wp2_with fail;go_ret;exact ⟨by rfl,B1.out⟩
  by_cases k46:kx=4∨kx=6
  · have HV:Hid ((patB kx pat && (kidsB (fun y q=>exOk d y q (40 - (deep+1))) ks (pat || decide (kx=9)) pat && cl.all (fun c=>clB (fun y q=>exOk d y q (40 - (deep+1))) c 1)))=ks.all (fun y=>exOk d y pat (40 - (deep+1)))):=by
     show _=_;have e9:decide (kx=9)=false:=(by simp;omega)
     have ep:patB kx pat=true:=by cases pat <;> simp [patB] <;> omega
     rw [nocl (by omega),e9,Bool.or_false,kidsB_same,ep];simp
    clear nocl g0 g1 g2 g3;rw [HV.out]
    rcases k46 with k4 | k4
    · subst k4
      go_enter func241,ntmps241;go_wp2_with fail;refine (partsOk_any _ _ _ _ _ _ _ _ _ _ _ hts hms hnb hmb (HT.out.below (BL.out _ _))).mono ?_;rintro e W1 ⟨rfl,hb⟩;rw [hpl];have B1:Hid (Bz w W1):=((sqN _ _)).trans (hb.mono (by simp));have bA:Hid (Blk W1 w.heap.size #[.int .i64 4,.int .i64 nx,.string tx,.string mx,.slice p n cap,.slice q m cap'] 76):=(Blk.new (w:=w)).next hb;obtain ⟨xa0,xa1,xa2,xa3,xa4,xa5⟩:=sqB6 bA.out;clear hb;go_wp2_with fail;refine (h1 _ _ ks pat (deep+1) (HT.out.below B1.out) (F0 _ B1.out) (by omega) (by omega)).mono ?_;rintro e w3 ⟨rfl,hb3⟩;have B3:=hid (B1.out.trans (hb3.mono B1.out.size));clear hb3;go_wp2_with fail;go_ret;exact ⟨by rfl,B3.out⟩
    · subst k4
      go_enter func241,ntmps241;go_wp2_with fail;refine (partsOk_any _ _ _ _ _ _ _ _ _ _ _ hts hms hnb hmb (HT.out.below (BL.out _ _))).mono ?_;rintro e W1 ⟨rfl,hb⟩;rw [hpl];have B1:Hid (Bz w W1):=((sqN _ _)).trans (hb.mono (by simp));have bA:Hid (Blk W1 w.heap.size #[.int .i64 6,.int .i64 nx,.string tx,.string mx,.slice p n cap,.slice q m cap'] 76):=(Blk.new (w:=w)).next hb;obtain ⟨xa0,xa1,xa2,xa3,xa4,xa5⟩:=sqB6 bA.out;clear hb;go_wp2_with fail;refine (h1 _ _ ks pat (deep+1) (HT.out.below B1.out) (F0 _ B1.out) (by omega) (by omega)).mono ?_;rintro e w3 ⟨rfl,hb3⟩;have B3:=hid (B1.out.trans (hb3.mono B1.out.size));clear hb3;go_wp2_with fail;go_ret;exact ⟨by rfl,B3.out⟩
  by_cases kl:kx=0∨kx=1∨kx=2∨kx=5
  · have hk:ks = []:=by
     have:kidHi kx=0:=by rcases kl with rfl | rfl | rfl | rfl <;> decide
     have h3:=HN.out;exact List.length_eq_zero_iff.1 (by omega)
    have HV:Hid ((patB kx pat && (kidsB (fun y q=>exOk d y q (40 - (deep+1))) ks (pat || decide (kx=9)) pat && cl.all (fun c=>clB (fun y q=>exOk d y q (40 - (deep+1))) c 1)))=true):=by
     show _=_
     have ep:patB kx pat=true:=by cases pat <;> simp [patB] <;> omega
     rw [hk,nocl (by omega),ep];simp [kidsB]
    clear nocl hk g0 g1 g2 g3;rw [HV.out]
    rcases kl with k4 | k4 | k4 | k4
    · subst k4
      go_enter func241,ntmps241;go_wp2_with fail;refine (partsOk_any _ _ _ _ _ _ _ _ _ _ _ hts hms hnb hmb (HT.out.below (BL.out _ _))).mono ?_;rintro e W1 ⟨rfl,hb⟩;rw [hpl];have B1:Hid (Bz w W1):=((sqN _ _)).trans (hb.mono (by simp));have bA:Hid (Blk W1 w.heap.size #[.int .i64 0,.int .i64 nx,.string tx,.string mx,.slice p n cap,.slice q m cap'] 76):=(Blk.new (w:=w)).next hb;obtain ⟨xa0,xa1,xa2,xa3,xa4,xa5⟩:=sqB6 bA.out;clear hb;go_wp2_with fail;go_ret;exact ⟨by rfl,B1.out⟩
    · subst k4
      go_enter func241,ntmps241;go_wp2_with fail;refine (partsOk_any _ _ _ _ _ _ _ _ _ _ _ hts hms hnb hmb (HT.out.below (BL.out _ _))).mono ?_;rintro e W1 ⟨rfl,hb⟩;rw [hpl];have B1:Hid (Bz w W1):=((sqN _ _)).trans (hb.mono (by simp));have bA:Hid (Blk W1 w.heap.size #[.int .i64 1,.int .i64 nx,.string tx,.string mx,.slice p n cap,.slice q m cap'] 76):=(Blk.new (w:=w)).next hb;obtain ⟨xa0,xa1,xa2,xa3,xa4,xa5⟩:=sqB6 bA.out;clear hb;go_wp2_with fail;go_ret;exact ⟨by rfl,B1.out⟩
    · subst k4
      go_enter func241,ntmps241;go_wp2_with fail;refine (partsOk_any _ _ _ _ _ _ _ _ _ _ _ hts hms hnb hmb (HT.out.below (BL.out _ _))).mono ?_;rintro e W1 ⟨rfl,hb⟩;rw [hpl];have B1:Hid (Bz w W1):=((sqN _ _)).trans (hb.mono (by simp));have bA:Hid (Blk W1 w.heap.size #[.int .i64 2,.int .i64 nx,.string tx,.string mx,.slice p n cap,.slice q m cap'] 76):=(Blk.new (w:=w)).next hb;obtain ⟨xa0,xa1,xa2,xa3,xa4,xa5⟩:=sqB6 bA.out;clear hb;go_wp2_with fail;go_ret;exact ⟨by rfl,B1.out⟩
    · subst k4
      go_enter func241,ntmps241;go_wp2_with fail;refine (partsOk_any _ _ _ _ _ _ _ _ _ _ _ hts hms hnb hmb (HT.out.below (BL.out _ _))).mono ?_;rintro e W1 ⟨rfl,hb⟩;rw [hpl];have B1:Hid (Bz w W1):=((sqN _ _)).trans (hb.mono (by simp));have bA:Hid (Blk W1 w.heap.size #[.int .i64 5,.int .i64 nx,.string tx,.string mx,.slice p n cap,.slice q m cap'] 76):=(Blk.new (w:=w)).next hb;obtain ⟨xa0,xa1,xa2,xa3,xa4,xa5⟩:=sqB6 bA.out;clear hb;go_wp2_with fail;go_ret;exact ⟨by rfl,B1.out⟩
  cases pat with
  | true =>
   have HV:Hid ((patB kx true && (kidsB (fun y q=>exOk d y q (40 - (deep+1))) ks (true || decide (kx=9)) true && cl.all (fun c=>clB (fun y q=>exOk d y q (40 - (deep+1))) c 1)))=false):=by
    show _=_;have ep:patB kx true=false:=(by simp [patB];omega);rw [ep];rfl
   clear nocl g0 g1 g2 g3;rw [HV.out]
   rcases (by omega:kx=7∨kx=8∨kx=9∨kx=10) with k4 | k4 | k4 | k4
   · subst k4
     go_enter func241,ntmps241;go_wp2_with fail;refine (partsOk_any _ _ _ _ _ _ _ _ _ _ _ hts hms hnb hmb (HT.out.below (BL.out _ _))).mono ?_;rintro e W1 ⟨rfl,hb⟩;rw [hpl];have B1:Hid (Bz w W1):=((sqN _ _)).trans (hb.mono (by simp));have bA:Hid (Blk W1 w.heap.size #[.int .i64 7,.int .i64 nx,.string tx,.string mx,.slice p n cap,.slice q m cap'] 76):=(Blk.new (w:=w)).next hb;obtain ⟨xa0,xa1,xa2,xa3,xa4,xa5⟩:=sqB6 bA.out;clear hb;go_wp2_with fail;go_ret;exact ⟨by rfl,B1.out⟩
   · subst k4
     go_enter func241,ntmps241;go_wp2_with fail;refine (partsOk_any _ _ _ _ _ _ _ _ _ _ _ hts hms hnb hmb (HT.out.below (BL.out _ _))).mono ?_;rintro e W1 ⟨rfl,hb⟩;rw [hpl];have B1:Hid (Bz w W1):=((sqN _ _)).trans (hb.mono (by simp));have bA:Hid (Blk W1 w.heap.size #[.int .i64 8,.int .i64 nx,.string tx,.string mx,.slice p n cap,.slice q m cap'] 76):=(Blk.new (w:=w)).next hb;obtain ⟨xa0,xa1,xa2,xa3,xa4,xa5⟩:=sqB6 bA.out;clear hb;go_wp2_with fail;go_ret;exact ⟨by rfl,B1.out⟩
   · subst k4
     go_enter func241,ntmps241;go_wp2_with fail;refine (partsOk_any _ _ _ _ _ _ _ _ _ _ _ hts hms hnb hmb (HT.out.below (BL.out _ _))).mono ?_;rintro e W1 ⟨rfl,hb⟩;rw [hpl];have B1:Hid (Bz w W1):=((sqN _ _)).trans (hb.mono (by simp));have bA:Hid (Blk W1 w.heap.size #[.int .i64 9,.int .i64 nx,.string tx,.string mx,.slice p n cap,.slice q m cap'] 76):=(Blk.new (w:=w)).next hb;obtain ⟨xa0,xa1,xa2,xa3,xa4,xa5⟩:=sqB6 bA.out;clear hb;go_wp2_with fail;go_ret;exact ⟨by rfl,B1.out⟩
   · subst k4
     go_enter func241,ntmps241;go_wp2_with fail;refine (partsOk_any _ _ _ _ _ _ _ _ _ _ _ hts hms hnb hmb (HT.out.below (BL.out _ _))).mono ?_;rintro e W1 ⟨rfl,hb⟩;rw [hpl];have B1:Hid (Bz w W1):=((sqN _ _)).trans (hb.mono (by simp));have bA:Hid (Blk W1 w.heap.size #[.int .i64 10,.int .i64 nx,.string tx,.string mx,.slice p n cap,.slice q m cap'] 76):=(Blk.new (w:=w)).next hb;obtain ⟨xa0,xa1,xa2,xa3,xa4,xa5⟩:=sqB6 bA.out;clear hb;go_wp2_with fail;go_ret;exact ⟨by rfl,B1.out⟩
  | false =>
   have ep:patB kx false=true:=(by simp [patB];omega);rw [ep];clear ep;by_cases k78:kx=7∨kx=8
   · have HV:Hid ((true && (kidsB (fun y q=>exOk d y q (40 - (deep+1))) ks (false || decide (kx=9)) false && cl.all (fun c=>clB (fun y q=>exOk d y q (40 - (deep+1))) c 1)))=ks.all (fun y=>exOk d y false (40 - (deep+1)))):=by
      show _=_;have e9:decide (kx=9)=false:=(by simp;omega);rw [nocl (by omega),e9,Bool.or_false,kidsB_same];simp
     clear nocl g0 g1 g2 g3;rw [HV.out]
     rcases k78 with k4 | k4
     · subst k4
       go_enter func241,ntmps241;go_wp2_with fail;refine (partsOk_any _ _ _ _ _ _ _ _ _ _ _ hts hms hnb hmb (HT.out.below (BL.out _ _))).mono ?_;rintro e W1 ⟨rfl,hb⟩;rw [hpl];have B1:Hid (Bz w W1):=((sqN _ _)).trans (hb.mono (by simp));have bA:Hid (Blk W1 w.heap.size #[.int .i64 7,.int .i64 nx,.string tx,.string mx,.slice p n cap,.slice q m cap'] 76):=(Blk.new (w:=w)).next hb;obtain ⟨xa0,xa1,xa2,xa3,xa4,xa5⟩:=sqB6 bA.out;clear hb;go_wp2_with fail;refine (h1 _ _ ks false (deep+1) (HT.out.below B1.out) (F0 _ B1.out) (by omega) (by omega)).mono ?_;rintro e w3 ⟨rfl,hb3⟩;have B3:=hid (B1.out.trans (hb3.mono B1.out.size));clear hb3;go_wp2_with fail;go_ret;exact ⟨by rfl,B3.out⟩
     · subst k4
       go_enter func241,ntmps241;go_wp2_with fail;refine (partsOk_any _ _ _ _ _ _ _ _ _ _ _ hts hms hnb hmb (HT.out.below (BL.out _ _))).mono ?_;rintro e W1 ⟨rfl,hb⟩;rw [hpl];have B1:Hid (Bz w W1):=((sqN _ _)).trans (hb.mono (by simp));have bA:Hid (Blk W1 w.heap.size #[.int .i64 8,.int .i64 nx,.string tx,.string mx,.slice p n cap,.slice q m cap'] 76):=(Blk.new (w:=w)).next hb;obtain ⟨xa0,xa1,xa2,xa3,xa4,xa5⟩:=sqB6 bA.out;clear hb;go_wp2_with fail;refine (h1 _ _ ks false (deep+1) (HT.out.below B1.out) (F0 _ B1.out) (by omega) (by omega)).mono ?_;rintro e w3 ⟨rfl,hb3⟩;have B3:=hid (B1.out.trans (hb3.mono B1.out.size));clear hb3;go_wp2_with fail;go_ret;exact ⟨by rfl,B3.out⟩
   by_cases k9:kx=9
   · subst k9
     have hn2:n=2:=by
      have a1:kidLo 9=2:=(by decide);have a2:kidHi 9=2:=(by decide);omega
     subst hn2
     obtain ⟨xa,xb,hks⟩:∃ a b,ks = [a,b]:=by
      have h3:=HN.out
      match ks,h3 with
      | [a,b],_=>exact ⟨a,b,rfl⟩
     have HV:Hid ((true && (kidsB (fun y q=>exOk d y q (40 - (deep+1))) ks (false || decide ((9:Int)=9)) false && cl.all (fun c=>clB (fun y q=>exOk d y q (40 - (deep+1))) c 1)))=(exOk d xa true (40 - (deep+1)) && exOk d xb false (40 - (deep+1)))):=by
      show _=_;rw [nocl (by omega),hks];simp [kidsB]
     rw [HV.out];obtain ⟨g,off,rfl,-,hgl,hat⟩:=HX.out (by rw [hks];simp);obtain ⟨cs,-,hcs,ra⟩:=hat 0 xa (by rw [hks];rfl);obtain ⟨cs',-,hcs',rb⟩:=hat 1 xb (by rw [hks];rfl);obtain ⟨sk,sn,st,se,p1,n1,q1,p2,n2,q2,rfl⟩:=exShape ra;obtain ⟨tk,tn,tt,te,u1,m1,v1,u2,m2,v2,rfl⟩:=exShape rb;have EA:∀ w',Bz w w'→HEx w' All d [.int .i64 sk,.int .i64 sn,.string st,.string se,.slice p1 n1 q1,.slice p2 n2 q2] xa:=fun w' hw=>ra.mono (sqO hw) (fun _ h=>h);have EB:∀ w',Bz w w'→HEx w' All d [.int .i64 tk,.int .i64 tn,.string tt,.string te,.slice u1 m1 v1,.slice u2 m2 v2] xb:=fun w' hw=>rb.mono (sqO hw) (fun _ h=>h);have CA:∀ w',Bz w w'→∀ j,j<6→w'.cell? ⟨g,off+0 * 6+j,none⟩=_:=fun w' hw j hj=>(hw.cell (p:=⟨g,off+0 * 6+j,none⟩) hgl).trans (hcs j hj);have CB:∀ w',Bz w w'→∀ j,j<6→w'.cell? ⟨g,off+1 * 6+j,none⟩=_:=fun w' hw j hj=>(hw.cell (p:=⟨g,off+1 * 6+j,none⟩) hgl).trans (hcs' j hj);clear nocl hat hcs hcs' ra rb g0 g1 g2 g3;have HCA:=hid CA;have HCB:=hid CB;clear CA CB hks;generalize hca:exOk d xa true (40 - (deep+1))=ca;have HCV:=hid hca;clear hca
     cases ca with
     | false =>
      go_enter func241,ntmps241;go_wp2_with fail;refine (partsOk_any _ _ _ _ _ _ _ _ _ _ _ hts hms hnb hmb (HT.out.below (BL.out _ _))).mono ?_;rintro e W1 ⟨rfl,hb⟩;rw [hpl];have B1:Hid (Bz w W1):=((sqN _ _)).trans (hb.mono (by simp));have bA:Hid (Blk W1 w.heap.size #[.int .i64 9,.int .i64 nx,.string tx,.string mx,.slice (some ⟨g,off,none⟩) 2 cap,.slice q m cap'] 76):=(Blk.new (w:=w)).next hb;obtain ⟨xa0,xa1,xa2,xa3,xa4,xa5⟩:=sqB6 bA.out;clear hb;have ya0:=HCA.out _ B1.out 0 (by omega);have ya1:=HCA.out _ B1.out 1 (by omega);have ya2:=HCA.out _ B1.out 2 (by omega);have ya3:=HCA.out _ B1.out 3 (by omega);have ya4:=HCA.out _ B1.out 4 (by omega);have ya5:=HCA.out _ B1.out 5 (by omega);simp at ya0 ya1 ya2 ya3 ya4 ya5;go_wp2_with fail;refine (h0 _ _ xa true (deep+1) (HT.out.below B1.out) (EA _ B1.out) (by omega) (by omega)).mono ?_;rintro e w3 ⟨rfl,hb3⟩;rw [HCV.out];have B3:=hid (B1.out.trans (hb3.mono B1.out.size));clear hb3;go_wp2_with fail;go_ret;exact ⟨by simp,B3.out⟩
     | true =>
      go_enter func241,ntmps241;go_wp2_with fail;refine (partsOk_any _ _ _ _ _ _ _ _ _ _ _ hts hms hnb hmb (HT.out.below (BL.out _ _))).mono ?_;rintro e W1 ⟨rfl,hb⟩;rw [hpl];have B1:Hid (Bz w W1):=((sqN _ _)).trans (hb.mono (by simp));have bA:Hid (Blk W1 w.heap.size #[.int .i64 9,.int .i64 nx,.string tx,.string mx,.slice (some ⟨g,off,none⟩) 2 cap,.slice q m cap'] 76):=(Blk.new (w:=w)).next hb;obtain ⟨xa0,xa1,xa2,xa3,xa4,xa5⟩:=sqB6 bA.out;clear hb;have ya0:=HCA.out _ B1.out 0 (by omega);have ya1:=HCA.out _ B1.out 1 (by omega);have ya2:=HCA.out _ B1.out 2 (by omega);have ya3:=HCA.out _ B1.out 3 (by omega);have ya4:=HCA.out _ B1.out 4 (by omega);have ya5:=HCA.out _ B1.out 5 (by omega);simp at ya0 ya1 ya2 ya3 ya4 ya5;go_wp2_with fail;refine (h0 _ _ xa true (deep+1) (HT.out.below B1.out) (EA _ B1.out) (by omega) (by omega)).mono ?_;rintro e w3 ⟨rfl,hb3⟩;rw [HCV.out];have B3:=hid (B1.out.trans (hb3.mono B1.out.size));have hbk:=bA.out.next hb3;clear xa0 xa1 xa2 xa3 xa4 xa5 ya0 ya1 ya2 ya3 ya4 ya5;have xa4:=hbk.cell 4 _ rfl;have yb0:=HCB.out _ B3.out 0 (by omega);have yb1:=HCB.out _ B3.out 1 (by omega);have yb2:=HCB.out _ B3.out 2 (by omega);have yb3:=HCB.out _ B3.out 3 (by omega);have yb4:=HCB.out _ B3.out 4 (by omega);have yb5:=HCB.out _ B3.out 5 (by omega);simp at yb0 yb1 yb2 yb3 yb4 yb5;clear hb3 hbk;go_wp2_with fail;refine (h0 _ _ xb false (deep+1) (HT.out.below B3.out) (EB _ B3.out) (by omega) (by omega)).mono ?_;rintro e w4 ⟨rfl,hb4⟩;have B4:=hid (B3.out.trans (hb4.mono B3.out.size));clear hb4;go_wp2_with fail;go_ret;exact ⟨by simp,B4.out⟩
   obtain rfl:kx=10:=by omega
   have HV:Hid ((true && (kidsB (fun y q=>exOk d y q (40 - (deep+1))) ks (false || decide ((10:Int)=9)) false && cl.all (fun c=>clB (fun y q=>exOk d y q (40 - (deep+1))) c 1)))=(ks.all (fun y=>exOk d y false (40 - (deep+1))) && cl.all (fun c=>clB (fun y q=>exOk d y q (40 - (deep+1))) c 1))):=by
    show _=_;have e9:(false || decide ((10:Int)=9))=false:=(by decide);rw [e9,kidsB_same,Bool.true_and]
   clear nocl g0 g1 g2 g3;rw [HV.out]
   cases hca:ks.all (fun y=>exOk d y false (40 - (deep+1))) with
   | false =>
    go_enter func241,ntmps241;go_wp2_with fail;refine (partsOk_any _ _ _ _ _ _ _ _ _ _ _ hts hms hnb hmb (HT.out.below (BL.out _ _))).mono ?_;rintro e W1 ⟨rfl,hb⟩;rw [hpl];have B1:Hid (Bz w W1):=((sqN _ _)).trans (hb.mono (by simp));have bA:Hid (Blk W1 w.heap.size #[.int .i64 10,.int .i64 nx,.string tx,.string mx,.slice p n cap,.slice q m cap'] 76):=(Blk.new (w:=w)).next hb;obtain ⟨xa0,xa1,xa2,xa3,xa4,xa5⟩:=sqB6 bA.out;clear hb;go_wp2_with fail;refine (h1 _ _ ks false (deep+1) (HT.out.below B1.out) (F0 _ B1.out) (by omega) (by omega)).mono ?_;rintro e w3 ⟨rfl,hb3⟩;rw [hca];have B3:=hid (B1.out.trans (hb3.mono B1.out.size));clear hb3;go_wp2_with fail;go_ret;exact ⟨by simp,B3.out⟩
   | true =>
    go_enter func241,ntmps241;go_wp2_with fail;refine (partsOk_any _ _ _ _ _ _ _ _ _ _ _ hts hms hnb hmb (HT.out.below (BL.out _ _))).mono ?_;rintro e W1 ⟨rfl,hb⟩;rw [hpl];have B1:Hid (Bz w W1):=((sqN _ _)).trans (hb.mono (by simp));have bA:Hid (Blk W1 w.heap.size #[.int .i64 10,.int .i64 nx,.string tx,.string mx,.slice p n cap,.slice q m cap'] 76):=(Blk.new (w:=w)).next hb;obtain ⟨xa0,xa1,xa2,xa3,xa4,xa5⟩:=sqB6 bA.out;clear hb;go_wp2_with fail;refine (h1 _ _ ks false (deep+1) (HT.out.below B1.out) (F0 _ B1.out) (by omega) (by omega)).mono ?_;rintro e w3 ⟨rfl,hb3⟩;rw [hca];have B3:=hid (B1.out.trans (hb3.mono B1.out.size));have hbk:=bA.out.next hb3;clear xa0 xa1 xa2 xa3 xa4 xa5;have xa5:=hbk.cell 5 _ rfl;clear hb3 hbk;go_wp2_with fail;refine (h2 _ _ cl (deep+1) (HT.out.below B3.out) (F1 _ B3.out) (by omega) (by omega)).mono ?_;rintro e w4 ⟨rfl,hb4⟩;have B4:=hid (B3.out.trans (hb4.mono B3.out.size));clear hb4;go_wp2_with fail;go_ret;exact ⟨by simp,B4.out⟩
theorem exp_allI:∀ d,XpC d
 | 0=>fun w cs x pat deep _ h _ _=>h.elim
 | d+1=>expI_of (exp_allI d) (expsI_of (exp_allI d)) (casesI_of (clauseI_of (expsI_of (exp_allI d))))
theorem clause_allI (d:Nat):KcC d:=clauseI_of (expsI_of (exp_allI d))
theorem fnShape {w:World} {S:Nat→Prop} {d:Nat} {cs:List Value} {x:Fn'} (h:HFn w S d cs x):∃ p1 n1 q1,cs = [.string x.name,.int .i64 x.arity,.slice p1 n1 q1]:=by
 obtain ⟨cv,rfl,_,_,⟨p1,c1,rfl,_⟩⟩:=h;exact ⟨_,_,_,rfl⟩
theorem Rows.take {α:Type} {w:World} {S:Nat→Prop} {c:Nat} {R:List Value→α→Prop} {p:Option Addr} {n cap:Nat} {es:List α} (h:Rows w S c R (.slice p n cap) es) (k:Nat) (hk:k≤n):Rows w S c R (.slice p k cap) (es.take k):=by
 obtain ⟨p',cap',hv,h1,h2,hx⟩:=h;simp only [Value.slice.injEq] at hv;obtain ⟨rfl,rfl,rfl⟩:=hv;refine ⟨p,cap,by rw [List.length_take,Nat.min_eq_left hk],by rw [List.length_take];omega,h2,fun hne=>?_⟩;obtain ⟨g,off,hp,hS,hl,hat⟩:=hx (fun e=>hne (by rw [e];simp));exact ⟨g,off,hp,hS,hl,fun i x hi=>hat i x (by rw [List.getElem?_take] at hi;split at hi;exact hi;cases hi)⟩
theorem refG:prog.eqGuardType prog.depth 84=false:=by kernel_rfl
theorem refH:prog.stoodInHeld 84=false:=by kernel_rfl
theorem refU:prog.underlying 84=some (.struct (prog.fieldsOf 84)):=by kernel_rfl
theorem refE (a c:ByteArray) (b d:Int) (w:World):(Op.equalIn 10000 84 (.agg #[.string a,.int .i64 b]) (.agg #[.string c,.int .i64 d])).run prog w=.ok ((a.toList == c.toList) && (b == d)) w:=by
 rw [show (10000:Nat)=9999+1 from rfl,run_equalIn_struct w 9999 _ _ _ refU refH]
 cases h1:(a.toList == c.toList) <;> cases h2:(b == d) <;> simp [go_sem,Program.fieldsOf,underlying84,underlying3,underlying9,Op.eqFields,h1,h2]
theorem hasFun_any (d:Nat) (w:World) (v:Value) (fs:List Fn') (r:Rf) (h:Rows w All 3 (HFn w All d) v fs) :
 Calls prog 130 #[v,.agg #[.string r.name,.int .i64 r.arity]] w fun e w'=>e=.returned (.bool (fs.any (sameR r)))∧Bz w w':=by
 obtain ⟨rs,rn⟩:=r;simp only;obtain ⟨p,cap,rfl,hcl,hcm,hx⟩:=h;have hnb:=sqM hcl hcm;generalize hn:fs.length=n at *;have HN:=hid hn;have HX:=hid hx;obtain ⟨W1,hW1⟩:∃ W1,W1=w.alloc (.cells #[.string rs,.int .i64 rn] 84):=⟨_,rfl⟩;have bA:Hid (Blk W1 w.heap.size #[.string rs,.int .i64 rn] 84):=(by show Blk _ _ _ _;rw [hW1];exact Blk.new);have B1:Hid (Bz w W1):=(by show Below _ _ _;rw [hW1];exact (sqN _ _));have HW1:=hid hW1;clear hx hn hW1;go_enter func130,ntmps130;go_wp2_with fail;rw [← HW1.out]
 go_loopw [9] (fun iv wr=>∃ k:Nat,k≤n∧iv=.int .i64 k∧Hid ((fs.take k).any (sameR ⟨rs,rn⟩)=false)∧Hid (SameOn All W1 wr)∧Bz w wr) (fun iv _=>n - (intOf iv).toNat)
 case atStart=>exact ⟨0,Nat.zero_le _,rfl,by show _=_;simp,⟨Nat.le_refl _,fun _ _ _=>rfl⟩,B1.out⟩
 case round =>
  obtain ⟨k,hk,rfl,hall,hso,hb⟩:=hrel;have HB:=hid hb;by_cases hlt:k<n
  · obtain ⟨x,hxk⟩:=sqA (l:=fs) (k:=k) HN.out hlt
    obtain ⟨g,off,rfl,-,hgl,hat⟩:=HX.out (sqE hxk);obtain ⟨cs,hcsl,hcs,r1⟩:=hat k x hxk;obtain ⟨p1,n1,q1,rfl⟩:=fnShape r1;obtain ⟨xs,xn,xc⟩:=x;simp only at *;obtain ⟨a0,a1,a2⟩:=sqC3 hcs (by omega);rw [← hb.cell (p:=⟨g,_,none⟩) hgl] at a0 a1 a2;simp at a0 a1 a2;have hki:(k:Int)<(n:Int):=(by omega);have hk0:=sqI k;obtain ⟨W5,hW5⟩:∃ W5,W5=wr.alloc (.cells #[.string xs,.int .i64 xn,.slice p1 n1 q1] 59):=⟨_,rfl⟩;have bF:Hid (Blk W5 wr.heap.size #[.string xs,.int .i64 xn,.slice p1 n1 q1] 59):=(by show Blk _ _ _ _;rw [hW5];exact Blk.new);have K5:Bz wr W5:=(by rw [hW5];exact (sqN _ _));have B5:=hid (hb.trans (K5.mono hb.size));have S5:=hid (hso.out.trans (sqO K5));have HW5:=hid hW5;have bR:=bA.out.same_on S5.out;obtain ⟨y0,y1⟩:=sqB2 bR;obtain ⟨z0,z1,z2⟩:=sqB3 bF.out;have l1:=bR.lt;have l2:=bF.out.lt;have qy0:∀ m:Wd (fun w'=>SameOn All W5 w'∧Bz w w'),m.val.cell? ⟨w.heap.size,0,none⟩=some (.string rs):=fun m=>(sqK (m.ok.1.2 w.heap.size trivial l1)).trans y0;have qy1:∀ m:Wd (fun w'=>SameOn All W5 w'∧Bz w w'),m.val.cell? ⟨w.heap.size,1,none⟩=some (.int .i64 rn):=fun m=>(sqK (m.ok.1.2 w.heap.size trivial l1)).trans y1;have qz0:∀ m:Wd (fun w'=>SameOn All W5 w'∧Bz w w'),m.val.cell? ⟨wr.heap.size,0,none⟩=some (.string xs):=fun m=>(sqK (m.ok.1.2 wr.heap.size trivial l2)).trans z0;have qz1:∀ m:Wd (fun w'=>SameOn All W5 w'∧Bz w w'),m.val.cell? ⟨wr.heap.size,1,none⟩=some (.int .i64 xn):=fun m=>(sqK (m.ok.1.2 wr.heap.size trivial l2)).trans z1;have qz2:∀ m:Wd (fun w'=>SameOn All W5 w'∧Bz w w'),m.val.cell? ⟨wr.heap.size,2,none⟩=some (.slice p1 n1 q1):=fun m=>(sqK (m.ok.1.2 wr.heap.size trivial l2)).trans z2;clear hb hcs hat hcsl r1 hW5 K5 y0 y1 z0 z1 z2 l1 l2 bR;go_wp2_with fail;rw [← HW5.out];have e1:=refG;have e2:=refE;have hCne:Nonempty (Wd (fun w'=>SameOn All W5 w'∧Bz w w')):=⟨⟨W5.drew,⟨⟨Nat.le_refl _,fun _ _ _=>rfl⟩,B5.out.drew⟩⟩⟩;refine wp_region_class (fun w'=>SameOn All W5 w'∧Bz w w') (by kernel_rfl) (by kernel_rfl) ⟨⟨Nat.le_refl _,fun _ _ _=>rfl⟩,B5.out.drew⟩ ?_
    repeat (go_big_quiet_step (first | (rename_i m;go_at_call 93;refine (refOf_any _ _ _ _ _ _).mono ?_;rintro e w1 ⟨rfl,hb1⟩;exact ⟨rfl,⟨⟨w1,⟨(SameOn.trans m.ok.1 (sqO hb1)),m.ok.2.trans (hb1.mono m.ok.2.size)⟩⟩,rfl⟩⟩)))
    refine wpQuiet_nil ?_;rintro _ ⟨mq,rfl⟩;have HB4:=hid mq.ok.2;have HS4:=hid (S5.out.trans mq.ok.1);generalize mq.val=w4 at HB4 HS4 ⊢;generalize hcv:(xs.toList == rs.toList && xn == rn)=cv;have HC2:Hid (cv=false→(fs.take (k+1)).any (sameR ⟨rs,rn⟩)=false):=fun h=>anyT_succ _ fs k _ hxk hall.out (show (xs.toList == rs.toList && xn == rn)=false from hcv.trans h);have HC3:Hid (cv=true→fs.any (sameR ⟨rs,rn⟩)=true):=fun h=>anyT_at _ fs k _ hxk (show (xs.toList == rs.toList && xn == rn)=true from hcv.trans h);clear hcv
    cases cv with
    | false =>
     have HT':Hid _:=HC2.out rfl;clear HC2 HC3;go_wp2_with fail;exact ⟨⟨k+1,by omega,by go_num,HT'.out,HS4.out,HB4.out⟩,by simp [intOf];omega⟩
    | true =>
     have HF:Hid _:=HC3.out rfl;clear HC2 HC3;go_wp2_with fail;go_ret;exact ⟨by rw [HF.out];rfl,HB4.out⟩
  · have HD:Hid (fs.any (sameR ⟨rs,rn⟩)=false):=by
     have:=hall.out
     rwa [List.take_of_length_le (by rw [HN.out];omega)] at this
    clear hb;go_wp2_with fail;go_ret;exact ⟨by rw [HD.out];rfl,HB.out⟩
def rfsAt (es:List Rf) (k:Nat):Bool :=
 match es[k]? with
 | none=>true
 | some r=>refB r && (match k with
  | 0=>true
  | j+1=>match es[j]? with
   | none=>true
   | some q=>lessB q r)
def rfsB (es:List Rf):Bool:=(List.range es.length).all (rfsAt es)
def fnB (d:Nat) (f:Fn'):Bool:=refB ⟨f.name,f.arity⟩ && (inB f.clauses.length 1 20 && f.clauses.all (fun c=>clB (fun y q=>exOk d y q 40) c f.arity))
def fnsAt (d:Nat) (fs:List Fn') (k:Nat):Bool :=
 match fs[k]? with
 | none=>true
 | some f=>fnB d f && !(fs.take k).any (sameR ⟨f.name,f.arity⟩)
def fnsB (d:Nat) (fs:List Fn'):Bool:=(List.range fs.length).all (fnsAt d fs)
def mdOk (d:Nat) (m:Md):Bool:=atomB m.name && ((decide (m.exports.length≤20) && rfsB m.exports) && (inB m.funs.length 1 30 && fnsB d m.funs))
theorem rangeT_succ (f:Nat→Bool) (k:Nat) (h:(List.range k).all f=true) (hk:f k=true):(List.range (k+1)).all f=true:=by
 rw [List.range_succ,List.all_append,h];simp [hk]
theorem rangeT_at (f:Nat→Bool) (n k:Nat) (hk:k<n) (h:f k=false):(List.range n).all f=false:=by
 rw [List.all_eq_false];exact ⟨k,List.mem_range.2 hk,by simp [h]⟩
theorem rfsAt_zero {es:List Rf} {k:Nat} {r:Rf} (hk:k=0) (h:es[k]?=some r):rfsAt es k=refB r:=by
 subst hk;simp [rfsAt,h]
theorem rfsAt_succ {es:List Rf} {k:Nat} {q r:Rf} (hk:¬ k=0) (hq:es[k - 1]?=some q) (hr:es[k]?=some r):rfsAt es k=(refB r && lessB q r):=by
 obtain ⟨j,rfl⟩:∃ j,k=j+1:=⟨k - 1,by omega⟩;simp only [Nat.add_sub_cancel] at hq;simp [rfsAt,hr,hq]
theorem fnsAt_eq {d:Nat} {fs:List Fn'} {k:Nat} {f:Fn'} (h:fs[k]?=some f):fnsAt d fs k=(fnB d f && !(fs.take k).any (sameR ⟨f.name,f.arity⟩)):=by
 simp [fnsAt,h]
theorem fnB_eq (d:Nat) (s:ByteArray) (n:Int) (cl:List Cl):fnB d ⟨s,n,cl⟩=(refB ⟨s,n⟩ && (inB cl.length 1 20 && cl.all (fun c=>clB (fun y q=>exOk d y q (40 - 0)) c n))):=by
 simp [fnB]
theorem funOk_any (d:Nat) (w:World) (cs:List Value) (f:Fn') (hT:Tabs w) (h:HFn w All d cs f) :
 Calls prog 210 #[.agg cs.toArray] w fun e w'=>e=.returned (.bool (fnB d f))∧Bz w w':=by
 have HT:=hid hT;obtain ⟨cv,rfl,hs,-,f0⟩:=h;obtain ⟨fs,fa,cl⟩:=f;simp only at *;obtain ⟨p,cap,rfl,hcl,hcm,hx⟩:=f0;have hnb:=sqM hcl hcm;rw [fnB_eq];generalize hn:cl.length=n at *;have HN:=hid hn;have HX:=hid hx;have BL:Hid (Bz w (w.alloc (.cells #[.string fs,.int .i64 fa,.slice p n cap] 59))):=(sqN _ _);clear hx hn hT
 cases hr:refB ⟨fs,fa⟩ with
 | false =>
  go_enter func210,ntmps210;go_wp2_with fail;refine (refOf_any fs fa p n cap _).mono ?_;rintro e w2 ⟨rfl,hb2⟩;have B2:=hid (BL.out.trans (hb2.mono BL.out.size));have g2:Hid (Blk w2 w.heap.size #[.string fs,.int .i64 fa,.slice p n cap] 59):=(Blk.new (w:=w)).next hb2;clear hb2;go_wp2_with fail;refine (refOk_any ⟨fs,fa⟩ _ hs (HT.out.below B2.out).keys).mono ?_;rintro e w3 ⟨rfl,hb3⟩;rw [hr];have B3:=hid (B2.out.trans (hb3.mono B2.out.size));have g3:=hid (g2.out.next hb3);clear hb3 g2;go_wp2_with fail;go_ret;exact ⟨by simp,B3.out⟩
 | true =>
  cases hin:inB n 1 20 with
  | false =>
   go_enter func210,ntmps210;go_wp2_with fail;refine (refOf_any fs fa p n cap _).mono ?_;rintro e w2 ⟨rfl,hb2⟩;have B2:=hid (BL.out.trans (hb2.mono BL.out.size));have g2:Hid (Blk w2 w.heap.size #[.string fs,.int .i64 fa,.slice p n cap] 59):=(Blk.new (w:=w)).next hb2;clear hb2;go_wp2_with fail;refine (refOk_any ⟨fs,fa⟩ _ hs (HT.out.below B2.out).keys).mono ?_;rintro e w3 ⟨rfl,hb3⟩;rw [hr];have B3:=hid (B2.out.trans (hb3.mono B2.out.size));have g3:=hid (g2.out.next hb3);clear hb3 g2;obtain ⟨xa0,xa1,xa2⟩:=sqB3 g3.out;go_wp2_with (first | (go_at_call 75;go_must (refine (withinM_any _ _ _ _).mono ?_;rintro e w9 ⟨rfl,hw9⟩;rw [hin,hw9];clear hw9 w9)));go_ret;exact ⟨by simp,B3.out⟩
  | true =>
   go_enter func210,ntmps210;go_wp2_with fail;refine (refOf_any fs fa p n cap _).mono ?_;rintro e w2 ⟨rfl,hb2⟩;have B2:=hid (BL.out.trans (hb2.mono BL.out.size));have g2:Hid (Blk w2 w.heap.size #[.string fs,.int .i64 fa,.slice p n cap] 59):=(Blk.new (w:=w)).next hb2;clear hb2;go_wp2_with fail;refine (refOk_any ⟨fs,fa⟩ _ hs (HT.out.below B2.out).keys).mono ?_;rintro e w3 ⟨rfl,hb3⟩;rw [hr];have B3:=hid (B2.out.trans (hb3.mono B2.out.size));have g3:=hid (g2.out.next hb3);clear hb3 g2;obtain ⟨xa0,xa1,xa2⟩:=sqB3 g3.out;go_wp2_with (first | (go_at_call 75;go_must (refine (withinM_any _ _ _ _).mono ?_;rintro e w9 ⟨rfl,hw9⟩;rw [hin,hw9];clear hw9 w9)));obtain ⟨W1,hW1⟩:∃ W1,W1=w3:=⟨_,rfl⟩;have bA:Hid (Blk W1 w.heap.size #[.string fs,.int .i64 fa,.slice p n cap] 59):=(by show Blk _ _ _ _;rw [hW1];exact g3.out);have B1:Hid (Bz w W1):=(by show Below _ _ _;rw [hW1];exact B3.out);rw [← hW1];clear hW1 g3 B3 xa0 xa1 xa2
   go_loopw [19] (fun iv wr=>∃ k:Nat,k≤n∧iv=.int .i64 k∧Hid ((cl.take k).all (fun c=>clB (fun y q=>exOk d y q (40 - 0)) c fa)=true)∧Hid (SameOn All W1 wr)∧Bz w wr) (fun iv _=>n - (intOf iv).toNat)
   case atStart=>exact ⟨0,Nat.zero_le _,rfl,by show _=_;simp,⟨Nat.le_refl _,fun _ _ _=>rfl⟩,B1.out⟩
   case round =>
    obtain ⟨k,hk,rfl,hall,hso,hb⟩:=hrel;have HB:=hid hb;have b1:=bA.out.same_on hso.out;have hlw:=b1.lt;have xa1:=b1.cell 1 _ rfl;clear b1;by_cases hlt:k<n
    · obtain ⟨x,hxk⟩:=sqA (l:=cl) (k:=k) HN.out hlt
      obtain ⟨g,off,rfl,-,hgl,hat⟩:=HX.out (sqE hxk);obtain ⟨cs,hcsl,hcs,r1⟩:=hat k x hxk;obtain ⟨p1,n1,q1,p2,n2,q2,rfl⟩:=clShape r1;have E1:∀ w',Bz w w'→HCl w' All (HEx w' All d) [.slice p1 n1 q1,.slice p2 n2 q2] x:=fun w' hw=>r1.mono (sqO hw) (fun _ h=>h) (fun _ _ h=>h.mono (sqO hw) (fun _ h=>h));obtain ⟨a0,a1⟩:=sqC2 hcs (by omega);rw [← hb.cell (p:=⟨g,_,none⟩) hgl] at a0 a1;simp at a0 a1;have hki:(k:Int)<(n:Int):=(by omega);have hk0:=sqI k;have HBA:Hid (Bz w (wr.alloc (.cells #[.slice p1 n1 q1,.slice p2 n2 q2] 46))):=HB.out.alloc HB.out.size _;clear hb hcs hat hcsl r1;generalize hcv:clB (fun y q=>exOk d y q (40 - 0)) x fa=cv;have HCV:=hid hcv;have HC2:Hid (cv=true→(cl.take (k+1)).all (fun c=>clB (fun y q=>exOk d y q (40 - 0)) c fa)=true):=fun h=>allT_succ _ cl k x hxk hall.out (hcv.trans h);have HC3:Hid (cv=false→cl.all (fun c=>clB (fun y q=>exOk d y q (40 - 0)) c fa)=false):=fun h=>allT_at _ cl k x hxk (hcv.trans h);clear hcv;go_wp2_with fail;refine (clause_allI d _ _ x fa 0 (HT.out.below HBA.out) (E1 _ HBA.out) (by omega) (by omega)).mono ?_;rintro e w4 ⟨rfl,hb4⟩;rw [HCV.out];have HB4:=hid (HBA.out.trans (hb4.mono HBA.out.size));have HS4:Hid (SameOn All W1 w4):=(hso.out.trans (sqO ((sqN _ _)))).trans (sqO hb4);clear hb4 HCV
      cases cv with
      | true =>
       have HT':Hid _:=HC2.out rfl;clear HC2 HC3;go_wp2_with fail;exact ⟨⟨k+1,by omega,by go_num,HT'.out,HS4.out,HB4.out⟩,by simp [intOf];omega⟩
      | false =>
       have HF:Hid (cl.all (fun c=>clB (fun y q=>exOk d y q (40 - 0)) c fa)=false):=HC3.out rfl;clear HC2 HC3;go_wp2_with fail;go_ret;exact ⟨by first | (rw [HF.out];rfl) | (rw [HF.out];simp),HB4.out⟩
    · have HD:Hid (cl.all (fun c=>clB (fun y q=>exOk d y q (40 - 0)) c fa)=true):=by
       have:=hall.out
       rwa [List.take_of_length_le (by rw [HN.out];omega)] at this
      clear hb;go_wp2_with fail;go_ret;exact ⟨by first | (rw [HD.out];rfl) | (rw [HD.out];simp),HB.out⟩
theorem funsOk_any (d:Nat) (w:World) (v:Value) (fs:List Fn') (hT:Tabs w) (h:Rows w All 3 (HFn w All d) v fs) :
 Calls prog 184 #[v] w fun e w'=>e=.returned (.bool (inB fs.length 1 30 && fnsB d fs))∧Bz w w':=by
 have HT:=hid hT;have HR:∀ w',Bz w w'→Rows w' All 3 (HFn w' All d) v fs:=fun w' hw=>h.mono (sqO hw) (fun _ h=>h) (fun _ _ _ h=>h.mono (sqO hw) (fun _ h=>h));obtain ⟨p,cap,rfl,hcl,hcm,hx⟩:=h;have hnb:=sqM hcl hcm;have hfn:fnsB d fs=(List.range fs.length).all (fnsAt d fs):=rfl;rw [hfn];clear hfn;generalize hn:fs.length=n at *;have HN:=hid hn;have HX:=hid hx;clear hx hn hT
 cases hin:inB n 1 30 with
 | false =>
  go_enter func184,ntmps184;go_wp2_with (first | (go_at_call 75;go_must (refine (withinM_any _ _ _ _).mono ?_;rintro e w9 ⟨rfl,hw9⟩;rw [hin,hw9];clear hw9 w9)));go_ret;exact ⟨by simp,Below.refl _ _⟩
 | true =>
  go_enter func184,ntmps184;go_wp2_with (first | (go_at_call 75;go_must (refine (withinM_any _ _ _ _).mono ?_;rintro e w9 ⟨rfl,hw9⟩;rw [hin,hw9];clear hw9 w9)))
  go_loopw [11] (fun iv wr=>∃ k:Nat,k≤n∧iv=.int .i64 k∧Hid ((List.range k).all (fnsAt d fs)=true)∧Bz w wr) (fun iv _=>n - (intOf iv).toNat)
  case atStart=>exact ⟨0,Nat.zero_le _,rfl,by show _=_;simp,Below.refl _ _⟩
  case round =>
   obtain ⟨k,hk,rfl,hall,hb⟩:=hrel;have HB:=hid hb;by_cases hlt:k<n
   · obtain ⟨x,hxk⟩:=sqA (l:=fs) (k:=k) HN.out hlt
     obtain ⟨g,off,rfl,-,hgl,hat⟩:=HX.out (sqE hxk);obtain ⟨cs,hcsl,hcs,r1⟩:=hat k x hxk;obtain ⟨p1,n1,q1,rfl⟩:=fnShape r1;have E1:∀ w',Bz w w'→HFn w' All d [.string x.name,.int .i64 x.arity,.slice p1 n1 q1] x:=fun w' hw=>r1.mono (sqO hw) (fun _ h=>h);have HAT:Hid (fnsAt d fs k=(fnB d x && !(fs.take k).any (sameR ⟨x.name,x.arity⟩))):=fnsAt_eq hxk;have RT:∀ w',Bz w w'→Rows w' All 3 (HFn w' All d) (.slice (some ⟨g,off,none⟩) k cap) (fs.take k):=fun w' hw=>(HR w' hw).take k (by omega);generalize hca:fnB d x=ca at *;generalize hcb:(fs.take k).any (sameR ⟨x.name,x.arity⟩)=cb at *;have HCA:=hid hca;have HCB:=hid hcb;generalize x.name=xs at *;generalize x.arity=xn at *;obtain ⟨a0,a1,a2⟩:=sqC3 hcs (by omega);rw [← hb.cell (p:=⟨g,_,none⟩) hgl] at a0 a1 a2;simp at a0 a1 a2;have hki:(k:Int)<(n:Int):=(by omega);have hk0:=sqI k;have hkc:(k:Int)≤(cap:Int):=(by omega);obtain ⟨W5,hW5⟩:∃ W5,W5=wr.alloc (.cells #[.string xs,.int .i64 xn,.slice p1 n1 q1] 59):=⟨_,rfl⟩;have bF:Hid (Blk W5 wr.heap.size #[.string xs,.int .i64 xn,.slice p1 n1 q1] 59):=(by show Blk _ _ _ _;rw [hW5];exact Blk.new);have K5:Bz wr W5:=(by rw [hW5];exact (sqN _ _));have B5:=hid (hb.trans (K5.mono hb.size));have HW5:=hid hW5;obtain ⟨z0,z1,z2⟩:=sqB3 bF.out;have l2:=bF.out.lt;have qz0:∀ m:Wd (fun w'=>SameOn All W5 w'∧Bz w w'),m.val.cell? ⟨wr.heap.size,0,none⟩=some (.string xs):=fun m=>(sqK (m.ok.1.2 wr.heap.size trivial l2)).trans z0;have qz1:∀ m:Wd (fun w'=>SameOn All W5 w'∧Bz w w'),m.val.cell? ⟨wr.heap.size,1,none⟩=some (.int .i64 xn):=fun m=>(sqK (m.ok.1.2 wr.heap.size trivial l2)).trans z1;have qz2:∀ m:Wd (fun w'=>SameOn All W5 w'∧Bz w w'),m.val.cell? ⟨wr.heap.size,2,none⟩=some (.slice p1 n1 q1):=fun m=>(sqK (m.ok.1.2 wr.heap.size trivial l2)).trans z2;clear hb hcs hat hcsl r1 hW5 K5 z0 z1 z2 l2 hca hcb
     cases ca with
     | false =>
      have HF:Hid ((List.range n).all (fnsAt d fs)=false):=rangeT_at _ n k hlt (by rw [HAT.out];rfl);go_wp2_with fail;rw [← HW5.out];have hCne:Nonempty (Wd (fun w'=>SameOn All W5 w'∧Bz w w')):=⟨⟨W5.drew,⟨⟨Nat.le_refl _,fun _ _ _=>rfl⟩,B5.out.drew⟩⟩⟩;refine wp_region_class (fun w'=>SameOn All W5 w'∧Bz w w') (by kernel_rfl) (by kernel_rfl) ⟨⟨Nat.le_refl _,fun _ _ _=>rfl⟩,B5.out.drew⟩ ?_
      repeat (go_big_quiet_step (first | (rename_i m;go_at_call 210;refine (funOk_any d _ _ x (HT.out.below m.ok.2) (E1 _ m.ok.2)).mono ?_;rintro e w1 ⟨rfl,hb1⟩;exact ⟨by rw [HCA.out],⟨⟨w1,⟨(SameOn.trans m.ok.1 (sqO hb1)),m.ok.2.trans (hb1.mono m.ok.2.size)⟩⟩,rfl⟩⟩)))
      refine wpQuiet_nil ?_;rintro _ ⟨mq,rfl⟩;have HB4:=hid mq.ok.2;have HS4:=hid mq.ok.1;generalize mq.val=w4 at HB4 HS4 ⊢;go_wp2_with fail;go_ret;exact ⟨by rw [HF.out];rfl,HB4.out⟩
     | true =>
      have HT2:Hid (cb=false→(List.range (k+1)).all (fnsAt d fs)=true):=fun h=>rangeT_succ _ k hall.out (by rw [HAT.out,h];rfl);have HF:Hid (cb=true→(List.range n).all (fnsAt d fs)=false):=fun h=>rangeT_at _ n k hlt (by rw [HAT.out,h];rfl);go_wp2_with fail;rw [← HW5.out];have hCne:Nonempty (Wd (fun w'=>SameOn All W5 w'∧Bz w w')):=⟨⟨W5.drew,⟨⟨Nat.le_refl _,fun _ _ _=>rfl⟩,B5.out.drew⟩⟩⟩;refine wp_region_class (fun w'=>SameOn All W5 w'∧Bz w w') (by kernel_rfl) (by kernel_rfl) ⟨⟨Nat.le_refl _,fun _ _ _=>rfl⟩,B5.out.drew⟩ ?_
      repeat (go_big_quiet_step (first | (rename_i m;go_at_call 210;refine (funOk_any d _ _ x (HT.out.below m.ok.2) (E1 _ m.ok.2)).mono ?_;rintro e w1 ⟨rfl,hb1⟩;exact ⟨by rw [HCA.out],⟨⟨w1,⟨(SameOn.trans m.ok.1 (sqO hb1)),m.ok.2.trans (hb1.mono m.ok.2.size)⟩⟩,rfl⟩⟩) | (rename_i m;go_at_call 93;refine (refOf_any _ _ _ _ _ _).mono ?_;rintro e w1 ⟨rfl,hb1⟩;exact ⟨rfl,⟨⟨w1,⟨(SameOn.trans m.ok.1 (sqO hb1)),m.ok.2.trans (hb1.mono m.ok.2.size)⟩⟩,rfl⟩⟩) | (rename_i m;go_at_call 130;refine (hasFun_any d _ _ (fs.take k) ⟨xs,xn⟩ (RT _ m.ok.2)).mono ?_;rintro e w1 ⟨rfl,hb1⟩;exact ⟨by rw [HCB.out],⟨⟨w1,⟨(SameOn.trans m.ok.1 (sqO hb1)),m.ok.2.trans (hb1.mono m.ok.2.size)⟩⟩,rfl⟩⟩)))
      refine wpQuiet_nil ?_;rintro _ ⟨mq,rfl⟩;have HB4:=hid mq.ok.2;have HS4:=hid mq.ok.1;generalize mq.val=w4 at HB4 HS4 ⊢
      cases cb with
      | false =>
       have HT':Hid _:=HT2.out rfl;clear HT2 HF;go_wp2_with fail;exact ⟨⟨k+1,by omega,by go_num,HT'.out,HB4.out⟩,by simp [intOf];omega⟩
      | true =>
       have HF':Hid _:=HF.out rfl;clear HT2 HF;go_wp2_with fail;go_ret;exact ⟨by rw [HF'.out];rfl,HB4.out⟩
   · have HD:Hid ((List.range n).all (fnsAt d fs)=true):=by
      obtain rfl:k=n:=(by omega);exact hall.out
     clear hb;go_wp2_with fail;go_ret;exact ⟨by rw [HD.out];rfl,HB.out⟩
end Go.Proofs.YtdhlonogmnkemaaGreatDoor
