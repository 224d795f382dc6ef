/-
  RemG
-/
import Derived.Test.YtefpgpbbgclemaaGreatDoorP12
set_option maxHeartbeats 16000000
set_option linter.unusedVariables false
set_option maxRecDepth 100000
namespace Go.Proofs.YtefpgpbbgclemaaGreatDoor
open Go.ChangeShapes Go.WideShapes Go.ChangeAt Go.RowKit
namespace RemG
def RV (F:FuncId) (cp:List Value) (ft:Int→ByteArray→ByteArray→Nat→ByteArray) (mb:Nat):Value:=.agg #[.func (.func F) #[] cp.toArray,.map (some mb)]
def ExpR (F:FuncId) (cp:List Value) (ft:Int→ByteArray→ByteArray→Nat→ByteArray) (Cap:World→Prop) (d:Nat):Prop:=∀ (w:World) (N mb:Nat) (PL:Nat→Prop) (es:Array MapEntry) (z:Nat) (cs:List Value) (x:Ex),CapK Cap N mb→Ctx Cap w N mb PL es z→HEx w PL d cs x→SizeOf.sizeOf x≤z→wtEx d x≤1048576 →
  Calls Tryz.prog 157 #[RV F cp ft mb,.agg cs.toArray] w (ResM w mb es fun w' u fp=>∃ cs',u=.agg cs'.toArray∧OEx w' d cs' (mapX (fT ft) d x) fp)
def ExpsR (F:FuncId) (cp:List Value) (ft:Int→ByteArray→ByteArray→Nat→ByteArray) (Cap:World→Prop) (d:Nat):Prop:=∀ (w:World) (N mb:Nat) (PL:Nat→Prop) (es:Array MapEntry) (z:Nat) (v:Value) (xs:List Ex),CapK Cap N mb→Ctx Cap w N mb PL es z→Rows w PL 6 (HEx w PL d) v xs→SizeOf.sizeOf xs≤z→wtS (wtEx d) xs≤1048576 →
  Calls Tryz.prog 134 #[RV F cp ft mb,v] w (ResM w mb es fun w' u fp=>ORows w' 79 6 (OEx w' d) u (xs.map (mapX (fT ft) d)) fp)
def ClR (F:FuncId) (cp:List Value) (ft:Int→ByteArray→ByteArray→Nat→ByteArray) (Cap:World→Prop) (d:Nat):Prop:=∀ (w:World) (N mb:Nat) (PL:Nat→Prop) (es:Array MapEntry) (z:Nat) (cs:List Value) (c:Cl),CapK Cap N mb→Ctx Cap w N mb PL es z→HCl w PL (HEx w PL d) cs c→SizeOf.sizeOf c≤z→wtCl (wtEx d) c≤1048576 →
  Calls Tryz.prog 101 #[RV F cp ft mb,.agg cs.toArray] w (ResM w mb es fun w' u fp=>∃ cs',u=.agg cs'.toArray∧OCl w' (OEx w' d) cs' (mapC (fT ft) d c) fp)
def ClsR (F:FuncId) (cp:List Value) (ft:Int→ByteArray→ByteArray→Nat→ByteArray) (Cap:World→Prop) (d:Nat):Prop:=∀ (w:World) (N mb:Nat) (PL:Nat→Prop) (es:Array MapEntry) (z:Nat) (v:Value) (cl:List Cl),CapK Cap N mb→Ctx Cap w N mb PL es z→Rows w PL 2 (HCl w PL (HEx w PL d)) v cl→SizeOf.sizeOf cl≤z→wtS (wtCl (wtEx d)) cl≤1048576 →
  Calls Tryz.prog 100 #[v,.func (.func 101) #[RV F cp ft mb] #[]] w (ResM w mb es fun w' u fp=>ORows w' 127 2 (OCl w' (OEx w' d)) u (cl.map (mapC (fT ft) d)) fp)
theorem fillExp_of {F:FuncId} {cp:List Value} {ft:Int→ByteArray→ByteArray→Nat→ByteArray} {Cap:World→Prop} {d:Nat} (hE:ExpR F cp ft Cap d) (w0 w:World) (G n N mb:Nat) (PL:Nat→Prop) (es:Array MapEntry) (z:Nat) (v:Value) (xs:List Ex) (M:List Value) (hC:CapK Cap N mb)
    (hM:MadeB mb w0 w G n 79 6 (fun w=>OEx w d) (xs.map (mapX (fT ft) d)) 0 M []) (hc:Ctx Cap w N mb PL es z) (hr:Rows w PL 6 (HEx w PL d) v xs) (hn:xs.length=n) (hz:∀ x ∈ xs,SizeOf.sizeOf x≤z) (hw:wtS (wtEx d) xs≤1048576) (hNG:N≤G) :
    Calls Tryz.prog 156 #[.slice (some ⟨G,0,none⟩) n n,v,.func (.func 157) #[RV F cp ft mb] #[]] w fun e w'=>e=.returned (.tuple #[])∧(∃ ys fps,MadeB mb w0 w' G n 79 6 (fun w=>OEx w d) (xs.map (mapX (fT ft) d)) n ys fps)∧MapSt w' mb es∧Off [mb,G] w w':=by
  obtain ⟨p,cap,rfl,hcl,hcm,hx⟩:=hr
  rw [hn] at hcl ⊢
  have HN:Hid (xs.length=n):=hn
  have HX:Hid (xs≠[]→∃ g off,p=some ⟨g,off,none⟩∧PL g∧g<w.heap.size∧∀ i x,xs[i]?=some x→∃ cs,cs.length=6∧(∀ j,j<6→w.cell? ⟨g,off+i * 6+j,none⟩=cs[j]?)∧HEx w PL d cs x):=hx
  have HM0:Hid (MadeB mb w0 w G n 79 6 (fun w=>OEx w d) (xs.map (mapX (fT ft) d)) 0 M []):=hM
  have HC:Hid (Ctx Cap w N mb PL es z):=hc
  have HCK:Hid (CapK Cap N mb):=hC
  have HZ:Hid (∀ x ∈ xs,SizeOf.sizeOf x≤z):=hz
  have HWT:Hid (wtS (wtEx d) xs≤1048576):=hw
  have hnb:n≤1048576:=by unfold wtS at hw;omega
  have HNG:Hid (N≤G):=hNG
  clear hx hn hM hc hC hz hw hNG
  unfold RV
  go_enter Tryz.func156,Tryz.ntmps156
  go_wp2_with fail
  go_loopw [10] (fun iv wr=>∃ (k:Nat) (ys:List Value) (fps:List (List Nat)),k≤n∧iv=.int .i64 k∧Hid (MadeB mb w0 wr G n 79 6 (fun w=>OEx w d) (xs.map (mapX (fT ft) d)) k ys fps)∧Hid (MapSt wr mb es)∧Hid (Off [mb,G] w wr)) (fun iv _=>n - (intOf iv).toNat)
  case atStart=>exact ⟨0,M,[],Nat.zero_le _,rfl,HM0.out,HC.out.mp,Off.refl _ _⟩
  case round =>
    obtain ⟨k,ys,fps,hk,rfl,HM,HMS,HOG⟩:=hrel
    have HOF:Hid (OffB mb N w wr):=offB_of_off HOG.out HNG.out HC.out.le
    by_cases hlt:k<n
    · obtain ⟨x,hxk⟩:∃ x,xs[k]?=some x:=⟨xs[k]'(by rw [HN.out];exact hlt),List.getElem?_eq_getElem _⟩
      obtain ⟨g,off,rfl,hg,hgl,hat⟩:=HX.out (by intro h;rw [h] at hxk;simp at hxk)
      obtain ⟨cs,hcl6,hcs,hex⟩:=hat k x hxk
      have hgP:=HC.out.pl g hg
      have HXR:Hid (HEx wr PL d cs x):=hex.mono (HC.out.same HOF.out (Nat.le_refl _)) (fun _ h=>h)
      obtain ⟨tk,tn,tt,te,r1,m1,s1,r2,m2,s2,rfl⟩:=HEx.shapeR hex
      have a0:=hcs 0 (by omega)
      have a1:=hcs 1 (by omega)
      have a2:=hcs 2 (by omega)
      have a3:=hcs 3 (by omega)
      have a4:=hcs 4 (by omega)
      have a5:=hcs 5 (by omega)
      rw [← HOF.out.cellAt (p:=⟨g,_,none⟩) hgP.1 hgP.2.1] at a0 a1 a2 a3 a4 a5
      clear hcs hat
      simp at a0 a1 a2 a3 a4 a5
      have hki:(k:Int)<(n:Int):=by omega
      have hk0:(0:Int)≤(k:Int):=by omega
      have HWX:Hid (wtEx d x≤1048576):=by
        show _≤_
        have h1:=HWT.out
        have h2:=sum_take_succ (wtEx d) xs k x hxk
        have h3:=sum_take_le (wtEx d) xs (k+1)
        unfold wtS at h1
        omega
      have HZX:Hid (SizeOf.sizeOf x≤z):=HZ.out x (List.mem_of_getElem? hxk)
      have HYK:Hid ((xs.map (mapX (fT ft) d))[k]?=some (mapX (fT ft) d x)):=by show _=_;rw [List.getElem?_map,hxk];rfl
      obtain ⟨W5,hW5⟩:∃ W5,W5=wr.alloc (.cells #[.int .i64 tk,.int .i64 tn,.string tt,.string te,.slice r1 m1 s1,.slice r2 m2 s2] 79):=⟨_,rfl⟩
      have K5:Hid (Below wr.heap.size wr W5):=by show Below _ _ _;rw [hW5];exact (Below.refl _ _).alloc (Nat.le_refl _) _
      have HW5:Hid (W5=wr.alloc (.cells #[.int .i64 tk,.int .i64 tn,.string tt,.string te,.slice r1 m1 s1,.slice r2 m2 s2] 79)):=hW5
      have CR:Hid (Ctx Cap wr N mb PL es z):=HC.out.off HCK.out HOF.out (Nat.le_refl _) HMS.out (Nat.le_refl _)
      have C5:Hid (Ctx Cap W5 N mb PL es z):=CR.out.next HCK.out K5.out (Nat.le_refl _)
      have X5:Hid (HEx W5 PL d [.int .i64 tk,.int .i64 tn,.string tt,.string te,.slice r1 m1 s1,.slice r2 m2 s2] x):=HXR.out.mono (CR.out.same (OffB.of_below (b:=mb) K5.out) CR.out.le) (fun _ h=>h)
      clear hW5 hex hcl6
      go_wp2_with fail
      rw [← HW5.out]
      refine (hE W5 N mb PL es z _ x HCK.out C5.out X5.out HZX.out HWX.out).mono ?_
      rintro e w1 ⟨u,fp,rfl,⟨cs',rfl,hx1⟩,hnd,hrg,hb1,hm1⟩
      obtain ⟨sk,sn,sx,se,p1,n1,q1,p2,n2,q2,hsh⟩:=hx1.shape
      subst hsh
      have K6:Hid (OffB mb wr.heap.size wr w1):=(OffB.of_below K5.out).trans (hb1.mono K5.out.size)
      have HX1:Hid (OEx w1 d [.int .i64 sk,.int .i64 sn,.string sx,.string se,.slice p1 n1 q1,.slice p2 n2 q2] (mapX (fT ft) d x) fp):=hx1
      have HND:Hid fp.Nodup:=hnd
      have HRG:Hid (∀ a ∈ fp,wr.heap.size≤a∧a<w1.heap.size):=fun a ha=>⟨Nat.le_trans K5.out.size (hrg a ha).1,(hrg a ha).2⟩
      have HM1:Hid (MapSt w1 mb es):=hm1
      have hGl:=HM.out.sz
      have hGm:=HM.out.lt
      have o1:w1.ownsRow G 79 6 (.slice (some ⟨G,0,none⟩) n n) n ys:=ownsG_blk HM.out.own (K6.out.block G (by omega) (by omega))
      have HO1:Hid (w1.ownsRow G 79 6 (.slice (some ⟨G,0,none⟩) n n) n ys):=o1
      have f0:=o1.frozenAt (k * 6)
      obtain ⟨y0,g0⟩:=own_someR o1 (k * 6) (by omega)
      have f1:=o1.frozenAt (k * 6+1)
      obtain ⟨y1,g1⟩:=own_someR o1 (k * 6+1) (by omega)
      have f2:=o1.frozenAt (k * 6+2)
      obtain ⟨y2,g2⟩:=own_someR o1 (k * 6+2) (by omega)
      have f3:=o1.frozenAt (k * 6+3)
      obtain ⟨y3,g3⟩:=own_someR o1 (k * 6+3) (by omega)
      have f4:=o1.frozenAt (k * 6+4)
      obtain ⟨y4,g4⟩:=own_someR o1 (k * 6+4) (by omega)
      have f5:=o1.frozenAt (k * 6+5)
      obtain ⟨y5,g5⟩:=own_someR o1 (k * 6+5) (by omega)
      clear o1 hb1 hx1 hnd hrg hm1 hGl hGm a0 a1 a2 a3 a4 a5
      go_wp2_with fail
      have sd:=stored6 HO1.out (k * 6) (.int .i64 sk) (.int .i64 sn) (.string sx) (.string se) (.slice p1 n1 q1) (.slice p2 n2 q2)
      have hlen:ys.length=n * 6:=HO1.out.1
      have HMN:=MadeB.step (O:=fun w=>OEx w d) (c:=6) (fun w w' cs x f h hk=>OEx.keep h hk) HM.out HYK.out K6.out HX1.out HND.out HRG.out rfl sd.1 sd.2 (fun m hm=>set6_other hm) (fun j hj=>set6_self (by omega) j hj)
      refine ⟨⟨k+1,_,_,by omega,by go_num,HMN,HM1.out.keep (sd.2.block mb (by have:=CR.out.mlt;have:=K6.out.size;omega) (by have:=HM.out.lt;simp;omega)),HOG.out.trans ((off_of_offB K6.out).trans (Off.of_grown sd.2 (by simp)))⟩,by simp [intOf];omega⟩
    · obtain rfl:k=n:=by omega
      go_wp2_with fail
      go_end0
      exact ⟨rfl,⟨_,_,HM.out⟩,HMS.out,HOG.out⟩
theorem fillClause_of {F:FuncId} {cp:List Value} {ft:Int→ByteArray→ByteArray→Nat→ByteArray} {Cap:World→Prop} {d:Nat} (hE:ClR F cp ft Cap d) (w0 w:World) (G n N mb:Nat) (PL:Nat→Prop) (es:Array MapEntry) (z:Nat) (v:Value) (xs:List Cl) (M:List Value) (hC:CapK Cap N mb)
    (hM:MadeB mb w0 w G n 127 2 (fun w=>OCl w (OEx w d)) (xs.map (mapC (fT ft) d)) 0 M []) (hc:Ctx Cap w N mb PL es z) (hr:Rows w PL 2 (HCl w PL (HEx w PL d)) v xs) (hn:xs.length=n) (hz:∀ x ∈ xs,SizeOf.sizeOf x≤z) (hw:wtS (wtCl (wtEx d)) xs≤1048576) (hNG:N≤G) :
    Calls Tryz.prog 133 #[.slice (some ⟨G,0,none⟩) n n,v,.func (.func 101) #[RV F cp ft mb] #[]] w fun e w'=>e=.returned (.tuple #[])∧(∃ ys fps,MadeB mb w0 w' G n 127 2 (fun w=>OCl w (OEx w d)) (xs.map (mapC (fT ft) d)) n ys fps)∧MapSt w' mb es∧Off [mb,G] w w':=by
  obtain ⟨p,cap,rfl,hcl,hcm,hx⟩:=hr
  rw [hn] at hcl ⊢
  have HN:Hid (xs.length=n):=hn
  have HX:Hid (xs≠[]→∃ g off,p=some ⟨g,off,none⟩∧PL g∧g<w.heap.size∧∀ i x,xs[i]?=some x→∃ cs,cs.length=2∧(∀ j,j<2→w.cell? ⟨g,off+i * 2+j,none⟩=cs[j]?)∧HCl w PL (HEx w PL d) cs x):=hx
  have HM0:Hid (MadeB mb w0 w G n 127 2 (fun w=>OCl w (OEx w d)) (xs.map (mapC (fT ft) d)) 0 M []):=hM
  have HC:Hid (Ctx Cap w N mb PL es z):=hc
  have HCK:Hid (CapK Cap N mb):=hC
  have HZ:Hid (∀ x ∈ xs,SizeOf.sizeOf x≤z):=hz
  have HWT:Hid (wtS (wtCl (wtEx d)) xs≤1048576):=hw
  have hnb:n≤1048576:=by unfold wtS at hw;omega
  have HNG:Hid (N≤G):=hNG
  clear hx hn hM hc hC hz hw hNG
  unfold RV
  go_enter Tryz.func133,Tryz.ntmps133
  go_wp2_with fail
  go_loopw [10] (fun iv wr=>∃ (k:Nat) (ys:List Value) (fps:List (List Nat)),k≤n∧iv=.int .i64 k∧Hid (MadeB mb w0 wr G n 127 2 (fun w=>OCl w (OEx w d)) (xs.map (mapC (fT ft) d)) k ys fps)∧Hid (MapSt wr mb es)∧Hid (Off [mb,G] w wr)) (fun iv _=>n - (intOf iv).toNat)
  case atStart=>exact ⟨0,M,[],Nat.zero_le _,rfl,HM0.out,HC.out.mp,Off.refl _ _⟩
  case round =>
    obtain ⟨k,ys,fps,hk,rfl,HM,HMS,HOG⟩:=hrel
    have HOF:Hid (OffB mb N w wr):=offB_of_off HOG.out HNG.out HC.out.le
    by_cases hlt:k<n
    · obtain ⟨x,hxk⟩:∃ x,xs[k]?=some x:=⟨xs[k]'(by rw [HN.out];exact hlt),List.getElem?_eq_getElem _⟩
      obtain ⟨g,off,rfl,hg,hgl,hat⟩:=HX.out (by intro h;rw [h] at hxk;simp at hxk)
      obtain ⟨cs,hcl6,hcs,hex⟩:=hat k x hxk
      have hgP:=HC.out.pl g hg
      have HXR:Hid (HCl wr PL (HEx wr PL d) cs x):=hex.mono (HC.out.same HOF.out (Nat.le_refl _)) (fun _ h=>h) (fun _ _ h=>h.mono (HC.out.same HOF.out (Nat.le_refl _)) (fun _ h=>h))
      obtain ⟨r1,m1,s1,r2,m2,s2,rfl⟩:=HCl.shapeR hex
      have a0:=hcs 0 (by omega)
      have a1:=hcs 1 (by omega)
      rw [← HOF.out.cellAt (p:=⟨g,_,none⟩) hgP.1 hgP.2.1] at a0 a1
      clear hcs hat
      simp at a0 a1
      have hki:(k:Int)<(n:Int):=by omega
      have hk0:(0:Int)≤(k:Int):=by omega
      have HWX:Hid (wtCl (wtEx d) x≤1048576):=by
        show _≤_
        have h1:=HWT.out
        have h2:=sum_take_succ (wtCl (wtEx d)) xs k x hxk
        have h3:=sum_take_le (wtCl (wtEx d)) xs (k+1)
        unfold wtS at h1
        omega
      have HZX:Hid (SizeOf.sizeOf x≤z):=HZ.out x (List.mem_of_getElem? hxk)
      have HYK:Hid ((xs.map (mapC (fT ft) d))[k]?=some (mapC (fT ft) d x)):=by show _=_;rw [List.getElem?_map,hxk];rfl
      obtain ⟨W5,hW5⟩:∃ W5,W5=wr.alloc (.cells #[.slice r1 m1 s1,.slice r2 m2 s2] 127):=⟨_,rfl⟩
      have K5:Hid (Below wr.heap.size wr W5):=by show Below _ _ _;rw [hW5];exact (Below.refl _ _).alloc (Nat.le_refl _) _
      have HW5:Hid (W5=wr.alloc (.cells #[.slice r1 m1 s1,.slice r2 m2 s2] 127)):=hW5
      have CR:Hid (Ctx Cap wr N mb PL es z):=HC.out.off HCK.out HOF.out (Nat.le_refl _) HMS.out (Nat.le_refl _)
      have C5:Hid (Ctx Cap W5 N mb PL es z):=CR.out.next HCK.out K5.out (Nat.le_refl _)
      have X5:Hid (HCl W5 PL (HEx W5 PL d) [.slice r1 m1 s1,.slice r2 m2 s2] x):=HXR.out.mono (CR.out.same (OffB.of_below (b:=mb) K5.out) CR.out.le) (fun _ h=>h) (fun _ _ h=>h.mono (CR.out.same (OffB.of_below (b:=mb) K5.out) CR.out.le) (fun _ h=>h))
      clear hW5 hex hcl6
      go_wp2_with fail
      rw [← HW5.out]
      refine (hE W5 N mb PL es z _ x HCK.out C5.out X5.out HZX.out HWX.out).mono ?_
      rintro e w1 ⟨u,fp,rfl,⟨cs',rfl,hx1⟩,hnd,hrg,hb1,hm1⟩
      obtain ⟨p1,n1,q1,p2,n2,q2,hsh⟩:=OCls.shape hx1
      subst hsh
      have K6:Hid (OffB mb wr.heap.size wr w1):=(OffB.of_below K5.out).trans (hb1.mono K5.out.size)
      have HX1:Hid (OCl w1 (OEx w1 d) [.slice p1 n1 q1,.slice p2 n2 q2] (mapC (fT ft) d x) fp):=hx1
      have HND:Hid fp.Nodup:=hnd
      have HRG:Hid (∀ a ∈ fp,wr.heap.size≤a∧a<w1.heap.size):=fun a ha=>⟨Nat.le_trans K5.out.size (hrg a ha).1,(hrg a ha).2⟩
      have HM1:Hid (MapSt w1 mb es):=hm1
      have hGl:=HM.out.sz
      have hGm:=HM.out.lt
      have o1:w1.ownsRow G 127 2 (.slice (some ⟨G,0,none⟩) n n) n ys:=ownsG_blk HM.out.own (K6.out.block G (by omega) (by omega))
      have HO1:Hid (w1.ownsRow G 127 2 (.slice (some ⟨G,0,none⟩) n n) n ys):=o1
      have f0:=o1.frozenAt (k * 2)
      obtain ⟨y0,g0⟩:=own_someR o1 (k * 2) (by omega)
      have f1:=o1.frozenAt (k * 2+1)
      obtain ⟨y1,g1⟩:=own_someR o1 (k * 2+1) (by omega)
      clear o1 hb1 hx1 hnd hrg hm1 hGl hGm a0 a1
      go_wp2_with fail
      have sd:=stored2 HO1.out (k * 2) (.slice p1 n1 q1) (.slice p2 n2 q2)
      have hlen:ys.length=n * 2:=HO1.out.1
      have HMN:=MadeB.step (O:=fun w=>OCl w (OEx w d)) (c:=2) (fun w w' cs x f h hk=>OCls.keep h hk) HM.out HYK.out K6.out HX1.out HND.out HRG.out rfl sd.1 sd.2 (fun m hm=>set2_other hm) (fun j hj=>set2_self (by omega) j hj)
      refine ⟨⟨k+1,_,_,by omega,by go_num,HMN,HM1.out.keep (sd.2.block mb (by have:=CR.out.mlt;have:=K6.out.size;omega) (by have:=HM.out.lt;simp;omega)),HOG.out.trans ((off_of_offB K6.out).trans (Off.of_grown sd.2 (by simp)))⟩,by simp [intOf];omega⟩
    · obtain rfl:k=n:=by omega
      go_wp2_with fail
      go_end0
      exact ⟨rfl,⟨_,_,HM.out⟩,HMS.out,HOG.out⟩
theorem exps_of {F:FuncId} {cp:List Value} {ft:Int→ByteArray→ByteArray→Nat→ByteArray} {Cap:World→Prop} {d:Nat} (hE:ExpR F cp ft Cap d):ExpsR F cp ft Cap d:=by
  intro w N mb PL es z v xs hC hc hr hz hw
  have HCK:Hid (CapK Cap N mb):=hC
  have HC:Hid (Ctx Cap w N mb PL es z):=hc
  have HR:Hid (Rows w PL 6 (HEx w PL d) v xs):=hr
  have HZ:Hid (SizeOf.sizeOf xs≤z):=hz
  have HWT:Hid (wtS (wtEx d) xs≤1048576):=hw
  obtain ⟨p,cap,rfl,hcl,hcm,hx⟩:=hr
  have hnb:xs.length≤1048576:=by unfold wtS at hw;omega
  obtain ⟨W1,hW1⟩:∃ W1,W1=w.alloc (.cells #[.func (.func F) #[] cp.toArray,.map (some mb)] 74):=⟨_,rfl⟩
  have K1:Hid (Below w.heap.size w W1):=by show Below _ _ _;rw [hW1];exact (Below.refl _ _).alloc (Nat.le_refl _) _
  have b1:Hid (Blk W1 w.heap.size #[.func (.func F) #[] cp.toArray,.map (some mb)] 74):=by show Blk _ _ _ _;rw [hW1];exact Blk.new
  have s1:W1.heap.size=w.heap.size+1:=by rw [hW1,alloc_hs]
  have S1:Hid (W1.heap.size=w.heap.size+1):=s1
  have HW1:Hid (W1=w.alloc (.cells #[.func (.func F) #[] cp.toArray,.map (some mb)] 74)):=hW1
  clear hW1 hC hc hz hw s1
  unfold RV
  cases p with
  | none =>
    obtain rfl:=rows_nil_of_none HR.out
    clear hx
    go_enter Tryz.func134,Tryz.ntmps134
    go_wp2_with fail
    rw [← HW1.out]
    refine (blankExp_nil _ _).mono ?_
    rintro e w2 ⟨rfl,rfl⟩
    go_wp2_with fail
    go_ret
    exact ⟨_,[],rfl,orows_nil none 0 (Nat.zero_le _),by simp,by simp,OffB.of_below K1.out,HC.out.mp.keep (K1.out.block mb HC.out.mlt)⟩
  | some a =>
    by_cases hne:xs = []
    · subst hne
      clear hx
      go_enter Tryz.func134,Tryz.ntmps134
      go_wp2_with fail
      rw [← HW1.out]
      refine (blankExp_some _ a 0 cap (by omega)).mono ?_
      rintro e w2 ⟨rfl,M,hM,rfl⟩
      have K2:Hid (Below w.heap.size w (W1.alloc (.cells M 79))):=K1.out.alloc K1.out.size _
      go_wp2_with fail
      go_ret
      exact ⟨_,[],rfl,orows_nil _ 0 (Nat.zero_le _),by simp,by simp,OffB.of_below K2.out,HC.out.mp.keep (K2.out.block mb HC.out.mlt)⟩
    · obtain ⟨g,off,ha,hg,hgl,-⟩:=hx hne
      simp only [Option.some.injEq] at ha
      subst ha
      have HNE:Hid (xs≠[]):=hne
      have hpos:0<xs.length:=List.length_pos_iff.2 hne
      have hgP:=HC.out.pl g hg
      have HGP:Hid (g<N∧g≠mb∧PlainAt w g):=hgP
      generalize hn:xs.length=n at *
      have HN:Hid (xs.length=n):=hn
      have hnz:((n:Int) == 0)=false:=by simp;omega
      have hnz2:¬ (n:Int)=0:=by omega
      have hn1:(0:Int)<(n:Int):=by omega
      clear hx hne hgP hg hn
      go_enter Tryz.func134,Tryz.ntmps134
      go_wp2_with fail
      rw [← HW1.out]
      refine (blankExp_some _ ⟨g,off,none⟩ n cap hnb).mono ?_
      rintro e w2 ⟨rfl,M,hM,hw2⟩
      have HM0:Hid (MadeB mb W1 w2 W1.heap.size n 79 6 (fun w=>OEx w d) (xs.map (mapX (fT ft) d)) 0 M.toList []):=by
        show MadeB _ _ _ _ _ _ _ _ _ _ _ _
        rw [hw2]
        exact MadeB.start hM (by unfold maxLen;omega) (by have:=HC.out.mlt;have:=K1.out.size;omega)
      have K2:Hid (Below W1.heap.size W1 w2):=by show Below _ _ _;rw [hw2];exact (Below.refl _ _).alloc (Nat.le_refl _) _
      have S2:Hid (w2.heap.size=w.heap.size+2):=by show _=_;rw [hw2,alloc_hs,S1.out]
      have b2:Hid (Blk w2 w.heap.size #[.func (.func F) #[] cp.toArray,.map (some mb)] 74):=b1.out.next K2.out
      obtain ⟨W3,hW3⟩:∃ W3,W3=w2.alloc (.cells #[.pointer (some ⟨g,off,none⟩),.int .i64 n] 204):=⟨_,rfl⟩
      have K3:Hid (Below w2.heap.size w2 W3):=by show Below _ _ _;rw [hW3];exact (Below.refl _ _).alloc (Nat.le_refl _) _
      have b3:Hid (Blk W3 w.heap.size #[.func (.func F) #[] cp.toArray,.map (some mb)] 74):=b2.out.next K3.out
      have k3:Hid (Blk W3 w2.heap.size #[.pointer (some ⟨g,off,none⟩),.int .i64 n] 204):=by show Blk _ _ _ _;rw [hW3];exact Blk.new
      have S3:Hid (W3.heap.size=w.heap.size+3):=by show _=_;rw [hW3,alloc_hs,S2.out]
      have HW3:Hid (W3=w2.alloc (.cells #[.pointer (some ⟨g,off,none⟩),.int .i64 n] 204)):=hW3
      have B3:Hid (Below w.heap.size w W3):=K1.out.trans ((K2.out.mono K1.out.size).trans (K3.out.mono (Nat.le_trans K1.out.size K2.out.size)))
      have C3:Hid (Ctx Cap W3 N mb PL es z):=HC.out.next HCK.out B3.out (Nat.le_refl _)
      have R3:Hid (Rows W3 PL 6 (HEx W3 PL d) (.slice (some ⟨g,off,none⟩) n cap) xs):=HR.out.mono (SameOn.of_below B3.out) (fun _ h=>h) (fun _ _ _ h=>h.mono (SameOn.of_below B3.out) (fun _ h=>h))
      have P3:Hid (PlainAt W3 g):=HGP.out.2.2.off (OffB.of_below (b:=mb) (N:=w.heap.size) B3.out) (by have:=HGP.out.1;have:=HC.out.le;omega) HGP.out.2.1
      have N3:Hid (KeyNot W3 es.toList ⟨g,off,none⟩ n):=C3.out.ks.not C3.out.pl R3.out HZ.out
      have M3:Hid (MadeB mb W1 W3 W1.heap.size n 79 6 (fun w=>OEx w d) (xs.map (mapX (fT ft) d)) 0 M.toList []):=HM0.out.next (fun w w' cs x f h hk=>OEx.keep h hk) (OffB.of_below K3.out)
      obtain ⟨ck,hck⟩:=C3.out.mp
      have HCKm:Hid (W3.heap[mb]?=some (.map es ck)):=hck
      have RL:Hid ((Instr.lookup 72 (.map (some mb)) (keyV ⟨g,off,none⟩ n) true).run Tryz.prog W3=.ok (.tuple #[.slice none 0 0,.bool false]) W3):=run_look C3.out.mp P3.out N3.out
      obtain ⟨X,hX⟩:∃ X:MapEntry,X = { key:=keyV ⟨g,off,none⟩ n,val:=.slice (some ⟨W1.heap.size,0,none⟩) n n,born:=ck }:=⟨_,rfl⟩
      have HXK:Hid (X.key=keyV ⟨g,off,none⟩ n):=by show _=_;rw [hX]
      obtain ⟨W4,hW4⟩:∃ W4:World,W4 = { W3 with heap:=W3.heap.setIfInBounds mb (.map (es.push X) (ck+1)) }:=⟨_,rfl⟩
      have RP:Hid ((Instr.mapUpdate 72 (.map (some mb)) (keyV ⟨g,off,none⟩ n) (.slice (some ⟨W1.heap.size,0,none⟩) n n)).run Tryz.prog W3=.ok () W4):=by
        show _=_
        rw [hW4,hX]
        exact run_put _ hck P3.out N3.out
      have hml:=HC.out.mlt
      have hmN:=HC.out.lt
      have hNw:=HC.out.le
      have K4:Hid (OffB mb W3.heap.size W3 W4):=by show OffB _ _ _ _;rw [hW4];exact offB_put _ _ _ _
      have P4:Hid (MapSt W4 mb (es.push X)):=by
        refine ⟨ck+1,?_⟩
        rw [hW4]
        exact put_at _ hck
      have b4:Hid (Blk W4 w.heap.size #[.func (.func F) #[] cp.toArray,.map (some mb)] 74):=K4.out.blk b3.out b3.out.lt (by omega)
      have k4:Hid (Blk W4 w2.heap.size #[.pointer (some ⟨g,off,none⟩),.int .i64 n] 204):=K4.out.blk k3.out k3.out.lt (by rw [S2.out];omega)
      have R4:Hid (Rows W4 PL 6 (HEx W4 PL d) (.slice (some ⟨g,off,none⟩) n cap) xs):=R3.out.mono (C3.out.same K4.out C3.out.le) (fun _ h=>h) (fun _ _ _ h=>h.mono (C3.out.same K4.out C3.out.le) (fun _ h=>h))
      have hsz:1≤SizeOf.sizeOf xs:=size_pos xs
      have KS4:Hid (KeysIn W4 PL (es.push X) (SizeOf.sizeOf xs - 1)):=by
        have h1:=C3.out.ks.mono (C3.out.same K4.out C3.out.le) (Nat.le_refl _)
        rw [hX]
        exact h1.push (by have:=HZ.out;omega) HNE.out R4.out (by omega) _ _
      have C4:Hid (Ctx Cap W4 N mb PL (es.push X) (SizeOf.sizeOf xs - 1)):=⟨C3.out.pl.off K4.out C3.out.le,P4.out,KS4.out,hmN,Nat.le_trans C3.out.le K4.out.size,HCK.out _ _ (K4.out.mono C3.out.le) C3.out.cap⟩
      have M4:Hid (MadeB mb W1 W4 W1.heap.size n 79 6 (fun w=>OEx w d) (xs.map (mapX (fT ft) d)) 0 M.toList []):=M3.out.next (fun w w' cs x f h hk=>OEx.keep h hk) K4.out
      have CFL:Hid (Calls Tryz.prog 156 #[.slice (some ⟨W1.heap.size,0,none⟩) n n,.slice (some ⟨g,off,none⟩) n cap,.func (.func 157) #[.agg #[.func (.func F) #[] cp.toArray,.map (some mb)]] #[]] W4 fun e w'=>e=.returned (.tuple #[])∧(∃ ys fps,MadeB mb W1 w' W1.heap.size n 79 6 (fun w=>OEx w d) (xs.map (mapX (fT ft) d)) n ys fps)∧MapSt w' mb (es.push X)∧Off [mb,W1.heap.size] W4 w'):=by
        have:=fillExp_of hE W1 W4 W1.heap.size n N mb PL (es.push X) (SizeOf.sizeOf xs - 1) (.slice (some ⟨g,off,none⟩) n cap) xs M.toList HCK.out M4.out C4.out R4.out HN.out (fun x hx=>by have:=size_mem hx;omega) HWT.out (by rw [S1.out];omega)
        unfold RV at this
        exact this
      have y0:=b3.out.cell 0 _ rfl
      have y1:=b3.out.cell 1 _ rfl
      have x0:=k3.out.cell 0 _ rfl
      have x1:=k3.out.cell 1 _ rfl
      have u0:=b4.out.cell 0 _ rfl
      have u1:=b4.out.cell 1 _ rfl
      clear hw2 hW3 hck hM hX hW4 hsz
      go_wp2_with (first | (rw [← HW3.out]) | (at_lookup;refine wpList_lookup_run _ rfl _ _ _ rfl _ _ _ rfl rfl RL.out ?_) | (at_mapUpdate;refine wpList_mapUpdate_run _ _ rfl _ _ _ _ rfl _ _ _ rfl rfl rfl RP.out ?_))
      refine CFL.out.mono ?_
      rintro e w5 ⟨rfl,⟨ys,fps,hM5⟩,⟨ck5,hck5⟩,hof5⟩
      have M5:Hid (MadeB mb W1 w5 W1.heap.size n 79 6 (fun w=>OEx w d) (xs.map (mapX (fT ft) d)) n ys fps):=hM5
      have b5:Hid (Blk w5 w.heap.size #[.func (.func F) #[] cp.toArray,.map (some mb)] 74):=(hof5.block w.heap.size b4.out.lt (by rw [S1.out];simp;omega)).trans b4.out
      have k5:Hid (Blk w5 w2.heap.size #[.pointer (some ⟨g,off,none⟩),.int .i64 n] 204):=(hof5.block w2.heap.size k4.out.lt (by rw [S1.out,S2.out];simp;omega)).trans k4.out
      have K5:Hid (OffB mb w.heap.size W4 w5):=offB_of_off hof5 (by rw [S1.out];omega) (by have:=K4.out.size;have:=S3.out;omega)
      have P5:Hid (PlainAt w5 g):=(P3.out.off K4.out (by have:=HGP.out.1;have:=S3.out;omega) HGP.out.2.1).off K5.out (by have:=HGP.out.1;omega) HGP.out.2.1
      have N5:Hid (KeyNot w5 es.toList ⟨g,off,none⟩ n):=fun e he=>by
        obtain ⟨a',n',h1,h2,h3⟩:=N3.out e he
        obtain ⟨a'',n'',q'',d'',ys'',j1,j2,j3,j4⟩:=C3.out.ks e he
        have h4:=C3.out.pl _ (rows_first j3 j2)
        have e1:a'=a'':=by rw [h1] at j1;simp [keyV] at j1;exact j1.1
        subst e1
        exact ⟨a',n',h1,(h2.off K4.out (by have:=h4.1;have:=S3.out;omega) h4.2.1).off K5.out (by have:=h4.1;omega) h4.2.1,h3⟩
      obtain ⟨W6,hW6⟩:∃ W6:World,W6 = { w5 with heap:=w5.heap.setIfInBounds mb (.map es ck5) }:=⟨_,rfl⟩
      have RD:Hid (∀ ty,(Builtin.delete_ #[72,204] ty #[.map (some mb),keyV ⟨g,off,none⟩ n]).run Tryz.prog w5=.ok (.tuple #[]) W6):=fun ty=>by
        rw [hW6]
        exact run_del X HXK.out hck5 P5.out N5.out ty
      have K6:Hid (OffB mb w5.heap.size w5 W6):=by show OffB _ _ _ _;rw [hW6];exact offB_put _ _ _ _
      have P6:Hid (MapSt W6 mb es):=by
        refine ⟨ck5,?_⟩
        rw [hW6]
        exact put_at _ hck5
      have M6:MadeB mb W1 W6 W1.heap.size n 79 6 (fun w=>OEx w d) (xs.map (mapX (fT ft) d)) n ys fps:=M5.out.next (fun w w' cs x f h hk=>OEx.keep h hk) K6.out
      obtain ⟨fp,r1,r2,r3⟩:=M6.done (show (xs.map (mapX (fT ft) d)).length=n by rw [List.length_map];exact HN.out) (by unfold maxLen;omega)
      have R1:Hid (ORows W6 79 6 (OEx W6 d) (.slice (some ⟨W1.heap.size,0,none⟩) n n) (xs.map (mapX (fT ft) d)) fp):=r1
      have R2:Hid (fp.Nodup∧∀ a ∈ fp,w.heap.size≤a∧a<W6.heap.size):=⟨r2,fun a ha=>⟨by have:=(r3 a ha).1;have:=S1.out;omega,(r3 a ha).2⟩⟩
      have O6:Hid (OffB mb w.heap.size w W6):=(OffB.of_below B3.out).trans ((K4.out.mono (by have:=S3.out;omega)).trans (K5.out.trans (K6.out.mono (by have:=K5.out.size;have:=K4.out.size;have:=S3.out;omega))))
      have v0:=b5.out.cell 0 _ rfl
      have v1:=b5.out.cell 1 _ rfl
      have t0:=k5.out.cell 0 _ rfl
      have t1:=k5.out.cell 1 _ rfl
      clear M6 hM5 hck5 hof5 hW6 r1 r2 r3 y0 y1 x0 x1 u0 u1
      go_wp2_with (at_delete;refine wpList_delete_run _ _ rfl _ _ _ _ rfl _ _ rfl rfl (RD.out _) ?_)
      go_ret
      exact ⟨_,fp,rfl,R1.out,R2.out.1,R2.out.2,O6.out,P6.out⟩
theorem clause_of {F:FuncId} {cp:List Value} {ft:Int→ByteArray→ByteArray→Nat→ByteArray} {Cap:World→Prop} {d:Nat} (hE:ExpsR F cp ft Cap d):ClR F cp ft Cap d:=by
  intro w N mb PL es z cs c hC hc hr hz hw
  have HCK:Hid (CapK Cap N mb):=hC
  have HC:Hid (Ctx Cap w N mb PL es z):=hc
  obtain ⟨pv,bv,rfl,hp,hb⟩:=hr
  have HP:Hid (Rows w PL 6 (HEx w PL d) pv c.1):=hp
  have HB:Hid (Rows w PL 6 (HEx w PL d) bv c.2):=hb
  have HZ1:Hid (SizeOf.sizeOf c.1≤z):=by show _≤_;have:=size_pats c;omega
  have HZ2:Hid (SizeOf.sizeOf c.2≤z):=by show _≤_;have:=size_pats c;omega
  have hw':wtCl (wtEx d) c=wtS (wtEx d) c.1+wtS (wtEx d) c.2:=rfl
  have HW1:Hid (wtS (wtEx d) c.1≤1048576):=by show _≤_;omega
  have HW2:Hid (wtS (wtEx d) c.2≤1048576):=by show _≤_;omega
  obtain ⟨p1,c1,rfl,-⟩:=hp
  obtain ⟨p2,c2,rfl,-⟩:=hb
  generalize c.1.length=n1 at *
  generalize c.2.length=n2 at *
  obtain ⟨W2,hW2⟩:∃ W2,W2=(w.alloc (.cells #[.func (.func F) #[] cp.toArray,.map (some mb)] 74)).alloc (.cells #[.slice p1 n1 c1,.slice p2 n2 c2] 127):=⟨_,rfl⟩
  have K2:Hid (Below w.heap.size w W2):=by show Below _ _ _;rw [hW2];exact ((Below.refl _ _).alloc (Nat.le_refl _) _).alloc (by simp) _
  have b2:Hid (Blk W2 w.heap.size #[.func (.func F) #[] cp.toArray,.map (some mb)] 74):=by show Blk _ _ _ _;rw [hW2];exact Blk.new.alloc
  have c2':Hid (Blk W2 (w.heap.size+1) #[.slice p1 n1 c1,.slice p2 n2 c2] 127):=by
    have:=Blk.new (w:=w.alloc (.cells #[.func (.func F) #[] cp.toArray,.map (some mb)] 74)) (cs:=#[.slice p1 n1 c1,.slice p2 n2 c2]) (t:=127)
    rw [alloc_hs] at this
    show Blk _ _ _ _;rw [hW2];exact this
  have S2:Hid (W2.heap.size=w.heap.size+2):=by show _=_;rw [hW2,alloc_hs,alloc_hs]
  obtain ⟨W3,hW3⟩:∃ W3,W3=W2.alloc (.cells #[.slice none 0 0,.slice none 0 0] 127):=⟨_,rfl⟩
  have K3:Hid (Below W2.heap.size W2 W3):=by show Below _ _ _;rw [hW3];exact (Below.refl _ _).alloc (Nat.le_refl _) _
  have r3:Hid (Blk W3 (w.heap.size+2) #[.slice none 0 0,.slice none 0 0] 127):=by show Blk _ _ _ _;rw [hW3,← S2.out];exact Blk.new
  have HW3:Hid (W3=((w.alloc (.cells #[.func (.func F) #[] cp.toArray,.map (some mb)] 74)).alloc (.cells #[.slice p1 n1 c1,.slice p2 n2 c2] 127)).alloc (.cells #[.slice none 0 0,.slice none 0 0] 127)):=by show _=_;rw [hW3,hW2]
  have B3:Hid (Below w.heap.size w W3):=K2.out.trans (K3.out.mono K2.out.size)
  have S3:Hid (W3.heap.size=w.heap.size+3):=by show _=_;rw [hW3,alloc_hs,S2.out]
  have C3:Hid (Ctx Cap W3.drew N mb PL es z):=HC.out.next HCK.out B3.out.drew (Nat.le_refl _)
  have P3:Hid (Rows W3.drew PL 6 (HEx W3.drew PL d) (.slice p1 n1 c1) c.1):=HP.out.mono (SameOn.of_below B3.out.drew) (fun _ h=>h) (fun _ _ _ h=>h.mono (SameOn.of_below B3.out.drew) (fun _ h=>h))
  have hml:=HC.out.mlt
  have hmN:=HC.out.lt
  have hNw:=HC.out.le
  have z0:Hid (w.heap.size≠mb):=by show _≠_;omega
  have z1:Hid (w.heap.size+1≠mb):=by show _≠_;omega
  have b3:Hid (Blk W3 w.heap.size #[.func (.func F) #[] cp.toArray,.map (some mb)] 74):=b2.out.next K3.out
  have c3:Hid (Blk W3 (w.heap.size+1) #[.slice p1 n1 c1,.slice p2 n2 c2] 127):=c2'.out.next K3.out
  have CELLS:Hid (∀ w',OffB mb (w.heap.size+2) W3 w'→w'.cell? ⟨w.heap.size,0,none⟩=some (.func (.func F) #[] cp.toArray)∧w'.cell? ⟨w.heap.size,1,none⟩=some (.map (some mb))∧w'.cell? ⟨w.heap.size+1,0,none⟩=some (.slice p1 n1 c1)∧w'.cell? ⟨w.heap.size+1,1,none⟩=some (.slice p2 n2 c2)):=fun w' ho=>by
    have e1:=ho.blk b3.out (by have:=S2.out;omega) z0.out
    have e2:=ho.blk c3.out (by have:=S2.out;omega) z1.out
    exact ⟨e1.cell 0 _ rfl,e1.cell 1 _ rfl,e2.cell 0 _ rfl,e2.cell 1 _ rfl⟩
  have hfirst:=CELLS.out W3 (OffB.refl _ _ _)
  obtain ⟨q0,q1,q2,q3⟩:=hfirst
  have e0:=r3.out.cell 0 _ rfl
  have e1:=r3.out.cell 1 _ rfl
  have f0:=r3.out.frozen 0
  have f1:=r3.out.frozen 1
  clear hW2 hW3 hC hc hz hw hw'
  unfold RV
  unfold ExpsR RV at hE
  go_enter Tryz.func101,Tryz.ntmps101
  go_wp2_with fail
  rw [← HW3.out]
  go_region_held3 (fun w'=>w'.cell? ⟨w.heap.size,0,none⟩=some (.func (.func F) #[] cp.toArray)∧w'.cell? ⟨w.heap.size,1,none⟩=some (.map (some mb))∧w'.cell? ⟨w.heap.size+1,0,none⟩=some (.slice p1 n1 c1)∧w'.cell? ⟨w.heap.size+1,1,none⟩=some (.slice p2 n2 c2))
    (first | exact CELLS.out _ (OffB.refl _ _ _).drew | exact CELLS.out _ K5.out | exact CELLS.out _ K4.out | exact CELLS.out _ ((K5.out.setCell (Nat.le_refl _) _).setCell (Nat.le_refl _) _) | go_keep)
    (first
      | (have _:=K4;go_at_call 134;refine (hE _ N mb PL es z _ c.2 HCK.out C4.out R4.out HZ2.out HW2.out).mono ?_;rintro e w5 ⟨u5,fq,rfl,ho5,hnd5,hrg5,hb5,hm5⟩;obtain ⟨pu5,cu5,hu5,hcl5,hcm5⟩:=ho5.shape;subst hu5;have HO5:Hid (ORows w5 79 6 (OEx w5 d) (.slice pu5 (c.2.map (mapX (fT ft) d)).length cu5) (c.2.map (mapX (fT ft) d)) fq):=ho5;have ND5:Hid (fq.Nodup∧∀ a ∈ fq,w4.heap.size≤a∧a<w5.heap.size):=⟨hnd5,hrg5⟩;have L5:Hid (OffB mb w4.heap.size w4 w5):=hb5;have K5:Hid (OffB mb (w.heap.size+2) W3 w5):=K4.out.trans (hb5.mono (by have h1:=K4.out.size;have h2:=S3.out;have h3:=S2.out;omega));have MS5:Hid (MapSt w5 mb es):=hm5;have rr:=(L5.out.blk (M4.out.blk r3.out r3.out.lt (by have:=S2.out;omega)) (by have h1:=M4.out.size;have h2:=r3.out.lt;omega) (by have:=S2.out;omega));have HRR:Hid (Blk w5 (w.heap.size+2) #[.slice none 0 0,.slice none 0 0] 127):=rr;have e2:=rr.cell 0 _ rfl;have e3:=rr.cell 1 _ rfl;have f2:=rr.frozen 0;have f3:=rr.frozen 1;clear ho5 hnd5 hrg5 hb5 hm5 rr)
      | (go_at_call 134;refine (hE _ N mb PL es z _ c.1 HCK.out C3.out P3.out HZ1.out HW1.out).mono ?_;rintro e w4 ⟨u4,fp,rfl,ho4,hnd4,hrg4,hb4,hm4⟩;obtain ⟨pu4,cu4,hu4,hcl4,hcm4⟩:=ho4.shape;subst hu4;have HO4:Hid (ORows w4 79 6 (OEx w4 d) (.slice pu4 (c.1.map (mapX (fT ft) d)).length cu4) (c.1.map (mapX (fT ft) d)) fp):=ho4;have ND4:Hid (fp.Nodup∧∀ a ∈ fp,W3.heap.size≤a∧a<w4.heap.size):=⟨hnd4,hrg4⟩;have M4:Hid (OffB mb W3.heap.size W3 w4):=⟨hb4.os,hb4.tape,hb4.output,hb4.size,hb4.block⟩;have K4:Hid (OffB mb (w.heap.size+2) W3 w4):=M4.out.mono (by have h2:=S3.out;have h3:=S2.out;omega);have C4:Hid (Ctx Cap w4 N mb PL es z):=C3.out.off HCK.out hb4 C3.out.le hm4 (Nat.le_refl _);have R4:Hid (Rows w4 PL 6 (HEx w4 PL d) (.slice p2 n2 c2) c.2):=(by have ho:OffB mb w.heap.size w w4:=(OffB.of_below B3.out).trans (M4.out.mono (by have h2:=S3.out;omega));exact HB.out.mono (HC.out.same ho HC.out.le) (fun _ h=>h) (fun _ _ _ h=>h.mono (HC.out.same ho HC.out.le) (fun _ h=>h)));clear ho4 hnd4 hrg4 hb4 hm4))
  go_split_ands
  go_wp2_with fail
  have l1:(c.1.map (mapX (fT ft) d)).length=c.1.length:=List.length_map _
  have l2:(c.2.map (mapX (fT ft) d)).length=c.2.length:=List.length_map _
  have H4:=HO4.out
  have H5:=HO5.out
  rw [l1] at H4
  rw [l2] at H5
  obtain ⟨W6,hW6⟩:∃ W6,W6=(w5.setCell ⟨w.heap.size+2,0,none⟩ (.slice pu4 c.1.length cu4)).setCell ⟨w.heap.size+2,1,none⟩ (.slice pu5 c.2.length cu5):=⟨_,rfl⟩
  have bz:Blk W6 (w.heap.size+2) #[.slice pu4 c.1.length cu4,.slice pu5 c.2.length cu5] 127:=by rw [hW6];exact (HRR.out.same rfl).same rfl
  have o6:∀ a,a≠w.heap.size+2→W6.heap[a]?=w5.heap[a]?:=fun a ha=>by rw [hW6,Below.heap_setCell _ _ _ _ ha,Below.heap_setCell _ _ _ _ ha]
  have K6:OffB mb (w.heap.size+2) W3 W6:=by rw [hW6];exact (K5.out.setCell (Nat.le_refl _) _).setCell (Nat.le_refl _) _
  have s6:W6.heap.size=w5.heap.size:=by rw [hW6];simp [World.setCell]
  have g1:=S3.out
  have g2:=M4.out.size
  have g3:=L5.out.size
  have j0:=bz.cell 0 _ rfl
  have j1:=bz.cell 1 _ rfl
  have o4:ORows W6 79 6 (OEx W6 d) (.slice pu4 c.1.length cu4) (c.1.map (mapX (fT ft) d)) fp:=by
    have kk:KeepOn fp w4 W6:=fun a ha=>by
      have h:=ND4.out.2 a ha
      exact (o6 a (by omega)).trans (L5.out.block a h.2 (by omega))
    exact H4.keep kk (fun cs x f _ hs h=>h.keep (kk.sub hs))
  have o5:ORows W6 79 6 (OEx W6 d) (.slice pu5 c.2.length cu5) (c.2.map (mapX (fT ft) d)) fq:=by
    have kk:KeepOn fq w5 W6:=fun a ha=>by
      have h:=ND5.out.2 a ha
      exact o6 a (by omega)
    exact H5.keep kk (fun cs x f _ hs h=>h.keep (kk.sub hs))
  have nd:(fp ++ fq).Nodup:=by
    rw [List.nodup_append]
    refine ⟨ND4.out.1,ND5.out.1,fun a ha b hb=>?_⟩
    have h:=ND4.out.2 a ha
    have h':=ND5.out.2 b hb
    omega
  have rg:∀ a ∈ fp ++ fq,w.heap.size≤a∧a<W6.heap.size:=fun a ha=>by
    rcases List.mem_append.1 ha with ha | ha
    · have h:=ND4.out.2 a ha;omega
    · have h:=ND5.out.2 a ha;omega
  have of:OffB mb w.heap.size w W6:=(OffB.of_below B3.out).trans (K6.mono (by omega))
  have ms:MapSt W6 mb es:=MS5.out.keep (o6 mb (by omega))
  have fin:ResM w mb es (fun w' u fp=>∃ cs',u=.agg cs'.toArray∧OCl w' (OEx w' d) cs' (mapC (fT ft) d c) fp) (.returned (.agg #[.slice pu4 c.1.length cu4,.slice pu5 c.2.length cu5])) W6:=⟨_,fp ++ fq,rfl,⟨[.slice pu4 c.1.length cu4,.slice pu5 c.2.length cu5],rfl,⟨_,_,fp,fq,rfl,rfl,o4,o5⟩⟩,nd,rg,of,ms⟩
  rw [hW6] at fin j0 j1
  exact bodyPost_ret (v:=.agg #[.slice pu4 c.1.length cu4,.slice pu5 c.2.length cu5]) (by simp [results,Tryz.results101,go_sem,j0,j1]) rfl fin
theorem eachCl_of {F:FuncId} {cp:List Value} {ft:Int→ByteArray→ByteArray→Nat→ByteArray} {Cap:World→Prop} {d:Nat} (hE:ClR F cp ft Cap d):ClsR F cp ft Cap d:=by
  intro w N mb PL es z v cl hC hc hr hz hw
  have HCK:Hid (CapK Cap N mb):=hC
  have HC:Hid (Ctx Cap w N mb PL es z):=hc
  have HR:Hid (Rows w PL 2 (HCl w PL (HEx w PL d)) v cl):=hr
  have HZ:Hid (SizeOf.sizeOf cl≤z):=hz
  have HWT:Hid (wtS (wtCl (wtEx d)) cl≤1048576):=hw
  obtain ⟨p,cap,rfl,hcl,hcm,hx⟩:=hr
  have hnb:cl.length≤1048576:=by unfold wtS at hw;omega
  clear hC hc hz hw hx
  unfold RV
  cases p with
  | none =>
    obtain rfl:=rows_nil_of_none HR.out
    go_enter Tryz.func100,Tryz.ntmps100
    go_wp2_with fail
    refine (blankClause_nil _ _).mono ?_
    rintro e w2 ⟨rfl,rfl⟩
    go_wp2_with fail
    refine (fillClause_nil _ _ _ _ _ _).mono ?_
    rintro e w3 ⟨rfl,rfl⟩
    go_wp2_with fail
    go_ret
    exact ⟨_,[],rfl,orows_nil none 0 (Nat.zero_le _),by simp,by simp,OffB.refl _ _ _,HC.out.mp⟩
  | some a =>
    generalize hn:cl.length=n at *
    have HN:Hid (cl.length=n):=hn
    clear hn
    go_enter Tryz.func100,Tryz.ntmps100
    go_wp2_with fail
    refine (blankClause_some _ a n cap hnb).mono ?_
    rintro e w2 ⟨rfl,M,hM,hw2⟩
    have K2:Hid (Below w.heap.size w w2):=by show Below _ _ _;rw [hw2];exact (Below.refl _ _).alloc (Nat.le_refl _) _
    have HM0:Hid (MadeB mb w w2 w.heap.size n 127 2 (fun w=>OCl w (OEx w d)) (cl.map (mapC (fT ft) d)) 0 M.toList []):=by
      show MadeB _ _ _ _ _ _ _ _ _ _ _ _
      rw [hw2]
      exact MadeB.start hM (by unfold maxLen;omega) HC.out.mlt
    have C2:Hid (Ctx Cap w2 N mb PL es z):=HC.out.next HCK.out K2.out (Nat.le_refl _)
    have R2:Hid (Rows w2 PL 2 (HCl w2 PL (HEx w2 PL d)) (.slice (some a) n cap) cl):=HR.out.mono (SameOn.of_below K2.out) (fun _ h=>h) (fun _ _ _ h=>h.mono (SameOn.of_below K2.out) (fun _ h=>h) (fun _ _ h=>h.mono (SameOn.of_below K2.out) (fun _ h=>h)))
    have CFL:=fillClause_of hE w w2 w.heap.size n N mb PL es z (.slice (some a) n cap) cl M.toList HCK.out HM0.out C2.out R2.out HN.out (fun x hx=>by have:=size_memC hx;have:=HZ.out;omega) HWT.out HC.out.le
    unfold RV at CFL
    have HCF:Hid (Calls Tryz.prog 133 #[.slice (some ⟨w.heap.size,0,none⟩) n n,.slice (some a) n cap,.func (.func 101) #[.agg #[.func (.func F) #[] cp.toArray,.map (some mb)]] #[]] w2 fun e w'=>e=.returned (.tuple #[])∧(∃ ys fps,MadeB mb w w' w.heap.size n 127 2 (fun w=>OCl w (OEx w d)) (cl.map (mapC (fT ft) d)) n ys fps)∧MapSt w' mb es∧Off [mb,w.heap.size] w2 w'):=CFL
    clear CFL hw2 hM
    go_wp2_with fail
    refine HCF.out.mono ?_
    rintro e w3 ⟨rfl,⟨ys,fps,hM3⟩,hm3,hof3⟩
    obtain ⟨fp,r1,r2,r3⟩:=hM3.done (show (cl.map (mapC (fT ft) d)).length=n by rw [List.length_map];exact HN.out) (by unfold maxLen;omega)
    have R1:Hid (ORows w3 127 2 (OCl w3 (OEx w3 d)) (.slice (some ⟨w.heap.size,0,none⟩) n n) (cl.map (mapC (fT ft) d)) fp):=r1
    have RR:Hid (fp.Nodup∧∀ a ∈ fp,w.heap.size≤a∧a<w3.heap.size):=⟨r2,r3⟩
    have O3:Hid (OffB mb w.heap.size w w3):=hM3.off
    have M3:Hid (MapSt w3 mb es):=hm3
    clear hM3 hm3 hof3 r1 r2 r3
    go_wp2_with fail
    go_ret
    exact ⟨_,fp,rfl,R1.out,RR.out.1,RR.out.2,O3.out,M3.out⟩
def ChgR (F:FuncId) (cp:List Value) (ft:Int→ByteArray→ByteArray→Nat→ByteArray) (Cap:World→Prop):Prop:=(∀ args w,Sem.run Tryz.prog (callFunc F args) w=.ok (.enter F args) w)∧∀ (w:World) (k n:Int) (t m:ByteArray) (p1 p2:Option Addr) (n1 q1 n2 q2:Nat),Cap w→n1≤maxLen →
  Calls Tryz.prog F (Value.agg #[.int .i64 k,.int .i64 n,.string t,.string m,.slice p1 n1 q1,.slice p2 n2 q2] :: cp).toArray w fun e w'=>e=.returned (.agg #[.int .i64 k,.int .i64 n,.string (ft k t m n1),.string m,.slice p1 n1 q1,.slice p2 n2 q2])∧Below w.heap.size w w'
theorem exp_of {F:FuncId} {cp:List Value} {ft:Int→ByteArray→ByteArray→Nat→ByteArray} {Cap:World→Prop} {d:Nat} (hE:ExpsR F cp ft Cap d) (hCl:ClsR F cp ft Cap d) (hCh:ChgR F cp ft Cap) (hok:∀ k t m n,okS t→okS (ft k t m n)):ExpR F cp ft Cap (d+1):=by
  intro w N mb PL es z cs x hC hc hr hz hw
  have HCK:Hid (CapK Cap N mb):=hC
  have HC:Hid (Ctx Cap w N mb PL es z):=hc
  obtain ⟨kv,cv,rfl,o1,o2,o3,o4,hk,hcl⟩:=hr
  obtain ⟨k0,n0,t0,m0,ks,cls⟩:=x
  simp only [Ex.kind,Ex.n,Ex.text,Ex.mod,Ex.kids,Ex.clauses] at *
  have hw':wtEx (d+1) (.mk k0 n0 t0 m0 ks cls)=t0.size+m0.size+wtS (wtEx d) ks+wtS (wtCl (wtEx d)) cls:=rfl
  have HOK:Hid (okI k0∧okI n0∧okS t0∧okS m0):=⟨o1,o2,o3,o4⟩
  have HKS:Hid (Rows w PL 6 (HEx w PL d) kv ks):=hk
  have HCS:Hid (Rows w PL 2 (HCl w PL (HEx w PL d)) cv cls):=hcl
  have HZ1:Hid (SizeOf.sizeOf ks≤z):=by show _≤_;have:=size_kids (.mk k0 n0 t0 m0 ks cls);simp only [Ex.kids] at this;omega
  have HZ2:Hid (SizeOf.sizeOf cls≤z):=by show _≤_;have:=size_clauses (.mk k0 n0 t0 m0 ks cls);simp only [Ex.clauses] at this;omega
  have HW1:Hid (wtS (wtEx d) ks≤1048576):=by show _≤_;omega
  have HW2:Hid (wtS (wtCl (wtEx d)) cls≤1048576):=by show _≤_;omega
  have HOF:Hid (∀ k t m n,okS t→okS (ft k t m n)):=hok
  obtain ⟨p1,c1,rfl,hl1,hm1,-⟩:=hk
  obtain ⟨p2,c2,rfl,hl2,hm2,-⟩:=hcl
  have HN1:Hid (ks.length≤maxLen):=Nat.le_trans hl1 hm1
  generalize hn1:ks.length=n1 at *
  generalize hn2:cls.length=n2 at *
  have HL1:Hid (ks.length=n1):=hn1
  have HL2:Hid (cls.length=n2):=hn2
  obtain ⟨W3,hW3⟩:∃ W3,W3=((w.alloc (.cells #[.func (.func F) #[] cp.toArray,.map (some mb)] 74)).alloc (.cells #[.int .i64 k0,.int .i64 n0,.string t0,.string m0,.slice p1 n1 c1,.slice p2 n2 c2] 79)).alloc (.cells #[.int .i64 0,.int .i64 0,.string ⟨#[]⟩,.string ⟨#[]⟩,.slice none 0 0,.slice none 0 0] 79):=⟨_,rfl⟩
  have HW3:Hid (W3=((w.alloc (.cells #[.func (.func F) #[] cp.toArray,.map (some mb)] 74)).alloc (.cells #[.int .i64 k0,.int .i64 n0,.string t0,.string m0,.slice p1 n1 c1,.slice p2 n2 c2] 79)).alloc (.cells #[.int .i64 0,.int .i64 0,.string ⟨#[]⟩,.string ⟨#[]⟩,.slice none 0 0,.slice none 0 0] 79)):=hW3
  have B3:Hid (Below w.heap.size w W3):=by show Below _ _ _;rw [hW3];exact (((Below.refl _ _).alloc (Nat.le_refl _) _).alloc (by simp) _).alloc (by simp only [alloc_hs];omega) _
  have b3:Hid (Blk W3 w.heap.size #[.func (.func F) #[] cp.toArray,.map (some mb)] 74):=by show Blk _ _ _ _;rw [hW3];exact Blk.new.alloc.alloc
  have e3:Hid (Blk W3 (w.heap.size+1) #[.int .i64 k0,.int .i64 n0,.string t0,.string m0,.slice p1 n1 c1,.slice p2 n2 c2] 79):=by
    have:=Blk.new (w:=w.alloc (.cells #[.func (.func F) #[] cp.toArray,.map (some mb)] 74)) (cs:=#[.int .i64 k0,.int .i64 n0,.string t0,.string m0,.slice p1 n1 c1,.slice p2 n2 c2]) (t:=79)
    rw [alloc_hs] at this
    show Blk _ _ _ _;rw [hW3];exact this.alloc
  have r3:Hid (Blk W3 (w.heap.size+2) #[.int .i64 0,.int .i64 0,.string ⟨#[]⟩,.string ⟨#[]⟩,.slice none 0 0,.slice none 0 0] 79):=by
    have:=Blk.new (w:=(w.alloc (.cells #[.func (.func F) #[] cp.toArray,.map (some mb)] 74)).alloc (.cells #[.int .i64 k0,.int .i64 n0,.string t0,.string m0,.slice p1 n1 c1,.slice p2 n2 c2] 79)) (cs:=#[.int .i64 0,.int .i64 0,.string ⟨#[]⟩,.string ⟨#[]⟩,.slice none 0 0,.slice none 0 0]) (t:=79)
    rw [alloc_hs,alloc_hs] at this
    show Blk _ _ _ _;rw [hW3];exact this
  have S3:Hid (W3.heap.size=w.heap.size+3):=by show _=_;rw [hW3,alloc_hs,alloc_hs,alloc_hs]
  have C3:Hid (Ctx Cap W3 N mb PL es z):=HC.out.next HCK.out B3.out (Nat.le_refl _)
  have P3:Hid (Rows W3 PL 6 (HEx W3 PL d) (.slice p1 n1 c1) ks):=HKS.out.mono (SameOn.of_below B3.out) (fun _ h=>h) (fun _ _ _ h=>h.mono (SameOn.of_below B3.out) (fun _ h=>h))
  have hml:=HC.out.mlt
  have hmN:=HC.out.lt
  have hNw:=HC.out.le
  unfold ExpsR RV at hE
  unfold ClsR RV at hCl
  unfold ChgR at hCh
  obtain ⟨hEN,hCh⟩:=hCh
  unfold RV
  have y0:=b3.out.cell 0 _ rfl
  have y1:=b3.out.cell 1 _ rfl
  have x0:=e3.out.cell 0 _ rfl
  have x1:=e3.out.cell 1 _ rfl
  have x2:=e3.out.cell 2 _ rfl
  have x3:=e3.out.cell 3 _ rfl
  have x4:=e3.out.cell 4 _ rfl
  have x5:=e3.out.cell 5 _ rfl
  clear hW3 hC hc hz hw hw' hn1 hn2 o1 o2 o3 o4 hok
  go_enter Tryz.func157,Tryz.ntmps157
  go_wp2_with fail
  rw [← HW3.out]
  refine (hE _ N mb PL es z _ ks HCK.out C3.out P3.out HZ1.out HW1.out).mono ?_
  rintro e w4 ⟨u4,fp,rfl,ho4,hnd4,hrg4,hb4,hmm4⟩
  obtain ⟨pu4,cu4,hu4,hcl4,hcm4⟩:=ho4.shape
  rw [List.length_map,HL1.out] at hu4
  subst hu4
  have HO4:Hid (ORows w4 79 6 (OEx w4 d) (.slice pu4 n1 cu4) (ks.map (mapX (fT ft) d)) fp):=ho4
  have ND4:Hid (fp.Nodup∧∀ a ∈ fp,W3.heap.size≤a∧a<w4.heap.size):=⟨hnd4,hrg4⟩
  have K4:Hid (OffB mb W3.heap.size W3 w4):=hb4
  have g3:=S3.out
  have g4:=hb4.size
  have MS4:Hid (MapSt w4 mb es):=hmm4
  have b4:Hid (Blk w4 w.heap.size #[.func (.func F) #[] cp.toArray,.map (some mb)] 74):=hb4.blk b3.out b3.out.lt (by omega)
  have e4:Hid (Blk w4 (w.heap.size+1) #[.int .i64 k0,.int .i64 n0,.string t0,.string m0,.slice p1 n1 c1,.slice p2 n2 c2] 79):=hb4.blk e3.out e3.out.lt (by omega)
  have r4:Hid (Blk w4 (w.heap.size+2) #[.int .i64 0,.int .i64 0,.string ⟨#[]⟩,.string ⟨#[]⟩,.slice none 0 0,.slice none 0 0] 79):=hb4.blk r3.out r3.out.lt (by omega)
  have ff:=e4.out.frozen 4
  have v0:=e4.out.cell 0 _ rfl
  have v1:=e4.out.cell 1 _ rfl
  have v2:=e4.out.cell 2 _ rfl
  have v3:=e4.out.cell 3 _ rfl
  have v4:=e4.out.cell 4 _ rfl
  have v5:=e4.out.cell 5 _ rfl
  have s0:=b4.out.cell 0 _ rfl
  have s1:=b4.out.cell 1 _ rfl
  clear ho4 hnd4 hrg4 hb4 hmm4 hcl4 hcm4 y0 y1 x0 x1 x2 x3 x4 x5
  go_wp2_with fail
  obtain ⟨V4,hV4⟩:∃ V4,V4=w4.setCell ⟨w.heap.size+1,4,none⟩ (.slice pu4 n1 cu4):=⟨_,rfl⟩
  rw [← hV4]
  have OV4:Hid (OffB mb (w.heap.size+1) w4 V4):=by show OffB _ _ _ _;rw [hV4];exact (OffB.refl _ _ _).setCell (by show _≤w.heap.size+1;exact Nat.le_refl _) _
  have q4:∀ a,a≠w.heap.size+1→V4.heap[a]?=w4.heap[a]?:=fun a ha=>by rw [hV4];exact Below.heap_setCell _ _ _ _ ha
  have Q4:Hid (∀ a,a≠w.heap.size+1→V4.heap[a]?=w4.heap[a]?):=q4
  have sV4:V4.heap.size=w4.heap.size:=by rw [hV4];simp [World.setCell]
  have E4:Hid (Blk V4 (w.heap.size+1) #[.int .i64 k0,.int .i64 n0,.string t0,.string m0,.slice pu4 n1 cu4,.slice p2 n2 c2] 79):=by show Blk _ _ _ _;rw [hV4];exact e4.out.same rfl
  have B4:Hid (Blk V4 w.heap.size #[.func (.func F) #[] cp.toArray,.map (some mb)] 74):=(q4 _ (by omega)).trans b4.out
  have R4:Hid (Blk V4 (w.heap.size+2) #[.int .i64 0,.int .i64 0,.string ⟨#[]⟩,.string ⟨#[]⟩,.slice none 0 0,.slice none 0 0] 79):=(q4 _ (by omega)).trans r4.out
  have O4:Hid (OffB mb w.heap.size w V4):=(OffB.of_below B3.out).trans ((K4.out.mono (by omega)).trans (OV4.out.mono (by omega)))
  have C4:Hid (Ctx Cap V4 N mb PL es z):=HC.out.off HCK.out O4.out HC.out.le (MS4.out.keep (q4 mb (by omega))) (Nat.le_refl _)
  have T4:Hid (Rows V4 PL 2 (HCl V4 PL (HEx V4 PL d)) (.slice p2 n2 c2) cls):=HCS.out.mono (HC.out.same O4.out HC.out.le) (fun _ h=>h) (fun _ _ _ h=>h.mono (HC.out.same O4.out HC.out.le) (fun _ h=>h) (fun _ _ h=>h.mono (HC.out.same O4.out HC.out.le) (fun _ h=>h)))
  clear hV4 q4 v0 v1 v2 v3 v4 v5 s0 s1 ff
  refine (hCl _ N mb PL es z _ cls HCK.out C4.out T4.out HZ2.out HW2.out).mono ?_
  rintro e w5 ⟨u5,fq,rfl,ho5,hnd5,hrg5,hb5,hmm5⟩
  obtain ⟨pu5,cu5,hu5,hcl5,hcm5⟩:=ho5.shape
  rw [List.length_map,HL2.out] at hu5
  subst hu5
  have HO5:Hid (ORows w5 127 2 (OCl w5 (OEx w5 d)) (.slice pu5 n2 cu5) (cls.map (mapC (fT ft) d)) fq):=ho5
  have ND5:Hid (fq.Nodup∧∀ a ∈ fq,w4.heap.size≤a∧a<w5.heap.size):=⟨hnd5,fun a ha=>⟨by have:=(hrg5 a ha).1;omega,(hrg5 a ha).2⟩⟩
  have K5:Hid (OffB mb V4.heap.size V4 w5):=hb5
  have g5:=hb5.size
  have MS5:Hid (MapSt w5 mb es):=hmm5
  have b5:Hid (Blk w5 w.heap.size #[.func (.func F) #[] cp.toArray,.map (some mb)] 74):=hb5.blk B4.out B4.out.lt (by omega)
  have e5:Hid (Blk w5 (w.heap.size+1) #[.int .i64 k0,.int .i64 n0,.string t0,.string m0,.slice pu4 n1 cu4,.slice p2 n2 c2] 79):=hb5.blk E4.out E4.out.lt (by omega)
  have r5:Hid (Blk w5 (w.heap.size+2) #[.int .i64 0,.int .i64 0,.string ⟨#[]⟩,.string ⟨#[]⟩,.slice none 0 0,.slice none 0 0] 79):=hb5.blk R4.out R4.out.lt (by omega)
  obtain ⟨V5,hV5⟩:∃ V5,V5=w5.setCell ⟨w.heap.size+1,5,none⟩ (.slice pu5 n2 cu5):=⟨_,rfl⟩
  have q5:∀ a,a≠w.heap.size+1→V5.heap[a]?=w5.heap[a]?:=fun a ha=>by rw [hV5];exact Below.heap_setCell _ _ _ _ ha
  have OV5:Hid (OffB mb (w.heap.size+1) w5 V5):=by show OffB _ _ _ _;rw [hV5];exact (OffB.refl _ _ _).setCell (by show _≤w.heap.size+1;exact Nat.le_refl _) _
  have sV5:V5.heap.size=w5.heap.size:=by rw [hV5];simp [World.setCell]
  have E5:Hid (Blk V5 (w.heap.size+1) #[.int .i64 k0,.int .i64 n0,.string t0,.string m0,.slice pu4 n1 cu4,.slice pu5 n2 cu5] 79):=by show Blk _ _ _ _;rw [hV5];exact e5.out.same rfl
  have B5:Hid (Blk V5 w.heap.size #[.func (.func F) #[] cp.toArray,.map (some mb)] 74):=(q5 _ (by omega)).trans b5.out
  have R5:Hid (Blk V5 (w.heap.size+2) #[.int .i64 0,.int .i64 0,.string ⟨#[]⟩,.string ⟨#[]⟩,.slice none 0 0,.slice none 0 0] 79):=(q5 _ (by omega)).trans r5.out
  have O5:Hid (OffB mb w.heap.size w V5):=O4.out.trans ((K5.out.mono (by omega)).trans (OV5.out.mono (by omega)))
  have C5:Hid (Cap V5):=HCK.out _ _ (O5.out.mono HC.out.le) HC.out.cap
  have Q5:Hid (∀ a,a≠w.heap.size+1→V5.heap[a]?=w5.heap[a]?):=q5
  have HV5:Hid (V5=w5.setCell ⟨w.heap.size+1,5,none⟩ (.slice pu5 n2 cu5)):=hV5
  have ff:=e5.out.frozen 5
  have v0:=e5.out.cell 0 _ rfl
  have v1:=e5.out.cell 1 _ rfl
  have v2:=e5.out.cell 2 _ rfl
  have v3:=e5.out.cell 3 _ rfl
  have v4:=e5.out.cell 4 _ rfl
  have v5:=e5.out.cell 5 _ rfl
  have s0:=b5.out.cell 0 _ rfl
  have s1:=b5.out.cell 1 _ rfl
  have x0:=E5.out.cell 0 _ rfl
  have x1:=E5.out.cell 1 _ rfl
  have x2:=E5.out.cell 2 _ rfl
  have x3:=E5.out.cell 3 _ rfl
  have x4:=E5.out.cell 4 _ rfl
  have x5:=E5.out.cell 5 _ rfl
  have y0:=B5.out.cell 0 _ rfl
  have y1:=B5.out.cell 1 _ rfl
  clear ho5 hnd5 hrg5 hb5 hmm5 hcl5 hcm5 hV5 q5
  go_wp2_with (rw [← HV5.out])
  refine (hCh V5 k0 n0 t0 m0 _ _ n1 _ n2 _ C5.out HN1.out).mono ?_
  rintro e w6 ⟨rfl,hb6⟩
  have K6:Hid (Below V5.heap.size V5 w6):=hb6
  have g6:=hb6.size
  have r6:Hid (Blk w6 (w.heap.size+2) #[.int .i64 0,.int .i64 0,.string ⟨#[]⟩,.string ⟨#[]⟩,.slice none 0 0,.slice none 0 0] 79):=R5.out.next hb6
  have c0:=r6.out.cell 0 _ rfl
  have c1:=r6.out.cell 1 _ rfl
  have c2:=r6.out.cell 2 _ rfl
  have c3:=r6.out.cell 3 _ rfl
  have c4:=r6.out.cell 4 _ rfl
  have c5:=r6.out.cell 5 _ rfl
  have f0:=r6.out.frozen 0
  have f1:=r6.out.frozen 1
  have f2:=r6.out.frozen 2
  have f3:=r6.out.frozen 3
  have f4:=r6.out.frozen 4
  have f5:=r6.out.frozen 5
  clear hb6 v0 v1 v2 v3 v4 v5 s0 s1 x0 x1 x2 x3 x4 x5 y0 y1 ff
  go_wp2_with fail
  obtain ⟨W7,hW7⟩:∃ W7,W7=(((((w6.setCell ⟨w.heap.size+2,0,none⟩ (.int .i64 k0)).setCell ⟨w.heap.size+2,1,none⟩ (.int .i64 n0)).setCell ⟨w.heap.size+2,2,none⟩ (.string (ft k0 t0 m0 n1))).setCell ⟨w.heap.size+2,3,none⟩ (.string m0)).setCell ⟨w.heap.size+2,4,none⟩ (.slice pu4 n1 cu4)).setCell ⟨w.heap.size+2,5,none⟩ (.slice pu5 n2 cu5):=⟨_,rfl⟩
  have bz:Blk W7 (w.heap.size+2) #[.int .i64 k0,.int .i64 n0,.string (ft k0 t0 m0 n1),.string m0,.slice pu4 n1 cu4,.slice pu5 n2 cu5] 79:=by rw [hW7];exact (((((r6.out.same rfl).same rfl).same rfl).same rfl).same rfl).same rfl
  have o7:∀ a,a≠w.heap.size+2→W7.heap[a]?=w6.heap[a]?:=fun a ha=>by rw [hW7,Below.heap_setCell _ _ _ _ ha,Below.heap_setCell _ _ _ _ ha,Below.heap_setCell _ _ _ _ ha,Below.heap_setCell _ _ _ _ ha,Below.heap_setCell _ _ _ _ ha,Below.heap_setCell _ _ _ _ ha]
  have K7:Below 0 w6 W7:=by rw [hW7];exact ((((((Below.refl 0 w6).setCell (Nat.zero_le _) _).setCell (Nat.zero_le _) _).setCell (Nat.zero_le _) _).setCell (Nat.zero_le _) _).setCell (Nat.zero_le _) _).setCell (Nat.zero_le _) _
  have s7:W7.heap.size=w6.heap.size:=by rw [hW7];simp [World.setCell]
  have j0:=bz.cell 0 _ rfl
  have j1:=bz.cell 1 _ rfl
  have j2:=bz.cell 2 _ rfl
  have j3:=bz.cell 3 _ rfl
  have j4:=bz.cell 4 _ rfl
  have j5:=bz.cell 5 _ rfl
  have way:∀ a,W3.heap.size≤a→a<w5.heap.size→W7.heap[a]?=w5.heap[a]?:=fun a h1 h2=>(o7 a (by omega)).trans ((K6.out.block a (by omega)).trans (Q5.out a (by omega)))
  have o4:ORows W7 79 6 (OEx W7 d) (.slice pu4 n1 cu4) (ks.map (mapX (fT ft) d)) fp:=by
    have kk:KeepOn fp w4 W7:=fun a ha=>by
      have h:=ND4.out.2 a ha
      exact (way a h.1 (by omega)).trans ((K5.out.block a (by omega) (by omega)).trans (Q4.out a (by omega)))
    exact HO4.out.keep kk (fun cs x f _ hs h=>h.keep (kk.sub hs))
  have o5:ORows W7 127 2 (OCl W7 (OEx W7 d)) (.slice pu5 n2 cu5) (cls.map (mapC (fT ft) d)) fq:=by
    have kk:KeepOn fq w5 W7:=fun a ha=>by
      have h:=ND5.out.2 a ha
      exact way a (by omega) h.2
    exact HO5.out.keep kk (fun cs x f _ hs h=>OCls.keep h (kk.sub hs))
  have nd:(fp ++ fq).Nodup:=by
    rw [List.nodup_append]
    refine ⟨ND4.out.1,ND5.out.1,fun a ha b hb=>?_⟩
    have h:=ND4.out.2 a ha
    have h':=ND5.out.2 b hb
    omega
  have rg:∀ a ∈ fp ++ fq,w.heap.size≤a∧a<W7.heap.size:=fun a ha=>by
    rcases List.mem_append.1 ha with ha | ha
    · have h:=ND4.out.2 a ha;omega
    · have h:=ND5.out.2 a ha;omega
  have of:OffB mb w.heap.size w W7:=O5.out.trans ⟨K7.os.trans K6.out.os,K7.tape.trans K6.out.tape,K7.output.trans K6.out.output,by omega,fun a h1 h2=>(o7 a (by omega)).trans (K6.out.block a (by omega))⟩
  have ms:MapSt W7 mb es:=(MS5.out.keep (Q5.out mb (by omega))).keep ((o7 mb (by omega)).trans (K6.out.block mb (by omega)))
  have hk:=HOK.out
  have hl1:=HL1.out
  have fin:ResM w mb es (fun w' u fp=>∃ cs',u=.agg cs'.toArray∧OEx w' (d+1) cs' (mapX (fT ft) (d+1) (.mk k0 n0 t0 m0 ks cls)) fp) (.returned (.agg #[.int .i64 k0,.int .i64 n0,.string (ft k0 t0 m0 n1),.string m0,.slice pu4 n1 cu4,.slice pu5 n2 cu5])) W7:=by
    refine ⟨_,fp ++ fq,rfl,⟨[.int .i64 k0,.int .i64 n0,.string (ft k0 t0 m0 n1),.string m0,.slice pu4 n1 cu4,.slice pu5 n2 cu5],rfl,?_⟩,nd,rg,of,ms⟩
    have hx:mapX (fT ft) (d+1) (.mk k0 n0 t0 m0 ks cls)=.mk k0 n0 (ft k0 t0 m0 n1) m0 (ks.map (mapX (fT ft) d)) (cls.map (mapC (fT ft) d)):=by
      show fT _ (Ex.mk k0 n0 t0 m0 (ks.map (mapX (fT ft) d)) (cls.map (mapC (fT ft) d)))=_
      simp only [fT,Ex.kind,Ex.n,Ex.text,Ex.mod,Ex.kids,Ex.clauses,List.length_map,hl1]
    rw [hx]
    exact ⟨_,_,fp,fq,rfl,rfl,hk.1,hk.2.1,HOF.out k0 t0 m0 n1 hk.2.2.1,hk.2.2.2,o4,o5⟩
  rw [hW7] at fin j0 j1 j2 j3 j4 j5
  exact bodyPost_ret (v:=.agg #[.int .i64 k0,.int .i64 n0,.string (ft k0 t0 m0 n1),.string m0,.slice pu4 n1 cu4,.slice pu5 n2 cu5]) (by simp [results,Tryz.results157,go_sem,j0,j1,j2,j3,j4,j5]) rfl fin
theorem all {F:FuncId} {cp:List Value} {ft:Int→ByteArray→ByteArray→Nat→ByteArray} {Cap:World→Prop} (hCh:ChgR F cp ft Cap) (hok:∀ k t m n,okS t→okS (ft k t m n)):∀ d,ExpR F cp ft Cap d
  | 0=>fun w N mb PL es z cs x _ _ h _ _=>h.elim
  | d+1=>exp_of (exps_of (all hCh hok d)) (eachCl_of (clause_of (exps_of (all hCh hok d)))) hCh hok
theorem clause {F:FuncId} {cp:List Value} {ft:Int→ByteArray→ByteArray→Nat→ByteArray} {Cap:World→Prop} (hCh:ChgR F cp ft Cap) (hok:∀ k t m n,okS t→okS (ft k t m n)) (d:Nat):ClR F cp ft Cap d:=clause_of (exps_of (all hCh hok d))
theorem clauses {F:FuncId} {cp:List Value} {ft:Int→ByteArray→ByteArray→Nat→ByteArray} {Cap:World→Prop} (hCh:ChgR F cp ft Cap) (hok:∀ k t m n,okS t→okS (ft k t m n)) (d:Nat):ClsR F cp ft Cap d:=eachCl_of (clause hCh hok d)
end RemG
end Go.Proofs.YtefpgpbbgclemaaGreatDoor
