/-
  RfImpl
-/
import Derived.Test.YtdhlonogmnkemaaGreatDoorP26
import Derived.Test.YtdhlonogmnkemaaGreatDoorP32
set_option maxHeartbeats 16000000
set_option linter.unusedVariables false
set_option maxRecDepth 100000
namespace Go.Proofs.YtdhlonogmnkemaaGreatDoor
open Go.ChangeShapes Go.WideShapes Go.ChangeAt Go.RowKit
def ZaT (d:Nat) (ms:List Md) (q:Pl) (to:ByteArray):List Md × Int :=
 if renFCode d ms q to=0 then finM d ms (ms.map (renM d q to)) else (ms,renFCode d ms q to)
theorem ZeQ {d:Nat} {ms:List Md} {q:Pl} {to:ByteArray} (h:renFCode d ms q to=0):Za4 d ms=true/\ms.any (ZcZ q)=true/\Zas to=true/\Za5 ms q.mod to q.arity=false:=by
 unfold renFCode at h
 split at h
 . cases h
 . rename_i h1
   split at h
   . cases h
   . rename_i h2
     split at h
     . cases h
     . rename_i h3
       split at h
       . cases h
       . rename_i h4
         simp only [Bool.not_eq_false,Bool.not_eq_true] at h1 h2 h3 h4;exact ⟨h1,h2,h3,h4⟩
theorem Zka (d N:Nat) (PL:Nat->Prop) (ba bt:Nat) (q:Pl) (to:ByteArray) (hto:okS to) :
 Zf2 48 [.pointer (some ⟨ba,0,none⟩),.pointer (some ⟨bt,0,none⟩)] Zf1 N (CapM N ba bt q to) (λw cs x=>HMd w PL d cs x/\∀ g,PL g->g<N/\ZN w g) (λw=>OMd w d) (renM d q to) (λx=>wtMd d x<=16777216) where
 ent:=enters Tryz.func48 (by kernel_rfl) rfl
 hnext:=λw w' cs x hN hb h=>⟨h.1.mono ⟨hb.size,λg hg _=>hb.block g (h.2 g hg).1⟩ sqj,λg hg=>by
  obtain ⟨h1,c,t,h2⟩:=h.2 g hg
  exact ⟨h1,c,t,(hb.block g h1).trans h2⟩⟩
 cnext:=λ_ _ _ hb h=>h.next hb
 hsh:=λ_ _ x h=>by
  obtain ⟨t,p1,n1,q1,p2,n2,q2,rfl⟩:=HMd.shapeR h.1;exact ⟨_,_,_,_,_,_,_,rfl⟩
 osh:=λ_ _ x _ h=>by
  obtain ⟨t,p1,n1,q1,p2,n2,q2,rfl⟩:=h.shape;exact ⟨_,_,_,_,_,_,_,rfl⟩
 keep:=λ_ _ _ _ _ h hk=>h.keep hk
 call:=λw cs x hN hc hh hw=>ZiU d N w PL ba bt q to cs x hh.1 (λg hg=>⟨Nat.lt_of_lt_of_le (hh.2 g hg).1 hN,(hh.2 g hg).2⟩) hc hw hto
theorem ZdT (d:Nat) (w:World) (v:Value) (ms:List Md) (q:Pl) (to:ByteArray) (fp0:List Nat) (hT:Tabs w) (h:Zg w 63 3 (OMd w d) v ms fp0) (hw:wtS (wtMd d) ms<=lawW) (hst:to.size<=maxLen) :
 Calls Tryz.prog 15 #[v,.agg #[.string q.mod,.string q.name,.int .i64 q.arity,.int .i64 q.clause],.string to] w λe w'=>EdE w d (ZaT d ms q to) e w':=by
 have HTAB:=hid hT;have H0:Hid (∀ w',Below w.heap.size w w'->Zg w' 63 3 (OMd w' d) v ms fp0):=λw' hb=>ZbO h (Zj.below hb (ZaM h));have HW:Hid (wtS (wtMd d) ms<=16777216):=Nat.le_trans hw (Nat.le_trans (by unfold lawW;decide) Zf7);have HW2:Hid (11 * wtS (wtMd d) ms<=16777216):=Nat.le_trans (Nat.mul_le_mul_left _ hw) Zf7;have HST:=hid hst;obtain ⟨p0,c0,rfl,-⟩:=h.shape;obtain ⟨W2,hW2⟩:∃ W2,W2=(w.alloc (.cells #[.string q.mod,.string q.name,.int .i64 q.arity,.int .i64 q.clause] 31)).alloc (.cells #[.string to] 9):=⟨_,rfl⟩;have HW2':=hid hW2;have B2:Hid (Below w.heap.size w W2):=(by show Below _ _ _;rw [hW2];exact ((sqN _ _)).alloc (by simp) _);have q2:Hid (Blk W2 w.heap.size #[.string q.mod,.string q.name,.int .i64 q.arity,.int .i64 q.clause] 31):=(by show Blk _ _ _ _;rw [hW2];exact Blk.new.alloc)
 have t2:Hid (Blk W2 (w.heap.size+1) #[.string to] 9):=by
  have:=Blk.new (w:=w.alloc (.cells #[.string q.mod,.string q.name,.int .i64 q.arity,.int .i64 q.clause] 31)) (cs:=#[.string to]) (t:=9);rw [Zb] at this;show Blk _ _ _ _;rw [hW2];exact this
 have CC:Hid (Calls Tryz.prog 46 #[.slice p0 ms.length c0,.agg #[.string q.mod,.string q.name,.int .i64 q.arity,.int .i64 q.clause],.string to] W2 λe w'=>e=.returned (.int .i64 (renFCode d ms q to))/\Below W2.heap.size W2 w') :=
  ZdR d W2 _ ms q to (HTAB.out.below B2.out) (ZbN (H0.out _ B2.out) (λ_ _=>trivial)) HW.out HST.out
 have HRV:Hid (ZaT d ms q to=if renFCode d ms q to=0 then finM d ms (ms.map (renM d q to)) else (ms,renFCode d ms q to)):=rfl;have HRC:Hid (renFCode d ms q to=0->Za4 d ms=true/\ms.any (ZcZ q)=true/\Zas to=true/\Za5 ms q.mod to q.arity=false):=ZeQ;obtain ⟨y0,y1,y2,y3⟩:=sqB4 q2.out;have z0:=t2.out.cell 0 _ rfl;clear hW2 hT h hw hst;generalize hRR:ZaT d ms q to=RR at *;clear hRR;go_enter Tryz.func15,Tryz.ntmps15;go_wp2_with (rw [<-HW2'.out]);refine CC.out.mono ?_;rintro e w4 ⟨rfl,hb⟩;have B4:Hid (Below w.heap.size w w4):=B2.out.trans (hb.mono B2.out.size);have q4:Hid (Blk w4 w.heap.size #[.string q.mod,.string q.name,.int .i64 q.arity,.int .i64 q.clause] 31):=q2.out.next hb;have t4:Hid (Blk w4 (w.heap.size+1) #[.string to] 9):=t2.out.next hb
 have CP:Hid (Calls Tryz.prog 28 #[.slice p0 ms.length c0] w4 λe w'=>∃ u fp,e=.returned u/\Zg w' 63 3 (OMd w' d) u ms fp/\fp.Nodup/\(∀ a ∈ fp,w4.heap.size<=a/\a<w'.heap.size)/\Below w4.heap.size w4 w') :=
  Zcx d w4 (· ∈ fp0) _ ms (ZbN (H0.out _ B4.out) (λa ha=>ha)) (λg hg=>⟨ZaM (H0.out _ B4.out) g hg,Zbf (H0.out _ B4.out) g hg⟩) HW.out
 clear hb y0 y1 y2 y3 z0 CC;by_cases hz:renFCode d ms q to=0
 . obtain ⟨-,-,hat,-⟩:=HRC.out hz
   have HX:Hid (RR=finM d ms (ms.map (renM d q to))):=(by show _=_;rw [HRV.out,if_pos hz]);have HTEN:Hid (to.size<=10):=Zdr hat;have hto:okS to:=HST.out
   have EC:Hid (Calls Tryz.prog 47 #[.slice p0 ms.length c0,.func (.func 48) #[] #[.pointer (some ⟨w.heap.size,0,none⟩),.pointer (some ⟨w.heap.size+1,0,none⟩)]] w4 λe w'=>∃ u fp,e=.returned u/\Zg w' 63 3 (OMd w' d) u (ms.map (renM d q to)) fp/\fp.Nodup/\(∀ a ∈ fp,w4.heap.size<=a/\a<w'.heap.size)/\Below w4.heap.size w4 w'):=by
    have o4:=H0.out _ B4.out;have hl4:=ZaM o4;have hp4:=Zbf o4;have hr4:Rows w4 (· ∈ fp0) 3 (HMd w4 (· ∈ fp0) d) (.slice p0 ms.length c0) ms:=ZbN o4 (λa ha=>ha);refine ZgX w4 _ ms (Zka d w4.heap.size (· ∈ fp0) w.heap.size (w.heap.size+1) q to hto) ⟨q4.out,t4.out,q4.out.lt,t4.out.lt⟩ (hr4.mono sqS (λ_ _=>trivial) (λcs x _ h=>⟨h,λg hg=>⟨hl4 g hg,hp4 g hg⟩⟩)) ?_ (λx hx=>?_)
    . have:=HW.out;unfold wtS at this;omega
    . obtain ⟨k,hk⟩:=List.mem_iff_getElem?.1 hx
      have:=Zdb (wtMd d) ms k x hk;have:=HW.out;omega
   rw [hz];clear hat hto hz HRC HRV CP;go_wp2_with fail;refine EC.out.mono ?_;rintro e w5 ⟨u,fp,rfl,ho,hnd,hrg,hb⟩;have B5:Hid (Below w.heap.size w w5):=B4.out.trans (hb.mono B4.out.size);obtain ⟨pu,cu,hu,-⟩:=ho.shape;generalize hnu:(ms.map (renM d q to)).length=nu at hu;subst hu
   have FIN:Hid (Calls Tryz.prog 33 #[.slice p0 ms.length c0,.slice pu nu cu] w5 λe w'=>EdE w d RR e w'):=by
    have:=ZgZ d w w5 (.slice p0 ms.length c0) (.slice pu nu cu) ms (ms.map (renM d q to)) fp0 fp (HTAB.out.below B5.out) (H0.out _ B5.out) ho hnd (λa ha=>by have:=(hrg a ha).1;have:=B4.out.size;omega) B5.out HW.out (Nat.le_trans (Zf6 d q to HTEN.out ms) HW2.out);rw [<-HX.out] at this;exact this
   clear ho hnd hrg hb hnu;go_wp2_with fail;refine FIN.out.mono ?_;rintro e w10 ⟨u,fpz,rfl,hz⟩;have HZ:Hid (EdE w d RR (.returned (.tuple #[u,.int .i64 RR.2])) w10):=⟨u,fpz,rfl,hz⟩;obtain ⟨pz,cz,hpz,-⟩:=hz.1.shape;subst hpz;clear hz;go_wp2_with fail;exact bodyPost_ret (v:=.tuple #[_,.int .i64 RR.2]) (by simp [results,Tryz.results15,go_sem]) rfl HZ.out
 . have HX:Hid (RR=(ms,renFCode d ms q to)):=by show _=_;rw [HRV.out,if_neg hz]
   generalize renFCode d ms q to=rc at *;go_wp2_with fail;refine CP.out.mono ?_;rintro e w5 ⟨u,fp,rfl,ho,hnd,hrg,hb⟩;obtain ⟨pu,cu,rfl,-⟩:=ho.shape
   have FIN:Hid (EdE w d RR (.returned (.tuple #[.slice pu ms.length cu,.int .i64 rc])) w5):=by
    show EdE _ _ _ _ _;rw [HX.out];exact ⟨_,fp,rfl,ho,hnd,λa ha=>⟨by have:=(hrg a ha).1;have:=B4.out.size;omega,(hrg a ha).2⟩,B4.out.trans (hb.mono B4.out.size)⟩
   clear ho hnd hrg hb;go_wp2_with fail;exact bodyPost_ret (v:=.tuple #[.slice pu ms.length cu,.int .i64 rc]) (by simp [results,Tryz.results15,go_sem]) rfl FIN.out
end Go.Proofs.YtdhlonogmnkemaaGreatDoor
