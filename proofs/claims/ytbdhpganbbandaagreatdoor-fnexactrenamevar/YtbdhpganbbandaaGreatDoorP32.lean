/-
  CpBase CpU CpMod CpMath
-/
import Derived.Test.YtbdhpganbbandaaGreatDoorP25
import Derived.Test.YtbdhpganbbandaaGreatDoorP07
import Derived.Deep.RegionLaw
import Derived.Test.YtbdhpganbbandaaGreatDoorP19
set_option maxHeartbeats 16000000
set_option linter.unusedVariables false
set_option maxRecDepth 100000
namespace Go.Proofs.YtbdhpganbbandaaGreatDoor
open Go.ChangeShapes Go.WideShapes Go.ChangeAt Go.RowKit
def ResO (w:World) (O:World->Value->List Nat->Prop) (e:Ending) (w':World):Prop :=
 ∃ u fp,e=.returned u/\O w' u fp/\fp.Nodup/\(∀ a ∈ fp,w.heap.size<=a/\a<w'.heap.size)/\Bz w w'
theorem take_map_succ {α β:Type} (f:α->β) {xs:List α} {k:Nat} {x:α} (h:xs[k]?=some x):(xs.take (k+1)).map f=(xs.take k).map f ++ [f x]:=by
 rw [List.take_add_one,h];simp
theorem keepsX (d:Nat):KeepsC (λw=>OEx w d):=λw w' cs x fp h hk=>OEx.keep h hk
theorem keepsC (d:Nat):KeepsC (λw=>OCl w (OEx w d)):=λw w' cs x fp h hk=>OCls.keep h hk
theorem keepsF (d:Nat):KeepsC (λw=>OFn w d):=λw w' cs x fp h hk=>OFn.keep h hk
theorem keepsM (d:Nat):KeepsC (λw=>OMd w d):=λw w' cs x fp h hk=>OMd.keep h hk
theorem infoX:(Tryz.prog.info? 74).map (λi=>(i.zero,i.size,i.bytes))=some (some (.agg #[.int .i64 0,.int .i64 0,.string ⟨#[]⟩,.string ⟨#[]⟩,.slice none 0 0,.slice none 0 0]),6,96):=by kernel_rfl
theorem infoC:(Tryz.prog.info? 44).map (λi=>(i.zero,i.size,i.bytes))=some (some (.agg #[.slice none 0 0,.slice none 0 0]),2,48):=by kernel_rfl
theorem infoF:(Tryz.prog.info? 57).map (λi=>(i.zero,i.size,i.bytes))=some (some (.agg #[.string ⟨#[]⟩,.int .i64 0,.slice none 0 0]),3,48):=by kernel_rfl
theorem infoM:(Tryz.prog.info? 61).map (λi=>(i.zero,i.size,i.bytes))=some (some (.agg #[.string ⟨#[]⟩,.slice none 0 0,.slice none 0 0]),3,64):=by kernel_rfl
theorem oneX {sk sn:Int} {st se:ByteArray} {p1 p2:Option Addr} {n1 q1 n2 q2:Nat}:∀ u ∈ [Value.int .i64 sk,.int .i64 sn,.string st,.string se,.slice p1 n1 q1,.slice p2 n2 q2],u.oneCell'=true:=by simp [Value.oneCell']
theorem oneC {p1 p2:Option Addr} {n1 q1 n2 q2:Nat}:∀ u ∈ [Value.slice p1 n1 q1,.slice p2 n2 q2],u.oneCell'=true:=by simp [Value.oneCell']
theorem oneF {s:ByteArray} {k:Int} {p1:Option Addr} {n1 q1:Nat}:∀ u ∈ [Value.string s,.int .i64 k,.slice p1 n1 q1],u.oneCell'=true:=by simp [Value.oneCell']
theorem oneM {s:ByteArray} {p1 p2:Option Addr} {n1 q1 n2 q2:Nat}:∀ u ∈ [Value.string s,.slice p1 n1 q1,.slice p2 n2 q2],u.oneCell'=true:=by simp [Value.oneCell']
theorem growFresh {α:Type} {e:TypeId} {c:Nat} {O:World->List Value->α->List Nat->Prop} {w W1:World} (h:W1=w.alloc (.cells #[] e)):GrowO e c O W1 w.heap.size W1.heap.size (.slice (some ⟨w.heap.size,0,none⟩) 0 0) []:=by
 rw [h,alloc_hs];exact GrowO.fresh
theorem GrowO.drew {α:Type} {e:TypeId} {c:Nat} {O:World->List Value->α->List Nat->Prop} (hO:KeepsC O) {w:World} {B C:Nat} {v:Value} {xs:List α} (h:GrowO e c O w B C v xs):GrowO e c O w.drew B C v xs:=h.keep hO (sqR _) (λ_ _ _=>rfl)
theorem frozen_nx {w w':World} {a:Addr} {v:Value} (hb:Bz w w') (h:w.cell? a=some v) (hf:w.frozen? a=false):w'.frozen? a=false:=by
 have hl:a.block<w.heap.size:=by
  unfold World.cell? at h
  split at h
  . rename_i heq;exact (Array.getElem?_eq_some_iff.1 heq).1
  . cases h
 exact (World.frozen?_of_block (hb.block a.block hl)).trans hf
theorem below_undrew {N:Nat} {u v:World} (h:Below N u.drew v):Below N u v:=⟨h.os,h.tape,h.output,h.size,h.block⟩
theorem clause_made {w4 w5:World} {d N:Nat} {v4 v5:Value} {xa xb:List Ex} {fp fq:List Nat} (h4:ORows w4 74 6 (OEx w4 d) v4 xa fp) (n4:fp.Nodup/\∀ a ∈ fp,N<=a/\a<w4.heap.size) (h5:ORows w5 74 6 (OEx w5 d) v5 xb fq) (n5:fq.Nodup/\∀ a ∈ fq,w4.heap.size<=a/\a<w5.heap.size) (hb:Bz w4 w5) (hN:N<=w4.heap.size) :
 OCl w5 (OEx w5 d) [v4,v5] (xa,xb) (fp ++ fq)/\(fp ++ fq).Nodup/\∀ a ∈ fp ++ fq,N<=a/\a<w5.heap.size:=by
 have kk:KeepOn fp w4 w5:=λa ha=>hb.block a (n4.2 a ha).2;refine ⟨⟨_,_,fp,fq,rfl,rfl,h4.keep kk (λcs x f _ hs h=>h.keep (kk.sub hs)),h5⟩,?_,λa ha=>?_⟩
 . rw [List.nodup_append]
   refine ⟨n4.1,n5.1,λa ha b hb=>?_⟩;have h:=n4.2 a ha;have h':=n5.2 b hb;omega
 . have:=hb.size
   rcases List.mem_append.1 ha with ha | ha
   . have h:=n4.2 a ha;omega
   . have h:=n5.2 a ha;omega
theorem exp_made {w w4 w5 W6:World} {d N b:Nat} {ft:Int->ByteArray->ByteArray->Nat->ByteArray} {k0 n0:Int} {t0 m0:ByteArray} {v4 v5:Value} {n1:Nat} {ks:List Ex} {cls:List Cl} {fp fq:List Nat} (hok:okI k0/\okI n0/\okS t0/\okS m0) (hft:∀ k t m n,okS t->okS (ft k t m n)) (hN:N<=w4.heap.size) (hwN:w.heap.size<=N) (hB:Bz w w5) (hl:ks.length=n1)
 (h4:ORows w4 74 6 (OEx w4 d) v4 (ks.map (mapX (fT ft) d)) fp) (n4:fp.Nodup/\∀ a ∈ fp,N<=a/\a<w4.heap.size) (h5:ORows w5 44 2 (OCl w5 (OEx w5 d)) v5 (cls.map (mapC (fT ft) d)) fq) (n5:fq.Nodup/\∀ a ∈ fq,w4.heap.size<=a/\a<w5.heap.size) (hb:Bz w4 w5)
 (hbN:w.heap.size<=b/\b<N) (ho:∀ a,a≠b->W6.heap[a]?=w5.heap[a]?) (h0:Below 0 w5 W6) :
 ResO w (λw' u fp=>∃ cs',u=.agg cs'.toArray/\OEx w' (d+1) cs' (mapX (fT ft) (d+1) (.mk k0 n0 t0 m0 ks cls)) fp) (.returned (.agg #[.int .i64 k0,.int .i64 n0,.string (ft k0 t0 m0 n1),.string m0,v4,v5])) W6:=by
 have s1:=hb.size;have s2:=h0.size
 have k4:KeepOn fp w4 W6:=λa ha=>by
  have h:=n4.2 a ha;exact (ho a (by omega)).trans (hb.block a h.2)
 have k5:KeepOn fq w5 W6:=λa ha=>by
  have h:=n5.2 a ha;exact ho a (by omega)
 have e:mapX (fT ft) (d+1) (.mk k0 n0 t0 m0 ks cls)=.mk k0 n0 (ft k0 t0 m0 n1) m0 (ks.map (mapX (fT ft) d)) (cls.map (mapC (fT ft) d)):=by
  show fT ft (.mk k0 n0 t0 m0 (ks.map (mapX (fT ft) d)) (cls.map λc=>(c.1.map (mapX (fT ft) d),c.2.map (mapX (fT ft) d))))=_;unfold fT;simp only [Ex.kind,Ex.n,Ex.text,Ex.mod,Ex.kids,Ex.clauses,List.length_map,hl]
  rfl
 refine ⟨_,fp ++ fq,rfl,⟨[.int .i64 k0,.int .i64 n0,.string (ft k0 t0 m0 n1),.string m0,v4,v5],rfl,?_⟩,?_,λa ha=>?_,⟨h0.os.trans hB.os,h0.tape.trans hB.tape,h0.output.trans hB.output,Nat.le_trans hB.size s2,λa ha=>(ho a (by omega)).trans (hB.block a ha)⟩⟩
 . rw [e]
   exact ⟨_,_,fp,fq,rfl,rfl,hok.1,hok.2.1,hft _ _ _ _ hok.2.2.1,hok.2.2.2,h4.keep k4 (λcs x f _ hs h=>h.keep (k4.sub hs)),h5.keep k5 (λcs x f _ hs h=>OCls.keep h (k5.sub hs))⟩
 . rw [List.nodup_append]
   refine ⟨n4.1,n5.1,λa ha b hb=>?_⟩;have h:=n4.2 a ha;have h':=n5.2 b hb;omega
 . rcases List.mem_append.1 ha with ha | ha
   . have h:=n4.2 a ha;omega
   . have h:=n5.2 a ha;omega
section
open Go.Proofs.Tryz
namespace CpU
def ExpS (d:Nat):Prop:=∀ (w:World) (cs:List Value) (x:Ex),HEx w All d cs x->wtEx d x<=16777216 ->
 Calls prog 130 #[.agg cs.toArray] w (ResO w λw' u fp=>∃ cs',u=.agg cs'.toArray/\OEx w' d cs' (mapX (fT ftU) d x) fp)
def ExpsS (d:Nat):Prop:=∀ (w:World) (v:Value) (xs:List Ex),Rows w All 6 (HEx w All d) v xs->wtS (wtEx d) xs<=16777216 ->
 Calls prog 102 #[v] w (ResO w λw' u fp=>ORows w' 74 6 (OEx w' d) u (xs.map (mapX (fT ftU) d)) fp)
theorem exps_of {d:Nat} (hE:ExpS d):ExpsS d:=by
 intro w v xs hr hw;obtain ⟨p,cap,rfl,hcl,hcm,hx⟩:=hr;have HWT:=hid hw;have hnb:xs.length<=16777216:=(by unfold wtS at hw;omega);generalize hn:xs.length=n at *;have HN:=hid hn;have HX:=hid hx;obtain ⟨W1,hW1⟩:∃ W1,W1=w.alloc (.cells #[] 74):=⟨_,rfl⟩;have HW1:=hid hW1;have G1:Hid (GrowO 74 6 (λw=>OEx w d) W1 w.heap.size W1.heap.size (.slice (some ⟨w.heap.size,0,none⟩) 0 0) ((xs.take 0).map (mapX (fT ftU) d))):=growFresh hW1;have B1:Hid (Bz w W1):=(by show Below _ _ _;rw [hW1];exact (sqN _ _));clear hW1 hx hn hw;go_enter func102,ntmps102;go_wp2_with fail;rw [<-HW1.out]
 go_loopw [3,4] (λov iv wr=>∃ (k:Nat),k<=n/\iv=.int .i64 k/\Hid (GrowO 74 6 (λw=>OEx w d) wr w.heap.size wr.heap.size ov ((xs.take k).map (mapX (fT ftU) d)))/\Hid (Bz w wr)) (λ_ iv _=>n - (intOf iv).toNat)
 case atStart=>exact ⟨0,Nat.zero_le _,rfl,G1.out,B1.out⟩
 case round =>
  obtain ⟨k,hk,rfl,HG,HB⟩:=hrel;by_cases hlt:k<n
  . obtain ⟨x,hxk⟩:=sqA (l:=xs) (k:=k) HN.out hlt
    obtain ⟨g,off,rfl,-,hgl,hat⟩:=HX.out (sqE hxk);obtain ⟨cs,hc6,hcs,hex⟩:=hat k x hxk;have HXR:=hid (hex.mono (sqO HB.out) sqj);obtain ⟨tk,tn,tt,te,r1,m1,s1,r2,m2,s2,rfl⟩:=HEx.shapeR hex;obtain ⟨a0,a1,a2,a3,a4,a5⟩:=sqC6 hcs (by omega);rw [<-HB.out.cell (p:=⟨g,_,none⟩) hgl] at a0 a1 a2 a3 a4 a5;clear hcs hat;simp at a0 a1 a2 a3 a4 a5;have hki:(k:Int)<(n:Int):=(by omega);have hk0:=sqI k
    have HWX:Hid (wtEx d x<=16777216):=by
     show _<=_;have h1:=HWT.out;have h2:=sum_take_succ (wtEx d) xs k x hxk;have h3:=sum_take_le (wtEx d) xs (k+1);unfold wtS at h1;omega
    have HMS:Hid ((xs.take (k+1)).map (mapX (fT ftU) d)=(xs.take k).map (mapX (fT ftU) d) ++ [mapX (fT ftU) d x]):=take_map_succ _ hxk;have hll:((xs.take k).map (mapX (fT ftU) d)).length<=100000000:=(by rw [List.length_map,List.length_take];omega);generalize (xs.take k).map (mapX (fT ftU) d)=acc at *;clear hex hc6;go_wp2_with fail;refine (hE wr _ x HXR.out HWX.out).mono ?_;rintro e w3 ⟨u,fp,rfl,⟨cs',rfl,hx3⟩,hnd,hrg,hb3⟩;obtain ⟨sk,sn,sx,se,p1,n1,q1,p2,n2,q2,hsh⟩:=hx3.shape;subst hsh;have G3:=hid (HG.out.next (keepsX d) hb3);have X3:Hid (OEx w3 d [.int .i64 sk,.int .i64 sn,.string sx,.string se,.slice p1 n1 q1,.slice p2 n2 q2] (mapX (fT ftU) d x) fp/\fp.Nodup/\∀ a ∈ fp,wr.heap.size<=a/\a<w3.heap.size):=⟨hx3,hnd,hrg⟩;have B3:=hid (HB.out.trans (hb3.mono HB.out.size));clear hx3 hnd hrg hb3 a0 a1 a2 a3 a4 a5;go_wp2_with (at_builtin;refine wpList_push (keepsX d) 42 74 6 96 _ rfl _ _ rfl underlying42 infoX rfl (by decide) (by decide) w.heap.size wr.heap.size u3 acc rfl [.int .i64 sk,.int .i64 sn,.string sx,.string se,.slice p1 n1 q1,.slice p2 n2 q2] rfl (mapX (fT ftU) d x) fp G3.out X3.out.1 X3.out.2.1 X3.out.2.2 rfl oneX hll ?_);intro v4 w4 hg4 hb4;have B4:Hid (Bz w w4):=(B3.out.alloc B3.out.size _).trans hb4;rw [<-HMS.out] at hg4;have G4:=hid hg4;clear hg4 hb4;go_wp2_with fail;exact ⟨⟨k+1,by omega,by go_num,G4.out,B4.out⟩,by simp [intOf];omega⟩
  . obtain rfl:k=n:=by omega
    obtain ⟨fp,r1,r2,r3,r4,r5⟩:=HG.out.done;rw [sqT HN.out] at r1;obtain ⟨pu,cu,hu,-⟩:=HG.out.shape;subst hu;have FIN:Hid (ResO w (λw' u fp=>ORows w' 74 6 (OEx w' d) u (xs.map (mapX (fT ftU) d)) fp) (.returned _) wr):=⟨_,fp,rfl,r1,r2,λa ha=>r3 a ha,HB.out⟩;clear r1 r2 r3 r4 r5;go_wp2;go_ret;exact FIN.out
def ClsS (d:Nat):Prop:=∀ (w:World) (v:Value) (xs:List Cl),Rows w All 2 (HCl w All (HEx w All d)) v xs->wtS (wtCl (wtEx d)) xs<=16777216 ->
 Calls prog 71 #[v] w (ResO w λw' u fp=>ORows w' 44 2 (OCl w' (OEx w' d)) u (xs.map (mapC (fT ftU) d)) fp)
theorem clauses_of {d:Nat} (hE:ExpsS d):ClsS d:=by
 intro w v xs hr hw;obtain ⟨p,cap,rfl,hcl,hcm,hx⟩:=hr;have HWT:=hid hw;have hnb:xs.length<=16777216:=(by unfold wtS at hw;omega);generalize hn:xs.length=n at *;have HN:=hid hn;have HX:=hid hx;obtain ⟨W1,hW1⟩:∃ W1,W1=w.alloc (.cells #[] 44):=⟨_,rfl⟩;have HW1:=hid hW1;have G1:Hid (GrowO 44 2 (λw=>OCl w (OEx w d)) W1 w.heap.size W1.heap.size (.slice (some ⟨w.heap.size,0,none⟩) 0 0) ((xs.take 0).map (mapC (fT ftU) d))):=growFresh hW1;have B1:Hid (Bz w W1):=(by show Below _ _ _;rw [hW1];exact (sqN _ _));clear hW1 hx hn hw;go_enter func71,ntmps71;go_wp2_with fail;rw [<-HW1.out]
 go_loopw [3,4] (λov iv wr=>∃ (k:Nat),k<=n/\iv=.int .i64 k/\Hid (GrowO 44 2 (λw=>OCl w (OEx w d)) wr w.heap.size wr.heap.size ov ((xs.take k).map (mapC (fT ftU) d)))/\Hid (Bz w wr)) (λ_ iv _=>n - (intOf iv).toNat)
 case atStart=>exact ⟨0,Nat.zero_le _,rfl,G1.out,B1.out⟩
 case round =>
  obtain ⟨k,hk,rfl,HG,HB⟩:=hrel;by_cases hlt:k<n
  . obtain ⟨x,hxk⟩:=sqA (l:=xs) (k:=k) HN.out hlt
    obtain ⟨g,off,rfl,-,hgl,hat⟩:=HX.out (sqE hxk);obtain ⟨cs,hc6,hcs,hex⟩:=hat k x hxk;obtain ⟨pv,bv,rfl,hp,hb⟩:=hex;have HP:=hid (hp.mono (sqO HB.out.drew) sqj (λ_ _ _ h=>h.mono (sqO HB.out.drew) sqj));have HBo:=hid hb;obtain ⟨a0,a1⟩:=sqC2 hcs (by omega);clear hcs hat;simp only [List.getElem?_cons_zero,List.getElem?_cons_succ,Nat.add_zero] at a0 a1;obtain ⟨r1,s1,rfl,-⟩:=hp;obtain ⟨r2,s2,rfl,-⟩:=hb;generalize x.1.length=m1 at *;generalize x.2.length=m2 at *;have CELLS:Hid (∀ w',Bz w w'->w'.cell? ⟨g,off+k * 2,none⟩=some (.slice r1 m1 s1)/\w'.cell? ⟨g,off+k * 2+1,none⟩=some (.slice r2 m2 s2)):=λw' h=>⟨(h.cell (p:=⟨g,_,none⟩) hgl).trans a0,(h.cell (p:=⟨g,_,none⟩) hgl).trans a1⟩;have hki:(k:Int)<(n:Int):=(by omega);have hk0:=sqI k
    have hwx:wtCl (wtEx d) x<=16777216:=by
     have h1:=HWT.out;have h2:=sum_take_succ (wtCl (wtEx d)) xs k x hxk;have h3:=sum_take_le (wtCl (wtEx d)) xs (k+1);unfold wtS at h1;omega
    have hw':wtCl (wtEx d) x=wtS (wtEx d) x.1+wtS (wtEx d) x.2:=rfl;have HWX1:Hid (wtS (wtEx d) x.1<=16777216):=(by show _<=_;omega);have HWX2:Hid (wtS (wtEx d) x.2<=16777216):=(by show _<=_;omega);have HMS:Hid ((xs.take (k+1)).map (mapC (fT ftU) d)=(xs.take k).map (mapC (fT ftU) d) ++ [mapC (fT ftU) d x]):=take_map_succ _ hxk;have hll:((xs.take k).map (mapC (fT ftU) d)).length<=100000000:=(by rw [List.length_map,List.length_take];omega);generalize (xs.take k).map (mapC (fT ftU) d)=acc at *;clear hc6 hwx hw' a0 a1;obtain ⟨q0,q1⟩:=CELLS.out wr HB.out;go_wp2_with fail
    go_region_held3 (λw'=>w'.cell? ⟨g,off+k * 2,none⟩=some (.slice r1 m1 s1)/\w'.cell? ⟨g,off+k * 2+1,none⟩=some (.slice r2 m2 s2))
     (first | with_reducible exact CELLS.out _ HB.out.drew | with_reducible exact CELLS.out _ B6.out | with_reducible exact CELLS.out _ (B5.out.alloc B5.out.size _) | with_reducible exact CELLS.out _ B5.out | with_reducible exact CELLS.out _ B4.out | go_keep)
     (first
      | (refine step_push (keepsC d) 55 44 2 48 _ (by rfl) _ _ (by rfl) underlying55 infoC rfl (by decide) (by decide) w.heap.size wr.heap.size u3 acc (by rfl) [.slice pu4 lu4 cu4,.slice pu5 lu5 cu5] _ (by rfl) (by rfl) (mapC (fT ftU) d x) (fp ++ fq) G5.out X5.out.1 X5.out.2.1 X5.out.2.2 rfl oneC hll ?_;intro g6 cap6 w6 hg6 hb6;have B6:Hid (Bz w w6):=(B5.out.alloc B5.out.size _).trans hb6;have G6:=hid hg6;clear hg6 hb6)
      | (have _:=B4;go_at_call 102;refine (hE w4 _ x.2 (HBo.out.mono (sqO B4.out) sqj (λ_ _ _ h=>h.mono (sqO B4.out) sqj)) HWX2.out).mono ?_;rintro e w5 ⟨u5,fq,rfl,ho5,hnd5,hrg5,hb5⟩;obtain ⟨pu5,cu5,hu5,-⟩:=ho5.shape;generalize (x.2.map (mapX (fT ftU) d)).length=lu5 at hu5;subst hu5;have B5:=hid (B4.out.trans (hb5.mono B4.out.size));have G5:=hid (G4.out.next (keepsC d) hb5);have X5:=hid (clause_made O4.out ND4.out ho5 ⟨hnd5,hrg5⟩ hb5 N4.out);clear ho5 hnd5 hrg5 hb5)
      | (go_at_call 102;refine (hE _ _ x.1 HP.out HWX1.out).mono ?_;rintro e w4 ⟨u4,fp,rfl,ho4,hnd4,hrg4,hb4⟩;obtain ⟨pu4,cu4,hu4,-⟩:=ho4.shape;generalize (x.1.map (mapX (fT ftU) d)).length=lu4 at hu4;subst hu4;have N4:=hid hb4.size;have B4:=hid (HB.out.trans (below_undrew (hb4.mono HB.out.size)));have G4:Hid (GrowO 44 2 (λw=>OCl w (OEx w d)) w4 w.heap.size wr.heap.size u3 acc):=(HG.out.drew (keepsC d)).next (keepsC d) hb4;have O4:=hid ho4;have ND4:Hid (fp.Nodup/\∀ a ∈ fp,wr.heap.size<=a/\a<w4.heap.size):=⟨hnd4,hrg4⟩;clear ho4 hnd4 hrg4 hb4))
    all_goals
     go_split_ands;have G6':=G6.out;rw [<-HMS.out] at G6';have G7:=hid G6';clear G6' q0 q1;go_wp2_with fail;exact ⟨⟨k+1,by omega,by go_num,G7.out,B6.out⟩,by simp [intOf];omega⟩
  . obtain rfl:k=n:=by omega
    obtain ⟨fp,r1,r2,r3,r4,r5⟩:=HG.out.done;rw [sqT HN.out] at r1;obtain ⟨pu,cu,hu,-⟩:=HG.out.shape;subst hu;have FIN:Hid (ResO w (λw' u fp=>ORows w' 44 2 (OCl w' (OEx w' d)) u (xs.map (mapC (fT ftU) d)) fp) (.returned _) wr):=⟨_,fp,rfl,r1,r2,λa ha=>r3 a ha,HB.out⟩;clear r1 r2 r3 r4 r5;go_wp2;go_ret;exact FIN.out
theorem exp_of {d:Nat} (hE:ExpsS d) (hCl:ClsS d):ExpS (d+1):=by
 intro w cs x hr hw;obtain ⟨kv,cv,rfl,o1,o2,o3,o4,hk,hcl⟩:=hr;obtain ⟨k0,n0,t0,m0,ks,cls⟩:=x;simp only [Ex.kind,Ex.n,Ex.text,Ex.mod,Ex.kids,Ex.clauses] at *;have hw':wtEx (d+1) (.mk k0 n0 t0 m0 ks cls)=t0.size+m0.size+wtS (wtEx d) ks+wtS (wtCl (wtEx d)) cls:=rfl;have HOK:Hid (okI k0/\okI n0/\okS t0/\okS m0):=⟨o1,o2,o3,o4⟩;have HKS:=hid hk;have HCS:=hid hcl;have HW1:Hid (wtS (wtEx d) ks<=16777216):=(by show _<=_;omega);have HW2:Hid (wtS (wtCl (wtEx d)) cls<=16777216):=(by show _<=_;omega);obtain ⟨p1,c1,rfl,-⟩:=hk;obtain ⟨p2,c2,rfl,-⟩:=hcl;generalize hn1:ks.length=n1 at *;generalize hn2:cls.length=n2 at *;have HL1:=hid hn1;have HL2:=hid hn2;obtain ⟨W2,hW2⟩:∃ W2,W2=(w.alloc (.cells #[.int .i64 k0,.int .i64 n0,.string t0,.string m0,.slice p1 n1 c1,.slice p2 n2 c2] 74)).alloc (.cells #[.int .i64 0,.int .i64 0,.string ⟨#[]⟩,.string ⟨#[]⟩,.slice none 0 0,.slice none 0 0] 74):=⟨_,rfl⟩;have HW2':=hid hW2;have B2:Hid (Bz w W2):=(by show Below _ _ _;rw [hW2];exact ((sqN _ _)).alloc (by simp) _);have e2:Hid (Blk W2 w.heap.size #[.int .i64 k0,.int .i64 n0,.string t0,.string m0,.slice p1 n1 c1,.slice p2 n2 c2] 74):=(by show Blk _ _ _ _;rw [hW2];exact Blk.new.alloc)
 have r2:Hid (Blk W2 (w.heap.size+1) #[.int .i64 0,.int .i64 0,.string ⟨#[]⟩,.string ⟨#[]⟩,.slice none 0 0,.slice none 0 0] 74):=by
  have:=Blk.new (w:=w.alloc (.cells #[.int .i64 k0,.int .i64 n0,.string t0,.string m0,.slice p1 n1 c1,.slice p2 n2 c2] 74)) (cs:=#[.int .i64 0,.int .i64 0,.string ⟨#[]⟩,.string ⟨#[]⟩,.slice none 0 0,.slice none 0 0]) (t:=74);rw [alloc_hs] at this;show Blk _ _ _ _;rw [hW2];exact this
 have S2:Hid (W2.heap.size=w.heap.size+2):=(by show _=_;rw [hW2,alloc_hs,alloc_hs]);have P2:=hid (HKS.out.mono (sqO B2.out.drew) sqj (λ_ _ _ h=>h.mono (sqO B2.out.drew) sqj))
 have CELLS:Hid (∀ w',Below (w.heap.size+1) W2 w'->w'.cell? ⟨w.heap.size,0,none⟩=some (.int .i64 k0)/\w'.cell? ⟨w.heap.size,1,none⟩=some (.int .i64 n0)/\w'.cell? ⟨w.heap.size,2,none⟩=some (.string t0)/\w'.cell? ⟨w.heap.size,3,none⟩=some (.string m0)/\w'.cell? ⟨w.heap.size,4,none⟩=some (.slice p1 n1 c1)/\w'.cell? ⟨w.heap.size,5,none⟩=some (.slice p2 n2 c2)):=λw' h=>by
  have e:=e2.out.below h (by omega);exact ⟨e.cell 0 _ rfl,e.cell 1 _ rfl,e.cell 2 _ rfl,e.cell 3 _ rfl,e.cell 4 _ rfl,e.cell 5 _ rfl⟩
 have CELLS6:Hid (∀ w0,Below (w.heap.size+1) W2 w0->∀ a b c e f g,((((((w0.setCell ⟨w.heap.size+1,0,none⟩ a).setCell ⟨w.heap.size+1,1,none⟩ b).setCell ⟨w.heap.size+1,2,none⟩ c).setCell ⟨w.heap.size+1,3,none⟩ e).setCell ⟨w.heap.size+1,4,none⟩ f).setCell ⟨w.heap.size+1,5,none⟩ g).cell? ⟨w.heap.size,0,none⟩=some (.int .i64 k0)/\((((((w0.setCell ⟨w.heap.size+1,0,none⟩ a).setCell ⟨w.heap.size+1,1,none⟩ b).setCell ⟨w.heap.size+1,2,none⟩ c).setCell ⟨w.heap.size+1,3,none⟩ e).setCell ⟨w.heap.size+1,4,none⟩ f).setCell ⟨w.heap.size+1,5,none⟩ g).cell? ⟨w.heap.size,1,none⟩=some (.int .i64 n0)/\((((((w0.setCell ⟨w.heap.size+1,0,none⟩ a).setCell ⟨w.heap.size+1,1,none⟩ b).setCell ⟨w.heap.size+1,2,none⟩ c).setCell ⟨w.heap.size+1,3,none⟩ e).setCell ⟨w.heap.size+1,4,none⟩ f).setCell ⟨w.heap.size+1,5,none⟩ g).cell? ⟨w.heap.size,2,none⟩=some (.string t0)/\((((((w0.setCell ⟨w.heap.size+1,0,none⟩ a).setCell ⟨w.heap.size+1,1,none⟩ b).setCell ⟨w.heap.size+1,2,none⟩ c).setCell ⟨w.heap.size+1,3,none⟩ e).setCell ⟨w.heap.size+1,4,none⟩ f).setCell ⟨w.heap.size+1,5,none⟩ g).cell? ⟨w.heap.size,3,none⟩=some (.string m0)/\((((((w0.setCell ⟨w.heap.size+1,0,none⟩ a).setCell ⟨w.heap.size+1,1,none⟩ b).setCell ⟨w.heap.size+1,2,none⟩ c).setCell ⟨w.heap.size+1,3,none⟩ e).setCell ⟨w.heap.size+1,4,none⟩ f).setCell ⟨w.heap.size+1,5,none⟩ g).cell? ⟨w.heap.size,4,none⟩=some (.slice p1 n1 c1)/\((((((w0.setCell ⟨w.heap.size+1,0,none⟩ a).setCell ⟨w.heap.size+1,1,none⟩ b).setCell ⟨w.heap.size+1,2,none⟩ c).setCell ⟨w.heap.size+1,3,none⟩ e).setCell ⟨w.heap.size+1,4,none⟩ f).setCell ⟨w.heap.size+1,5,none⟩ g).cell? ⟨w.heap.size,5,none⟩=some (.slice p2 n2 c2)):=λw0 h a b c e f g=>CELLS.out _ ((((((h.setCell (p:=⟨w.heap.size+1,0,none⟩) (sqR _) _).setCell (p:=⟨w.heap.size+1,1,none⟩) (sqR _) _).setCell (p:=⟨w.heap.size+1,2,none⟩) (sqR _) _).setCell (p:=⟨w.heap.size+1,3,none⟩) (sqR _) _).setCell (p:=⟨w.heap.size+1,4,none⟩) (sqR _) _).setCell (p:=⟨w.heap.size+1,5,none⟩) (sqR _) _);obtain ⟨q0,q1,q2,q3,q4,q5⟩:=CELLS.out W2 (Below.refl _ _);have x0:=r2.out.cell 0 _ rfl;have f0:=r2.out.frozen 0;have x1:=r2.out.cell 1 _ rfl;have f1:=r2.out.frozen 1;have x2:=r2.out.cell 2 _ rfl;have f2:=r2.out.frozen 2;have x3:=r2.out.cell 3 _ rfl;have f3:=r2.out.frozen 3;have x4:=r2.out.cell 4 _ rfl;have f4:=r2.out.frozen 4;have x5:=r2.out.cell 5 _ rfl;have f5:=r2.out.frozen 5;clear hW2 hw hw' hn1 hn2 o1 o2 o3 o4;go_enter func130,ntmps130;go_wp2_with fail;rw [<-HW2'.out]
 go_region_held3 (λw'=>w'.cell? ⟨w.heap.size,0,none⟩=some (.int .i64 k0)/\w'.cell? ⟨w.heap.size,1,none⟩=some (.int .i64 n0)/\w'.cell? ⟨w.heap.size,2,none⟩=some (.string t0)/\w'.cell? ⟨w.heap.size,3,none⟩=some (.string m0)/\w'.cell? ⟨w.heap.size,4,none⟩=some (.slice p1 n1 c1)/\w'.cell? ⟨w.heap.size,5,none⟩=some (.slice p2 n2 c2))
  (first | with_reducible exact CELLS6.out _ K5.out _ _ _ _ _ _ | with_reducible exact CELLS.out _ (Below.refl _ _).drew | with_reducible exact CELLS.out _ K5.out | with_reducible exact CELLS.out _ K4.out | go_keep)
  (first
   | (have _:=K4;go_at_call 71;refine (hCl _ _ cls R4.out HW2.out).mono ?_;rintro e w5 ⟨u5,fq,rfl,ho5,hnd5,hrg5,hb5⟩;obtain ⟨pu5,cu5,hu5,-⟩:=ho5.shape;rw [List.length_map,HL2.out] at hu5;subst hu5;have HO5:=hid ho5;have ND5:Hid (fq.Nodup/\∀ a ∈ fq,w4.heap.size<=a/\a<w5.heap.size):=⟨hnd5,hrg5⟩;have L5:=hid hb5;have K5:=hid (K4.out.trans (hb5.mono (by have h1:=K4.out.size;have h2:=S2.out;omega)));have rr:=(r2.out.next M4.out).next hb5;have HRR:=hid rr;have y0:=rr.cell 0 _ rfl;have g0:=rr.frozen 0;have y1:=rr.cell 1 _ rfl;have g1:=rr.frozen 1;have y2:=rr.cell 2 _ rfl;have g2:=rr.frozen 2;have y3:=rr.cell 3 _ rfl;have g3:=rr.frozen 3;have y4:=rr.cell 4 _ rfl;have g4:=rr.frozen 4;have y5:=rr.cell 5 _ rfl;have g5:=rr.frozen 5;clear ho5 hnd5 hrg5 hb5 rr x0 x1 x2 x3 x4 x5 f0 f1 f2 f3 f4 f5 q0 q1 q2 q3 q4 q5)
   | (go_at_call 102;refine (hE _ _ ks P2.out HW1.out).mono ?_;rintro e w4 ⟨u4,fp,rfl,ho4,hnd4,hrg4,hb4⟩;obtain ⟨pu4,cu4,hu4,-⟩:=ho4.shape;rw [List.length_map,HL1.out] at hu4;subst hu4;have HO4:=hid ho4;have ND4:Hid (fp.Nodup/\∀ a ∈ fp,W2.heap.size<=a/\a<w4.heap.size):=⟨hnd4,hrg4⟩;have M4:Hid (Bz W2 w4):=below_undrew hb4;have K4:Hid (Below (w.heap.size+1) W2 w4):=M4.out.mono (by have h2:=S2.out;omega);have R4:Hid (Rows w4 All 2 (HCl w4 All (HEx w4 All d)) (.slice p2 n2 c2) cls):=(by have hbb:Bz w w4:=B2.out.trans (M4.out.mono B2.out.size);exact HCS.out.mono (sqO hbb) sqj (λ_ _ _ h=>h.mono (sqO hbb) sqj (λ_ _ h=>h.mono (sqO hbb) sqj)));clear ho4 hnd4 hrg4 hb4))
 all_goals
  go_split_ands;go_wp2_with fail;obtain ⟨W6,hW6⟩:∃ W6,W6=(((((w5.setCell ⟨w.heap.size+1,0,none⟩ (.int .i64 k0)).setCell ⟨w.heap.size+1,1,none⟩ (.int .i64 n0)).setCell ⟨w.heap.size+1,2,none⟩ (.string t0)).setCell ⟨w.heap.size+1,3,none⟩ (.string m0)).setCell ⟨w.heap.size+1,4,none⟩ (.slice pu4 n1 cu4)).setCell ⟨w.heap.size+1,5,none⟩ (.slice pu5 n2 cu5):=⟨_,rfl⟩;have bz:Blk W6 (w.heap.size+1) #[.int .i64 k0,.int .i64 n0,.string t0,.string m0,.slice pu4 n1 cu4,.slice pu5 n2 cu5] 74:=(by rw [hW6];exact (((((HRR.out.same rfl).same rfl).same rfl).same rfl).same rfl).same rfl);obtain ⟨j0,j1,j2,j3,j4,j5⟩:=sqB6 bz;have fin:ResO w (λw' u fp=>∃ cs',u=.agg cs'.toArray/\OEx w' (d+1) cs' (mapX (fT ftU) (d+1) (.mk k0 n0 t0 m0 ks cls)) fp) (.returned (.agg #[.int .i64 k0,.int .i64 n0,.string t0,.string m0,.slice pu4 n1 cu4,.slice pu5 n2 cu5])) W6:=exp_made (N:=W2.heap.size) (b:=w.heap.size+1) HOK.out (λk t m n h=>h) (by have:=S2.out;have:=M4.out.size;omega) (by have:=B2.out.size;omega) (B2.out.trans ((M4.out.mono B2.out.size).trans (L5.out.mono (by have:=B2.out.size;have:=M4.out.size;omega)))) HL1.out HO4.out ND4.out HO5.out ND5.out L5.out (by have:=S2.out;omega) (λa ha=>by rw [hW6,Below.heap_setCell _ _ _ _ ha,Below.heap_setCell _ _ _ _ ha,Below.heap_setCell _ _ _ _ ha,Below.heap_setCell _ _ _ _ ha,Below.heap_setCell _ _ _ _ ha,Below.heap_setCell _ _ _ _ ha]) (by rw [hW6];exact ((((((Below.refl 0 w5).setCell (Nat.zero_le _) _).setCell (Nat.zero_le _) _).setCell (Nat.zero_le _) _).setCell (Nat.zero_le _) _).setCell (Nat.zero_le _) _).setCell (Nat.zero_le _) _);rw [hW6] at fin j0 j1 j2 j3 j4 j5;exact bodyPost_ret (v:=.agg #[.int .i64 k0,.int .i64 n0,.string t0,.string m0,.slice pu4 n1 cu4,.slice pu5 n2 cu5]) (by simp [results,results130,go_sem,j0,j1,j2,j3,j4,j5]) rfl fin
theorem all:∀ d,ExpS d
 | 0=>λw cs x h _=>h.elim
 | d+1=>exp_of (exps_of (all d)) (clauses_of (exps_of (all d)))
theorem exps (d:Nat):ExpsS d:=exps_of (all d)
theorem clauses (d:Nat):ClsS d:=clauses_of (exps d)
end CpU
theorem refs_own {w:World} {B:Nat} {v:Value} {n d:Nat} {cells:List Value} {l:List Rf} (h:w.ownsRow B 110 2 v n cells) (hc:CellsR 2 HRf cells l) (hn:n=l.length) :
 ∃ fe,ORows w 110 2 (ORf w d) v l fe/\fe.Nodup/\∀ a ∈ fe,B<=a/\a<w.heap.size/\∃ cur,w.heap[a]?=some (.cells cur 110 (0,0)):=by
 subst hn;by_cases hne:l = []
 . subst hne
   refine ⟨[],.inl ⟨rfl,rfl,?_⟩,by simp,λa ha=>by simp at ha⟩
   rcases h.2 with ⟨hv,hn⟩ | ⟨g,cap,cur,hv,hb,hg,hc',hm,hr⟩
   . exact ⟨none,0,hv,Nat.zero_le _⟩
   . exact ⟨_,cap,hv,hm⟩
 . rcases h.2 with ⟨hv,hn⟩ | ⟨g,cap,cur,hv,hb,hg,hr⟩
   . exact absurd (List.length_eq_zero_iff.1 hn) hne
   . refine ⟨[g],.inr ⟨hne,cells,g,cap,l.map (λ_=>[]),⟨h.1,.inr ⟨g,cap,cur,hv,Nat.zero_le _,hg,hr⟩⟩,hv,by simp,?_,λi x f hi hf=>?_⟩,by simp,λa ha=>?_⟩
     . have:(l.map (λ_=>([]:List Nat))).flatten = []:=by
        rw [List.flatten_eq_nil_iff];intro x hx;simp at hx;exact hx.2
       rw [this]
     . rw [List.getElem?_map,hi] at hf
       simp at hf;subst hf;obtain ⟨cs,h1,h2,h3⟩:=hc.2 i x hi;exact ⟨cs,h1,h2,h3,rfl⟩
     . simp at ha;subst ha
       exact ⟨hb,(Array.getElem?_eq_some_iff.1 hg).1,cur,hg⟩
theorem owns_lower {w:World} {B B':Nat} {e:TypeId} {c n:Nat} {v:Value} {xs:List Value} (h:w.ownsRow B e c v n xs) (hB:B'<=B):w.ownsRow B' e c v n xs:=by
 refine ⟨h.1,?_⟩
 rcases h.2 with hn | ⟨g,cap,cur,hv,hb,hr⟩
 . exact .inl hn
 . exact .inr ⟨g,cap,cur,hv,Nat.le_trans hB hb,hr⟩
theorem rf_one (cs:List Value) (y:Rf) (h:HRf cs y):∀ q ∈ cs,q.oneCell'=true:=by
 obtain ⟨rfl,-⟩:=h;simp [Value.oneCell']
theorem refs_rows {w w':World} {v:Value} {l:List Rf} (h:Rows w All 2 HRf v l) (hb:Bz w w'):Rows w' All 2 HRf v l:=h.mono (sqO hb) sqj (λ_ _ _ h=>h)
structure MidM (w V:World) (d:Nat) (E R:Array Value) (es:List Rf) (fe:List Nat) (ob:Nat) (ev:Value):Prop where
 bel:Bz w V
 box:Blk V w.heap.size E 61
 res:Blk V (w.heap.size+1) #[.string ⟨#[]⟩,.slice none 0 0,.slice none 0 0] 61
 out:Blk V ob R 61
 exps:ORows V 110 2 (ORf V d) ev es fe
 nd:fe.Nodup
 rg:∀ a ∈ fe,w.heap.size+2<=a/\a<V.heap.size/\a≠ob
 obl:w.heap.size+2<=ob
theorem MidM.turn {w V V':World} {d:Nat} {E R R':Array Value} {es:List Rf} {fe:List Nat} {ob:Nat} {ev:Value} (h:MidM w V d E R es fe ob ev) (ho:Off [ob] V V') (hR:Blk V' ob R' 61):MidM w V' d E R' es fe ob ev:=by
 have hb:=h.box.lt;have hr:=h.res.lt;have hl:=h.obl;have kk:KeepOn fe V V':=λa ha=>ho.block a (h.rg a ha).2.1 (by simp [(h.rg a ha).2.2])
 exact ⟨⟨ho.os.trans h.bel.os,ho.tape.trans h.bel.tape,ho.output.trans h.bel.output,Nat.le_trans h.bel.size ho.size,λa ha=>(ho.block a (Nat.lt_of_lt_of_le ha h.bel.size) (by simp;omega)).trans (h.bel.block a ha)⟩,
  (ho.block _ hb (by simp;omega)).trans h.box,(ho.block _ hr (by simp;omega)).trans h.res,hR,h.exps.keep kk (λcs x f _ hs h=>h),h.nd,λa ha=>⟨(h.rg a ha).1,Nat.lt_of_lt_of_le (h.rg a ha).2.1 ho.size,(h.rg a ha).2.2⟩,hl⟩
theorem off_set3 {V:World} {ob j:Nat} (v:Value):Off [ob] V (V.setCell ⟨ob,j,none⟩ v) :=
 ⟨by simp [World.setCell],by simp [World.setCell],by simp [World.setCell],by simp [World.setCell],λa _ hn=>Below.heap_setCell _ _ _ _ (by simpa using hn)⟩
theorem offB_set3 {V u:World} {ob j N:Nat} (h:OffB ob N V u) (v:Value):OffB ob N V (u.setCell ⟨ob,j,none⟩ v) :=
 ⟨(by simp [World.setCell]:(u.setCell ⟨ob,j,none⟩ v).os=u.os).trans h.os,(by simp [World.setCell]:(u.setCell ⟨ob,j,none⟩ v).tape=u.tape).trans h.tape,(by simp [World.setCell]:(u.setCell ⟨ob,j,none⟩ v).output=u.output).trans h.output,Nat.le_trans h.size (by simp [World.setCell]),λa h1 h2=>(Below.heap_setCell _ _ _ _ h2).trans (h.block a h1 h2)⟩
namespace CpU
def ModS (d:Nat):Prop:=∀ (w:World) (cs:List Value) (x:Md),HMd w All d cs x->wtMd d x<=16777216 ->
 Calls prog 39 #[.agg cs.toArray] w (ResO w λw' u fp=>∃ cs',u=.agg cs'.toArray/\OMd w' d cs' (mapM (fT ftU) d x) fp)
def ModsS (d:Nat):Prop:=∀ (w:World) (v:Value) (xs:List Md),Rows w All 3 (HMd w All d) v xs->wtS (wtMd d) xs<=16777216 ->
 Calls prog 14 #[v] w (ResO w λw' u fp=>ORows w' 61 3 (OMd w' d) u (xs.map (mapM (fT ftU) d)) fp)
theorem mod_any (d:Nat):ModS d:=by
 intro w cs x hr hw;obtain ⟨ev,fv,rfl,o1,he,hf⟩:=hr;obtain ⟨nm,es,fs⟩:=x;simp only at *;have hw':wtMd d ⟨nm,es,fs⟩=nm.size+wtS wtRf es+wtS (wtFn d) fs:=rfl;have HOK:=hid o1;have HE:=hid he;have HF:=hid hf;have HW1:Hid (wtS wtRf es<=16777216):=(by show _<=_;omega);have HW2:Hid (wtS (wtFn d) fs<=16777216):=(by show _<=_;omega);have hCl:=clauses d;obtain ⟨pe,ce,rfl,-⟩:=he;obtain ⟨pf,cf,rfl,-⟩:=hf;generalize hn1:es.length=ne at *;generalize hn2:fs.length=nf at *;have HL1:=hid hn1;have HL2:=hid hn2;have hne:ne<=16777216:=(by have h:=HW1.out;unfold wtS at h;omega);have hnf:nf<=16777216:=(by have h:=HW2.out;unfold wtS at h;omega);obtain ⟨i0,hi,hz0,hz1,hz2⟩:=info_parts info_ref;have HI:Hid (prog.info? 110=some i0/\i0.zero=some (.agg #[.string ⟨#[]⟩,.int .i64 0])/\i0.size=2/\i0.bytes=24):=⟨hi,hz0,hz1,hz2⟩;obtain ⟨W2,hW2⟩:∃ W2,W2=(w.alloc (.cells #[.string nm,.slice pe ne ce,.slice pf nf cf] 61)).alloc (.cells #[.string ⟨#[]⟩,.slice none 0 0,.slice none 0 0] 61):=⟨_,rfl⟩;have HW2':=hid hW2;have B2:Hid (Bz w W2):=(by show Below _ _ _;rw [hW2];exact ((sqN _ _)).alloc (by simp) _);have e2:Hid (Blk W2 w.heap.size #[.string nm,.slice pe ne ce,.slice pf nf cf] 61):=(by show Blk _ _ _ _;rw [hW2];exact Blk.new.alloc)
 have r2:Hid (Blk W2 (w.heap.size+1) #[.string ⟨#[]⟩,.slice none 0 0,.slice none 0 0] 61):=by
  have:=Blk.new (w:=w.alloc (.cells #[.string nm,.slice pe ne ce,.slice pf nf cf] 61)) (cs:=#[.string ⟨#[]⟩,.slice none 0 0,.slice none 0 0]) (t:=61);rw [alloc_hs] at this;show Blk _ _ _ _;rw [hW2];exact this
 have S2:Hid (W2.heap.size=w.heap.size+2):=by show _=_;rw [hW2,alloc_hs,alloc_hs]
 have CELLS:Hid (∀ w',Below (w.heap.size+1) W2 w'->w'.cell? ⟨w.heap.size,0,none⟩=some (.string nm)/\w'.cell? ⟨w.heap.size,1,none⟩=some (.slice pe ne ce)):=λw' h=>by
  have e:=e2.out.below h (by omega);exact ⟨e.cell 0 _ rfl,e.cell 1 _ rfl⟩
 obtain ⟨q0,q1⟩:=CELLS.out W2 (Below.refl _ _);have hs2:w.heap.size+1<=W2.heap.size:=(by rw [S2.out];omega);have C2:Hid (∀ w',Bz W2 w'->w'.cell? ⟨w.heap.size,0,none⟩=some (.string nm)/\w'.cell? ⟨w.heap.size,1,none⟩=some (.slice pe ne ce)):=λw' h=>CELLS.out w' (h.mono hs2);have CA:Hid (∀ w',Bz W2 w'->∀ o,(w'.alloc o).cell? ⟨w.heap.size,0,none⟩=some (.string nm)/\(w'.alloc o).cell? ⟨w.heap.size,1,none⟩=some (.slice pe ne ce)):=λw' h o=>C2.out _ (h.alloc h.size _);have CS1:Hid (∀ w',Bz W2 w'->∀ a b c,(((w'.setCell ⟨W2.heap.size+1,0,none⟩ a).setCell ⟨W2.heap.size+1,1,none⟩ b).setCell ⟨W2.heap.size+1,2,none⟩ c).cell? ⟨w.heap.size,0,none⟩=some (.string nm)/\(((w'.setCell ⟨W2.heap.size+1,0,none⟩ a).setCell ⟨W2.heap.size+1,1,none⟩ b).setCell ⟨W2.heap.size+1,2,none⟩ c).cell? ⟨w.heap.size,1,none⟩=some (.slice pe ne ce)):=λw' h a b c=>C2.out _ (((h.setCell (p:=⟨W2.heap.size+1,0,none⟩) (Nat.le_succ _) _).setCell (p:=⟨W2.heap.size+1,1,none⟩) (Nat.le_succ _) _).setCell (p:=⟨W2.heap.size+1,2,none⟩) (Nat.le_succ _) _);have CS2:Hid (∀ w',Bz W2 w'->∀ a b c,(((w'.setCell ⟨W2.heap.size,0,none⟩ a).setCell ⟨W2.heap.size,1,none⟩ b).setCell ⟨W2.heap.size,2,none⟩ c).cell? ⟨w.heap.size,0,none⟩=some (.string nm)/\(((w'.setCell ⟨W2.heap.size,0,none⟩ a).setCell ⟨W2.heap.size,1,none⟩ b).setCell ⟨W2.heap.size,2,none⟩ c).cell? ⟨w.heap.size,1,none⟩=some (.slice pe ne ce)):=λw' h a b c=>C2.out _ (((h.setCell (p:=⟨W2.heap.size,0,none⟩) (sqR _) _).setCell (p:=⟨W2.heap.size,1,none⟩) (sqR _) _).setCell (p:=⟨W2.heap.size,2,none⟩) (sqR _) _);obtain ⟨Z1,hZ1⟩:∃ Z1,Z1=(W2.alloc (.cells #[.string ⟨#[]⟩,.slice none 0 0,.slice none 0 0] 61)).drew:=⟨_,rfl⟩;have HZ1:=hid hZ1;have KZ1:Hid (Bz W2 Z1):=(by show Below _ _ _;rw [hZ1];exact ((sqN _ _)).drew)
 -- the three worlds in which the exports are appended
 obtain ⟨X1,hX1⟩:∃ X1,X1=(W2.alloc (.cells #[] 110)).drew:=⟨_,rfl⟩;obtain ⟨X2,hX2⟩:∃ X2,X2=((W2.alloc (.cells #[] 110)).alloc (.cells #[.string ⟨#[]⟩,.slice none 0 0,.slice none 0 0] 61)).drew:=⟨_,rfl⟩;obtain ⟨Y1,hY1⟩:∃ Y1,Y1=((W2.alloc (.cells #[.string ⟨#[]⟩,.slice none 0 0,.slice none 0 0] 61)).alloc (.cells #[] 110)).drew:=⟨_,rfl⟩;have HX1:=hid hX1;have HX2:=hid hX2;have HY1:=hid hY1;have KX1:Hid (Bz W2 X1):=(by show Below _ _ _;rw [hX1];exact ((sqN _ _)).drew);have KX2:Hid (Bz W2 X2):=(by show Below _ _ _;rw [hX2];exact (((sqN _ _)).alloc (by simp) _).drew);have KY1:Hid (Bz W2 Y1):=(by show Below _ _ _;rw [hY1];exact (((sqN _ _)).alloc (by simp) _).drew);have OX1:Hid (X1.ownsRow W2.heap.size 110 2 (.slice (some ⟨W2.heap.size,0,none⟩) 0 0) 0 []):=(by show World.ownsRow _ _ _ _ _ _ _;rw [hX1];exact owns_fresh (w:=W2));have OX2:Hid (X2.ownsRow W2.heap.size 110 2 (.slice (some ⟨W2.heap.size,0,none⟩) 0 0) 0 []):=(by show World.ownsRow _ _ _ _ _ _ _;rw [hX2];exact owns_next (owns_fresh (w:=W2)) ((sqN _ _)).drew)
 have OY1:Hid (Y1.ownsRow W2.heap.size 110 2 (.slice (some ⟨W2.heap.size+1,0,none⟩) 0 0) 0 []):=by
  have:=owns_fresh (w:=W2.alloc (.cells #[.string ⟨#[]⟩,.slice none 0 0,.slice none 0 0] 61)) (e:=110) (c:=2);rw [alloc_hs] at this;show World.ownsRow _ _ _ _ _ _ _;rw [hY1];exact owns_lower this (Nat.le_succ _)
 have BX2:Hid (Blk X2 (W2.heap.size+1) #[.string ⟨#[]⟩,.slice none 0 0,.slice none 0 0] 61):=by
  have:=Blk.new (w:=W2.alloc (.cells #[] 110)) (cs:=#[.string ⟨#[]⟩,.slice none 0 0,.slice none 0 0]) (t:=61);rw [alloc_hs] at this;show Blk _ _ _ _;rw [hX2];exact this
 have BY1:Hid (Blk Y1 W2.heap.size #[.string ⟨#[]⟩,.slice none 0 0,.slice none 0 0] 61):=(by show Blk _ _ _ _;rw [hY1];exact (Blk.new (w:=W2)).alloc);have SX1:Hid (X1.heap.size=W2.heap.size+1):=(by show _=_;rw [hX1];show (W2.alloc _).heap.size=_;rw [alloc_hs]);have SX2:Hid (X2.heap.size=W2.heap.size+2):=(by show _=_;rw [hX2];show ((W2.alloc _).alloc _).heap.size=_;rw [alloc_hs,alloc_hs]);have SY1:Hid (Y1.heap.size=W2.heap.size+2):=(by show _=_;rw [hY1];show ((W2.alloc _).alloc _).heap.size=_;rw [alloc_hs,alloc_hs]);clear hs2 hW2 hX1 hX2 hY1 hZ1 hw hw' hn1 hn2 o1 hi hz0 hz1 hz2;go_enter func39,ntmps39;go_wp2_with fail;rw [<-HW2'.out]
 go_region_held3 (λw'=>w'.cell? ⟨w.heap.size,0,none⟩=some (.string nm)/\w'.cell? ⟨w.heap.size,1,none⟩=some (.slice pe ne ce))
  (first
   | with_reducible exact CS1.out _ K6.out _ _ _
   | with_reducible exact CS2.out _ K6.out _ _ _
   | with_reducible exact CA.out _ K6.out _
   | with_reducible exact C2.out _ K6.out
   | (rw [<-HX2.out];exact C2.out _ KX2.out)
   | (rw [<-HY1.out];exact C2.out _ KY1.out)
   | (rw [<-HX1.out];exact C2.out _ KX1.out)
   | (rw [<-HZ1.out];exact C2.out _ KZ1.out)
   | with_reducible exact CELLS.out _ (Below.refl _ _).drew)
  (first
   | (rw [<-HX2.out];refine step_append_rows (R:=HRf) (S:=All) (by rfl) _ _ _ (by rfl) W2.heap.size 110 i0 _ 2 24 underlying58 HI.out.1 HI.out.2.1 HI.out.2.2.1 HI.out.2.2.2 rfl (by decide) (.slice (some ⟨W2.heap.size,0,none⟩) 0 0) 0 [] (by rfl) OX2.out (.slice pe ne ce) es (by rfl) (refs_rows HE.out (B2.out.trans (KX2.out.mono B2.out.size))) rf_one (by have:=HL1.out;unfold maxLen;omega) (by have:=HL1.out;omega) (by have:=SX2.out;omega) ?_;intro v6 w6 news hc6 ho6 hg6;obtain ⟨p6,c6,hv6,-⟩:=owns_slice ho6;rw [Nat.zero_add] at hv6 ho6;rw [HL1.out] at hv6 ho6;subst hv6;have K6:=hid (KX2.out.trans (owns_below OX2.out hg6 (by have:=SX2.out;omega)));have RE6:Hid (w6.ownsRow W2.heap.size 110 2 (.slice p6 ne c6) ne ([] ++ news)/\CellsR 2 HRf news es):=⟨ho6,hc6⟩;have HBX:Hid (Blk w6 (W2.heap.size+1) #[.string ⟨#[]⟩,.slice none 0 0,.slice none 0 0] 61):=(hg6.block _ BX2.out.lt (by simp [Value.ownBlock])).trans BX2.out;obtain ⟨y0,y1,y2⟩:=sqB3 HBX.out;obtain ⟨z0,z1,z2⟩:=sqF3 HBX.out;clear hc6 ho6 hg6)
   | (rw [<-HY1.out];refine step_append_rows (R:=HRf) (S:=All) (by rfl) _ _ _ (by rfl) W2.heap.size 110 i0 _ 2 24 underlying58 HI.out.1 HI.out.2.1 HI.out.2.2.1 HI.out.2.2.2 rfl (by decide) (.slice (some ⟨W2.heap.size+1,0,none⟩) 0 0) 0 [] (by rfl) OY1.out (.slice pe ne ce) es (by rfl) (refs_rows HE.out (B2.out.trans (KY1.out.mono B2.out.size))) rf_one (by have:=HL1.out;unfold maxLen;omega) (by have:=HL1.out;omega) (by have:=SY1.out;omega) ?_;intro v6 w6 news hc6 ho6 hg6;obtain ⟨p6,c6,hv6,-⟩:=owns_slice ho6;rw [Nat.zero_add] at hv6 ho6;rw [HL1.out] at hv6 ho6;subst hv6;have K6:=hid (KY1.out.trans (owns_below OY1.out hg6 (by have:=SY1.out;omega)));have RE6:Hid (w6.ownsRow W2.heap.size 110 2 (.slice p6 ne c6) ne ([] ++ news)/\CellsR 2 HRf news es):=⟨ho6,hc6⟩;have HBY:Hid (Blk w6 W2.heap.size #[.string ⟨#[]⟩,.slice none 0 0,.slice none 0 0] 61):=(hg6.block _ BY1.out.lt (by simp [Value.ownBlock])).trans BY1.out;obtain ⟨y0,y1,y2⟩:=sqB3 HBY.out;obtain ⟨z0,z1,z2⟩:=sqF3 HBY.out;clear hc6 ho6 hg6)
   | (rw [<-HX1.out];refine step_append_rows (R:=HRf) (S:=All) (by rfl) _ _ _ (by rfl) W2.heap.size 110 i0 _ 2 24 underlying58 HI.out.1 HI.out.2.1 HI.out.2.2.1 HI.out.2.2.2 rfl (by decide) (.slice (some ⟨W2.heap.size,0,none⟩) 0 0) 0 [] (by rfl) OX1.out (.slice pe ne ce) es (by rfl) (refs_rows HE.out (B2.out.trans (KX1.out.mono B2.out.size))) rf_one (by have:=HL1.out;unfold maxLen;omega) (by have:=HL1.out;omega) (by have:=SX1.out;omega) ?_;intro v6 w6 news hc6 ho6 hg6;obtain ⟨p6,c6,hv6,-⟩:=owns_slice ho6;rw [Nat.zero_add] at hv6 ho6;rw [HL1.out] at hv6 ho6;subst hv6;have K6:=hid (KX1.out.trans (owns_below OX1.out hg6 (by have:=SX1.out;omega)));have RE6:Hid (w6.ownsRow W2.heap.size 110 2 (.slice p6 ne c6) ne ([] ++ news)/\CellsR 2 HRf news es):=⟨ho6,hc6⟩;clear hc6 ho6 hg6))
 all_goals
  go_split_ands;clear q0 q1
  first
  | (have HM5:Hid (∃ fe,MidM w (((w6.setCell ⟨W2.heap.size+1,0,none⟩ (.string nm)).setCell ⟨W2.heap.size+1,1,none⟩ (.slice p6 ne c6)).setCell ⟨W2.heap.size+1,2,none⟩ (.slice none 0 0)) d #[.string nm,.slice pe ne ce,.slice pf nf cf] #[.string nm,.slice p6 ne c6,.slice none 0 0] es fe (W2.heap.size+1) (.slice p6 ne c6)):=by
      obtain ⟨fe,f1,f2,f3⟩:=refs_own (d:=d) RE6.out.1 (by simpa using RE6.out.2) HL1.out.symm;have s2:=S2.out
      have mm:MidM w w6 d #[.string nm,.slice pe ne ce,.slice pf nf cf] #[.string ⟨#[]⟩,.slice none 0 0,.slice none 0 0] es fe (W2.heap.size+1) (.slice p6 ne c6):=⟨B2.out.trans (K6.out.mono B2.out.size),e2.out.next K6.out,r2.out.next K6.out,HBX.out,f1,f2,λa ha=>by
       obtain ⟨g1,g2,cur,g3⟩:=f3 a ha;refine ⟨by omega,g2,λe=>?_⟩;have h:=HBX.out;unfold Blk at h;rw [<-e,g3] at h
       simp at h,by omega⟩
      exact ⟨fe,mm.turn (((off_set3 _).trans (off_set3 _)).trans (off_set3 _)) (((HBX.out.same rfl).same rfl).same rfl)⟩
     clear y0 y1 y2 z0 z1 z2 HBX;revert HM5;generalize (((w6.setCell ⟨W2.heap.size+1,0,none⟩ (.string nm)).setCell ⟨W2.heap.size+1,1,none⟩ (.slice p6 ne c6)).setCell ⟨W2.heap.size+1,2,none⟩ (.slice none 0 0))=W5;generalize W2.heap.size+1=ob
     intro HM5)
  | (have HM5:Hid (∃ fe,MidM w (((w6.setCell ⟨W2.heap.size,0,none⟩ (.string nm)).setCell ⟨W2.heap.size,1,none⟩ (.slice p6 ne c6)).setCell ⟨W2.heap.size,2,none⟩ (.slice none 0 0)) d #[.string nm,.slice pe ne ce,.slice pf nf cf] #[.string nm,.slice p6 ne c6,.slice none 0 0] es fe (W2.heap.size) (.slice p6 ne c6)):=by
      obtain ⟨fe,f1,f2,f3⟩:=refs_own (d:=d) RE6.out.1 (by simpa using RE6.out.2) HL1.out.symm;have s2:=S2.out
      have mm:MidM w w6 d #[.string nm,.slice pe ne ce,.slice pf nf cf] #[.string ⟨#[]⟩,.slice none 0 0,.slice none 0 0] es fe (W2.heap.size) (.slice p6 ne c6):=⟨B2.out.trans (K6.out.mono B2.out.size),e2.out.next K6.out,r2.out.next K6.out,HBY.out,f1,f2,λa ha=>by
       obtain ⟨g1,g2,cur,g3⟩:=f3 a ha;refine ⟨by omega,g2,λe=>?_⟩;have h:=HBY.out;unfold Blk at h;rw [<-e,g3] at h
       simp at h,by omega⟩
      exact ⟨fe,mm.turn (((off_set3 _).trans (off_set3 _)).trans (off_set3 _)) (((HBY.out.same rfl).same rfl).same rfl)⟩
     clear y0 y1 y2 z0 z1 z2 HBY;revert HM5;generalize (((w6.setCell ⟨W2.heap.size,0,none⟩ (.string nm)).setCell ⟨W2.heap.size,1,none⟩ (.slice p6 ne c6)).setCell ⟨W2.heap.size,2,none⟩ (.slice none 0 0))=W5;generalize W2.heap.size=ob
     intro HM5)
  | (have HM5:Hid (∃ fe,MidM w (w6.alloc (.cells #[.string nm,.slice p6 ne c6,.slice none 0 0] 61)) d #[.string nm,.slice pe ne ce,.slice pf nf cf] #[.string nm,.slice p6 ne c6,.slice none 0 0] es fe w6.heap.size (.slice p6 ne c6)):=by
      obtain ⟨fe,f1,f2,f3⟩:=refs_own (d:=d) RE6.out.1 (by simpa using RE6.out.2) HL1.out.symm;have al:Bz w6 (w6.alloc (.cells #[.string nm,.slice p6 ne c6,.slice none 0 0] 61)):=(sqN _ _);have s4:=K6.out.size;have s2:=S2.out;exact ⟨fe,(B2.out.trans (K6.out.mono B2.out.size)).trans (al.mono (by omega)),(e2.out.next K6.out).next al,(r2.out.next K6.out).next al,Blk.new,f1.keep (λa ha=>al.block a (f3 a ha).2.1) (λcs x f _ hs h=>h),f2,λa ha=>by have:=f3 a ha;rw [alloc_hs];omega,by omega⟩
     revert HM5;generalize w6.alloc (.cells #[.string nm,.slice p6 ne c6,.slice none 0 0] 61)=W5;generalize w6.heap.size=ob
     intro HM5)
  clear RE6 K6 C2 CA CS1 CS2 HZ1 KZ1 HX1 HX2 HY1 KX1 KX2 KY1 OX1 OX2 OY1 BX2 BY1 SX1 SX2 SY1 CELLS;obtain ⟨fe,hm5⟩:=HM5.out;have HMX:=hid hm5;have hobl:ob<W5.heap.size:=hm5.out.lt;clear HM5 hm5;go_wp2_with fail
  go_loopw [4] (λiv wr=>∃ (i:Nat) (cv:Value),i<=nf/\iv=.int .i64 i/\Hid (OffB ob W5.heap.size W5 wr)/\Hid (Blk wr ob #[.string nm,.slice p6 ne c6,cv] 61)/\Hid (GrowO 57 3 (λw=>OFn w d) wr W5.heap.size wr.heap.size cv ((fs.take i).map (mapF (fT ftU) d)))) (λiv _=>nf - (intOf iv).toNat)
  case atStart=>exact ⟨0,.slice none 0 0,Nat.zero_le _,rfl,OffB.refl _ _ _,HMX.out.out,GrowO.nil (sqR _)⟩
  case round =>
   obtain ⟨i,cv,hi,rfl,HO,HR,HG⟩:=hrel;have bx:=HO.out.blk HMX.out.box HMX.out.box.lt (by have:=HMX.out.obl;omega);have m2:=bx.cell 2 _ rfl;have hi0:=sqI i;have HBW:=hid (HMX.out.bel.trans (HO.out.below HMX.out.bel.size (by have:=HMX.out.obl;omega)));by_cases hlt2:i<nf
   . obtain ⟨x,hck⟩:∃ x,fs[i]?=some x:=⟨fs[i]'(by rw [HL2.out];exact hlt2),List.getElem?_eq_getElem _⟩
     obtain ⟨pz,cz,hz,-,-,hzx⟩:=HF.out;obtain ⟨g,off,hpz,-,hgl,hat⟩:=hzx (sqE hck);simp only [Value.slice.injEq] at hz;obtain ⟨rfl,-,rfl⟩:=hz;subst hpz;obtain ⟨cs,hc2,hcs,hfn⟩:=hat i x hck;obtain ⟨cv2,rfl,ok1,ok2,hcl⟩:=hfn;have HFK:Hid (okS x.name/\okI x.arity):=⟨ok1,ok2⟩;obtain ⟨a0,a1,a2⟩:=sqC3 hcs (by omega);have HCLW:Hid (∀ w',Bz w w'->Rows w' All 2 (HCl w' All (HEx w' All d)) cv2 x.clauses):=λw' hb=>hcl.mono (sqO hb) sqj (λ_ _ _ h=>h.mono (sqO hb) sqj (λ_ _ h=>h.mono (sqO hb) sqj));obtain ⟨r1,s1,rfl,-⟩:=hcl;generalize x.clauses.length=m1 at *;clear hcs hat hzx;rw [<-HBW.out.cell (p:=⟨g,_,none⟩) hgl] at a0 a1 a2;simp only [List.getElem?_cons_zero,List.getElem?_cons_succ,Nat.add_zero] at a0 a1 a2;have hli:(i:Int)<(nf:Int):=(by omega)
     have HWX:Hid (wtS (wtCl (wtEx d)) x.clauses<=16777216):=by
      show _<=_;have h1:=HW2.out;have h2:=sum_take_succ (wtFn d) fs i x hck;have h3:=sum_take_le (wtFn d) fs (i+1);have h4:wtFn d x=x.name.size+wtS (wtCl (wtEx d)) x.clauses:=rfl;unfold wtS at h1;unfold wtS at h4;unfold wtS;omega
     have HMS:Hid ((fs.take (i+1)).map (mapF (fT ftU) d)=(fs.take i).map (mapF (fT ftU) d) ++ [mapF (fT ftU) d x]):=take_map_succ _ hck;have hll:((fs.take i).map (mapF (fT ftU) d)).length<=100000000:=(by rw [List.length_map,List.length_take];omega);generalize (fs.take i).map (mapF (fT ftU) d)=acc at *;have hgw:g<wr.heap.size:=Nat.lt_of_lt_of_le hgl HBW.out.size;have how:ob<wr.heap.size:=HR.out.lt;obtain ⟨WA,hWA⟩:∃ WA,WA=wr.alloc (.cells #[.string x.name,.int .i64 x.arity,.slice r1 m1 s1] 57):=⟨_,rfl⟩;have HWA:=hid hWA;have KA:Hid (Bz wr WA):=(by show Below _ _ _;rw [hWA];exact (sqN _ _));have SA:Hid (WA.heap.size=wr.heap.size+1):=(by show _=_;rw [hWA,alloc_hs]);have fA:Hid (Blk WA wr.heap.size #[.string x.name,.int .i64 x.arity,.slice r1 m1 s1] 57):=(by show Blk _ _ _ _;rw [hWA];exact Blk.new);have BA:=hid (HBW.out.trans (KA.out.mono HBW.out.size));clear hWA hc2 bx ok1 ok2;go_wp2_with fail;rw [<-HWA.out];refine (hCl WA _ x.clauses (HCLW.out WA BA.out) HWX.out).mono ?_;rintro e w3 ⟨u3,fq,rfl,ho3,hnd,hrg,hb3⟩;obtain ⟨p3,c3,hu3,-⟩:=ho3.shape;generalize (x.clauses.map (mapC (fT ftU) d)).length=n3 at hu3;subst hu3;have K3:=hid hb3;have HO3:Hid (ORows w3 44 2 (OCl w3 (OEx w3 d)) (.slice p3 n3 c3) (x.clauses.map (mapC (fT ftU) d)) fq/\fq.Nodup/\∀ a ∈ fq,WA.heap.size<=a/\a<w3.heap.size):=⟨ho3,hnd,hrg⟩;have f3:=hid (fA.out.next hb3);have u0:=f3.out.cell 2 _ rfl;have u1:=f3.out.frozen 2;have hlf:=f3.out.lt;obtain ⟨W4,hW4⟩:∃ W4,W4=w3.setCell ⟨wr.heap.size,2,none⟩ (.slice p3 n3 c3):=⟨_,rfl⟩;have HW4:=hid hW4
     have q4:Hid (∀ a,a≠wr.heap.size->W4.heap[a]?=w3.heap[a]?):=λa ha=>by rw [hW4];exact Below.heap_setCell _ _ _ _ ha
     have S4:Hid (W4.heap.size=w3.heap.size):=(by show _=_;rw [hW4];simp [World.setCell]);have f4:Hid (Blk W4 wr.heap.size #[.string x.name,.int .i64 x.arity,.slice p3 n3 c3] 57):=(by show Blk _ _ _ _;rw [hW4];exact f3.out.same rfl);have B4:Hid (Bz wr W4):=(by show Below _ _ _;rw [hW4];exact (KA.out.trans (hb3.mono KA.out.size)).setCell (p:=⟨wr.heap.size,2,none⟩) (sqR _) _);have o4:=hid (HR.out.next B4.out);have G4:=hid (HG.out.next (keepsF d) B4.out)
     have X4:Hid (OFn W4 d [.string x.name,.int .i64 x.arity,.slice p3 n3 c3] (mapF (fT ftU) d x) fq/\fq.Nodup/\∀ a ∈ fq,wr.heap.size<=a/\a<W4.heap.size):=by
      have s1:=SA.out;have kk:KeepOn fq w3 W4:=λa ha=>q4.out a (by have:=(hrg a ha).1;omega);exact ⟨⟨_,rfl,HFK.out.1,HFK.out.2,ho3.keep kk (λcs x f _ hs h=>OCls.keep h (kk.sub hs))⟩,hnd,λa ha=>by have:=hrg a ha;have:=S4.out;omega⟩
     obtain ⟨v0,v1,v2⟩:=sqB3 f4.out;have t2:=o4.out.cell 2 _ rfl;clear ho3 hnd hrg hb3 hW4 a0 a1 a2 m2;go_wp2_with (first | (rw [<-HW4.out]) | (at_builtin;refine wpList_push (keepsF d) 59 57 3 48 _ rfl _ _ rfl underlying59 infoF rfl (by decide) (by decide) W5.heap.size wr.heap.size cv acc rfl [.string x.name,.int .i64 x.arity,.slice p3 n3 c3] rfl (mapF (fT ftU) d x) fq G4.out X4.out.1 X4.out.2.1 X4.out.2.2 rfl oneF hll ?_));intro v5 w5 hg5 hb5;obtain ⟨p5,c5,hv5,-⟩:=hg5.shape;rw [List.length_append] at hv5;simp only [List.length_singleton] at hv5;subst hv5;have al:Bz W4 (W4.alloc (.cells #[.string x.name,.int .i64 x.arity,.slice p3 n3 c3] 57)):=(sqN _ _);have R5:Hid (Blk w5 ob #[.string nm,.slice p6 ne c6,cv] 61):=(hb5.block ob hobl).trans (o4.out.next al);have k2:=R5.out.cell 2 _ rfl;have k3:=R5.out.frozen 2;obtain ⟨W7,hW7⟩:∃ W7,W7=w5.setCell ⟨ob,2,none⟩ (.slice p5 (acc.length+1) c5):=⟨_,rfl⟩;have HW7:=hid hW7;have s7:W7.heap.size=w5.heap.size:=(by rw [hW7];simp [World.setCell]);have O5:OffB ob W5.heap.size W5 w5:=HO.out.trans ((OffB.of_below (B4.out.mono HO.out.size)).trans ((OffB.of_below (al.mono (by have:=B4.out.size;have:=HO.out.size;omega))).trans (OffB.of_below hb5)));have O7:Hid (OffB ob W5.heap.size W5 W7):=(by show OffB _ _ _ _;rw [hW7];exact offB_set3 O5 _);have R7:Hid (Blk W7 ob #[.string nm,.slice p6 ne c6,.slice p5 (acc.length+1) c5] 61):=(by show Blk _ _ _ _;rw [hW7];exact R5.out.same rfl)
     have G7:Hid (GrowO 57 3 (λw=>OFn w d) W7 W5.heap.size W7.heap.size (.slice p5 (acc.length+1) c5) ((fs.take (i+1)).map (mapF (fT ftU) d))):=by
      show GrowO _ _ _ _ _ _ _ _;rw [HMS.out,s7];rw [hW7];exact hg5.off (keepsF d) (off_set3 _) hobl
     clear hg5 hb5 al O5 s7 hW7 v0 v1 v2 t2 u0 u1;go_wp2_with (rw [<-HW7.out]);exact ⟨⟨i+1,_,by omega,by go_num,O7.out,R7.out,G7.out⟩,by simp [intOf];omega⟩
   . obtain rfl:i=nf:=by omega
     obtain ⟨ff,r1,r2',r3,-,-⟩:=HG.out.done;rw [sqT HL2.out] at r1;have hsh:=HG.out.shape;rw [List.length_map,List.length_take,HL2.out,Nat.min_self] at hsh;obtain ⟨pc,cc,hcv,-⟩:=hsh;subst hcv;have rs:=hid (HO.out.blk HMX.out.res HMX.out.res.lt (by have:=HMX.out.obl;omega));obtain ⟨oo0,oo1,oo2⟩:=sqB3 HR.out;obtain ⟨xx0,xx1,xx2⟩:=sqB3 rs.out;obtain ⟨gg0,gg1,gg2⟩:=sqF3 rs.out;have HQ:Hid (ORows wr 57 3 (OFn wr d) (.slice pc i cc) (fs.map (mapF (fT ftU) d)) ff/\ff.Nodup/\∀ a ∈ ff,W5.heap.size<=a/\a<wr.heap.size):=⟨r1,r2',r3⟩;clear r1 r2' r3 bx;go_wp2_with fail;obtain ⟨W8,hW8⟩:∃ W8,W8=((wr.setCell ⟨w.heap.size+1,0,none⟩ (.string nm)).setCell ⟨w.heap.size+1,1,none⟩ (.slice p6 ne c6)).setCell ⟨w.heap.size+1,2,none⟩ (.slice pc i cc):=⟨_,rfl⟩;have bz:Blk W8 (w.heap.size+1) #[.string nm,.slice p6 ne c6,.slice pc i cc] 61:=(by rw [hW8];exact ((rs.out.same rfl).same rfl).same rfl);obtain ⟨j0,j1,j2⟩:=sqB3 bz
     have ho:∀ a,a≠w.heap.size+1->W8.heap[a]?=wr.heap[a]?:=λa ha=>by rw [hW8,Below.heap_setCell _ _ _ _ ha,Below.heap_setCell _ _ _ _ ha,Below.heap_setCell _ _ _ _ ha]
     have s8:W8.heap.size=wr.heap.size:=(by rw [hW8];simp [World.setCell]);have B8:Bz w W8:=(by rw [hW8];exact ((HBW.out.setCell (p:=⟨w.heap.size+1,0,none⟩) (Nat.le_succ _) _).setCell (p:=⟨w.heap.size+1,1,none⟩) (Nat.le_succ _) _).setCell (p:=⟨w.heap.size+1,2,none⟩) (Nat.le_succ _) _);have hol:=HMX.out.obl;have kf:KeepOn ff wr W8:=λa ha=>ho a (by have:=(HQ.out.2.2 a ha).1;omega);have ke:KeepOn fe W5 W8:=λa ha=>(ho a (by have:=(HMX.out.rg a ha).1;omega)).trans (HO.out.block a (HMX.out.rg a ha).2.1 (HMX.out.rg a ha).2.2);have s9:=HO.out.size
     have fin:ResO w (λw' u fp=>∃ cs',u=.agg cs'.toArray/\OMd w' d cs' (mapM (fT ftU) d ⟨nm,es,fs⟩) fp) (.returned (.agg #[.string nm,.slice p6 ne c6,.slice pc i cc])) W8:=by
      refine ⟨_,fe ++ ff,rfl,⟨[.string nm,.slice p6 ne c6,.slice pc i cc],rfl,_,_,fe,ff,rfl,rfl,HOK.out,HMX.out.exps.keep ke (λcs x f _ hs h=>h),HQ.out.1.keep kf (λcs x f _ hs h=>h.keep (kf.sub hs))⟩,?_,λa ha=>?_,B8⟩
      . rw [List.nodup_append]
        refine ⟨HMX.out.nd,HQ.out.2.1,λa ha b hb=>?_⟩;have h:=(HMX.out.rg a ha).2.1;have h':=(HQ.out.2.2 b hb).1;omega
      . rcases List.mem_append.1 ha with ha | ha
        . have h:=HMX.out.rg a ha;omega
        . have h:=HQ.out.2.2 a ha;omega
     rw [hW8] at fin j0 j1 j2;exact bodyPost_ret (v:=.agg #[.string nm,.slice p6 ne c6,.slice pc i cc]) (by simp [results,results39,go_sem,j0,j1,j2]) rfl fin
theorem mods_of {d:Nat} (hE:ModS d):ModsS d:=by
 intro w v xs hr hw;obtain ⟨p,cap,rfl,hcl,hcm,hx⟩:=hr;have HWT:=hid hw;have hnb:xs.length<=16777216:=(by unfold wtS at hw;omega);generalize hn:xs.length=n at *;have HN:=hid hn;have HX:=hid hx;obtain ⟨W1,hW1⟩:∃ W1,W1=w.alloc (.cells #[] 61):=⟨_,rfl⟩;have HW1:=hid hW1;have G1:Hid (GrowO 61 3 (λw=>OMd w d) W1 w.heap.size W1.heap.size (.slice (some ⟨w.heap.size,0,none⟩) 0 0) ((xs.take 0).map (mapM (fT ftU) d))):=growFresh hW1;have B1:Hid (Bz w W1):=(by show Below _ _ _;rw [hW1];exact (sqN _ _));clear hW1 hx hn hw;go_enter func14,ntmps14;go_wp2_with fail;rw [<-HW1.out]
 go_loopw [3,4] (λov iv wr=>∃ (k:Nat),k<=n/\iv=.int .i64 k/\Hid (GrowO 61 3 (λw=>OMd w d) wr w.heap.size wr.heap.size ov ((xs.take k).map (mapM (fT ftU) d)))/\Hid (Bz w wr)) (λ_ iv _=>n - (intOf iv).toNat)
 case atStart=>exact ⟨0,Nat.zero_le _,rfl,G1.out,B1.out⟩
 case round =>
  obtain ⟨k,hk,rfl,HG,HB⟩:=hrel;by_cases hlt:k<n
  . obtain ⟨x,hxk⟩:=sqA (l:=xs) (k:=k) HN.out hlt
    obtain ⟨g,off,rfl,-,hgl,hat⟩:=HX.out (sqE hxk);obtain ⟨cs,hc6,hcs,hex⟩:=hat k x hxk;have HXR:=hid (hex.mono (sqO HB.out) sqj);obtain ⟨tt,r1,m1,s1,r2,m2,s2,rfl⟩:=HMd.shapeR hex;obtain ⟨a0,a1,a2⟩:=sqC3 hcs (by omega);rw [<-HB.out.cell (p:=⟨g,_,none⟩) hgl] at a0 a1 a2;clear hcs hat;simp at a0 a1 a2;have hki:(k:Int)<(n:Int):=(by omega);have hk0:=sqI k
    have HWX:Hid (wtMd d x<=16777216):=by
     show _<=_;have h1:=HWT.out;have h2:=sum_take_succ (wtMd d) xs k x hxk;have h3:=sum_take_le (wtMd d) xs (k+1);unfold wtS at h1;omega
    have HMS:Hid ((xs.take (k+1)).map (mapM (fT ftU) d)=(xs.take k).map (mapM (fT ftU) d) ++ [mapM (fT ftU) d x]):=take_map_succ _ hxk;have hll:((xs.take k).map (mapM (fT ftU) d)).length<=100000000:=(by rw [List.length_map,List.length_take];omega);generalize (xs.take k).map (mapM (fT ftU) d)=acc at *;clear hex hc6;go_wp2_with fail;refine (hE wr _ x HXR.out HWX.out).mono ?_;rintro e w3 ⟨u,fp,rfl,⟨cs',rfl,hx3⟩,hnd,hrg,hb3⟩;obtain ⟨sx,p1,n1,q1,p2,n2,q2,hsh⟩:=hx3.shape;subst hsh;have G3:=hid (HG.out.next (keepsM d) hb3);have X3:Hid (OMd w3 d [.string sx,.slice p1 n1 q1,.slice p2 n2 q2] (mapM (fT ftU) d x) fp/\fp.Nodup/\∀ a ∈ fp,wr.heap.size<=a/\a<w3.heap.size):=⟨hx3,hnd,hrg⟩;have B3:=hid (HB.out.trans (hb3.mono HB.out.size));clear hx3 hnd hrg hb3 a0 a1 a2;go_wp2_with (at_builtin;refine wpList_push (keepsM d) 27 61 3 64 _ rfl _ _ rfl underlying27 infoM rfl (by decide) (by decide) w.heap.size wr.heap.size u3 acc rfl [.string sx,.slice p1 n1 q1,.slice p2 n2 q2] rfl (mapM (fT ftU) d x) fp G3.out X3.out.1 X3.out.2.1 X3.out.2.2 rfl oneM hll ?_);intro v4 w4 hg4 hb4;have B4:Hid (Bz w w4):=(B3.out.alloc B3.out.size _).trans hb4;rw [<-HMS.out] at hg4;have G4:=hid hg4;clear hg4 hb4;go_wp2_with fail;exact ⟨⟨k+1,by omega,by go_num,G4.out,B4.out⟩,by simp [intOf];omega⟩
  . obtain rfl:k=n:=by omega
    obtain ⟨fp,r1,r2,r3,r4,r5⟩:=HG.out.done;rw [sqT HN.out] at r1;obtain ⟨pu,cu,hu,-⟩:=HG.out.shape;subst hu;have FIN:Hid (ResO w (λw' u fp=>ORows w' 61 3 (OMd w' d) u (xs.map (mapM (fT ftU) d)) fp) (.returned _) wr):=⟨_,fp,rfl,r1,r2,λa ha=>r3 a ha,HB.out⟩;clear r1 r2 r3 r4 r5;go_wp2;go_ret;exact FIN.out
theorem mods (d:Nat):ModsS d:=mods_of (mod_any d)
end CpU
theorem l07Copy_any (d:Nat) (w:World) (v:Value) (ms:List Md) (h:Rows w All 3 (HMd w All d) v ms) (hw:wtS (wtMd d) ms<=16777216) :
 Calls prog 14 #[v] w (ResO w λw' u fp=>ORows w' 61 3 (OMd w' d) u ms fp):=by
 have h1:=CpU.mods d w v ms h hw;have e:ms.map (mapM (fT ftU) d)=ms:=(by rw [fT_U];exact mapMs_id d ms);rw [e] at h1;exact h1
end
def renT (fs ts:List ByteArray) (t:ByteArray):Nat->ByteArray
 | 0=>t
 | j+1=>match fs[j]?,ts[j]? with
  | some f,some s=>if (f.toList == t.toList)=true then s else renT fs ts t j
  | _,_=>renT fs ts t j
def ftL (fs ts:List ByteArray) (k:Int) (t _:ByteArray) (_:Nat):ByteArray:=if k=2 then renT fs ts t fs.length else t
theorem renT_hit {fs ts:List ByteArray} {t f s:ByteArray} {j:Nat} (hf:fs[j]?=some f) (hs:ts[j]?=some s) (h:(f.toList == t.toList)=true):renT fs ts t (j+1)=s:=by
 simp only [renT,hf,hs,h,if_true]
theorem renT_miss {fs ts:List ByteArray} {t f:ByteArray} {j:Nat} (hf:fs[j]?=some f) (h:(f.toList == t.toList)=false):renT fs ts t (j+1)=renT fs ts t j:=by
 cases hs:ts[j]? with
 | none=>simp only [renT,hf,hs]
 | some s=>simp only [renT,hf,hs,h];simp
theorem ftL_one (sf st:ByteArray):ftL [sf] [st]=ftV sf st:=by
 funext k t m n
 unfold ftL ftV;by_cases hk:k=2
 . simp only [hk,if_true,true_and,List.length_singleton]
   cases hq:(t.toList == sf.toList) with
   | true=>rw [renT_hit (f:=sf) (s:=st) rfl rfl (by rw [beq_iff_eq] at hq ⊢;exact hq.symm)];simp
   | false =>
    rw [renT_miss (f:=sf) rfl (by
     rw [beq_eq_false_iff_ne] at hq ⊢
     exact λh=>hq h.symm)]
    simp [renT]
 . simp [hk]
theorem renT_ok {fs ts:List ByteArray} {t:ByteArray} (ht:okS t) (hs:∀ s ∈ ts,okS s):∀ j,okS (renT fs ts t j)
 | 0=>ht
 | j+1=>by
  have ih:=renT_ok (fs:=fs) ht hs j;unfold renT
  split
  . split
    . rename_i h _
      exact hs _ (List.mem_of_getElem? h)
    . exact ih
  . exact ih
theorem ftL_ok {fs ts:List ByteArray} (hs:∀ s ∈ ts,okS s) {k:Int} {t m:ByteArray} {n:Nat} (ht:okS t):okS (ftL fs ts k t m n):=by
 unfold ftL;split
 . exact renT_ok ht hs _
 . exact ht
def CapL (w:World) (fv tv:Value) (fs ts:List ByteArray):Prop:=StrR w fv fs/\StrR w tv ts/\fs.length<=ts.length
theorem CapL.next {w w':World} {fv tv:Value} {fs ts:List ByteArray} (h:CapL w fv tv fs ts) (hb:Bz w w'):CapL w' fv tv fs ts :=
 ⟨h.1.mono (sqO hb),h.2.1.mono (sqO hb),h.2.2⟩
theorem CapL.ok {w:World} {fv tv:Value} {fs ts:List ByteArray} (h:CapL w fv tv fs ts):∀ s ∈ ts,okS s:=h.2.1.okS
theorem strR_at {w:World} {v:Value} {xs:List ByteArray} (h:StrR w v xs):∃ p n cap,v=.slice p n cap/\n=xs.length/\∀ k x,xs[k]?=some x->∃ g off,p=some ⟨g,off,none⟩/\g<w.heap.size/\w.cell? ⟨g,off+k,none⟩=some (.string x):=by
 obtain ⟨p,cap,rfl,-,-,hx⟩:=h;refine ⟨p,_,cap,rfl,rfl,λk x hk=>?_⟩;obtain ⟨g,off,e,_,hg,hat⟩:=hx (by intro e;rw [e] at hk;simp at hk);obtain ⟨cs,_,hcs,rfl,_⟩:=hat k x hk;have:=hcs 0 (by decide);simp only [Nat.mul_one,Nat.add_zero,List.getElem?_cons_zero] at this;exact ⟨g,off,e,hg,this⟩
end Go.Proofs.YtbdhpganbbandaaGreatDoor
