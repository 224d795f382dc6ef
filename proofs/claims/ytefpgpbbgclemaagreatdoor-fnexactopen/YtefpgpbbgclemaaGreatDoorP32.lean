/-
  CpBase CpU
-/
import Derived.Test.YtefpgpbbgclemaaGreatDoorP26
import Derived.Test.YtefpgpbbgclemaaGreatDoorP14
import Derived.Deep.RegionLaw
set_option maxHeartbeats 16000000
set_option linter.unusedVariables false
set_option maxRecDepth 100000
namespace Go.Proofs.YtefpgpbbgclemaaGreatDoor
open Go.ChangeShapes Go.WideShapes Go.ChangeAt Go.RowKit
def ResO (w:World) (O:World→Value→List Nat→Prop) (e:Ending) (w':World):Prop :=
  ∃ u fp,e=.returned u∧O w' u fp∧fp.Nodup∧(∀ a ∈ fp,w.heap.size≤a∧a<w'.heap.size)∧Below w.heap.size w w'
theorem take_map_succ {α β:Type} (f:α→β) {xs:List α} {k:Nat} {x:α} (h:xs[k]?=some x):(xs.take (k+1)).map f=(xs.take k).map f ++ [f x]:=by
  rw [List.take_add_one,h];simp
theorem keepsX (d:Nat):KeepsC (fun w=>OEx w d):=fun w w' cs x fp h hk=>OEx.keep h hk
theorem keepsC (d:Nat):KeepsC (fun w=>OCl w (OEx w d)):=fun w w' cs x fp h hk=>OCls.keep h hk
theorem keepsF (d:Nat):KeepsC (fun w=>OFn w d):=fun w w' cs x fp h hk=>OFn.keep h hk
theorem keepsM (d:Nat):KeepsC (fun w=>OMd w d):=fun w w' cs x fp h hk=>OMd.keep h hk
theorem infoX:(Tryz.prog.info? 79).map (fun i=>(i.zero,i.size,i.bytes))=some (some (.agg #[.int .i64 0,.int .i64 0,.string ⟨#[]⟩,.string ⟨#[]⟩,.slice none 0 0,.slice none 0 0]),6,96):=by kernel_rfl
theorem infoC:(Tryz.prog.info? 127).map (fun i=>(i.zero,i.size,i.bytes))=some (some (.agg #[.slice none 0 0,.slice none 0 0]),2,48):=by kernel_rfl
theorem infoF:(Tryz.prog.info? 91).map (fun i=>(i.zero,i.size,i.bytes))=some (some (.agg #[.string ⟨#[]⟩,.int .i64 0,.slice none 0 0]),3,48):=by kernel_rfl
theorem infoM:(Tryz.prog.info? 47).map (fun i=>(i.zero,i.size,i.bytes))=some (some (.agg #[.string ⟨#[]⟩,.slice none 0 0,.slice none 0 0]),3,64):=by kernel_rfl
theorem oneX {sk sn:Int} {st se:ByteArray} {p1 p2:Option Addr} {n1 q1 n2 q2:Nat}:∀ u ∈ [Value.int .i64 sk,.int .i64 sn,.string st,.string se,.slice p1 n1 q1,.slice p2 n2 q2],u.oneCell'=true:=by simp [Value.oneCell']
theorem oneC {p1 p2:Option Addr} {n1 q1 n2 q2:Nat}:∀ u ∈ [Value.slice p1 n1 q1,.slice p2 n2 q2],u.oneCell'=true:=by simp [Value.oneCell']
theorem oneF {s:ByteArray} {k:Int} {p1:Option Addr} {n1 q1:Nat}:∀ u ∈ [Value.string s,.int .i64 k,.slice p1 n1 q1],u.oneCell'=true:=by simp [Value.oneCell']
theorem oneM {s:ByteArray} {p1 p2:Option Addr} {n1 q1 n2 q2:Nat}:∀ u ∈ [Value.string s,.slice p1 n1 q1,.slice p2 n2 q2],u.oneCell'=true:=by simp [Value.oneCell']
theorem growFresh {α:Type} {e:TypeId} {c:Nat} {O:World→List Value→α→List Nat→Prop} {w W1:World} (h:W1=w.alloc (.cells #[] e)):GrowO e c O W1 w.heap.size W1.heap.size (.slice (some ⟨w.heap.size,0,none⟩) 0 0) []:=by
  rw [h,alloc_hs];exact GrowO.fresh
theorem GrowO.drew {α:Type} {e:TypeId} {c:Nat} {O:World→List Value→α→List Nat→Prop} (hO:KeepsC O) {w:World} {B C:Nat} {v:Value} {xs:List α} (h:GrowO e c O w B C v xs):GrowO e c O w.drew B C v xs:=h.keep hO (Nat.le_refl _) (fun _ _ _=>rfl)
theorem below_undrew {N:Nat} {u v:World} (h:Below N u.drew v):Below N u v:=⟨h.os,h.tape,h.output,h.size,h.block⟩
theorem clause_made {w4 w5:World} {d N:Nat} {v4 v5:Value} {xa xb:List Ex} {fp fq:List Nat} (h4:ORows w4 79 6 (OEx w4 d) v4 xa fp) (n4:fp.Nodup∧∀ a ∈ fp,N≤a∧a<w4.heap.size) (h5:ORows w5 79 6 (OEx w5 d) v5 xb fq) (n5:fq.Nodup∧∀ a ∈ fq,w4.heap.size≤a∧a<w5.heap.size) (hb:Below w4.heap.size w4 w5) (hN:N≤w4.heap.size) :
    OCl w5 (OEx w5 d) [v4,v5] (xa,xb) (fp ++ fq)∧(fp ++ fq).Nodup∧∀ a ∈ fp ++ fq,N≤a∧a<w5.heap.size:=by
  have kk:KeepOn fp w4 w5:=fun a ha=>hb.block a (n4.2 a ha).2
  refine ⟨⟨_,_,fp,fq,rfl,rfl,h4.keep kk (fun cs x f _ hs h=>h.keep (kk.sub hs)),h5⟩,?_,fun a ha=>?_⟩
  · rw [List.nodup_append]
    refine ⟨n4.1,n5.1,fun a ha b hb=>?_⟩
    have h:=n4.2 a ha
    have h':=n5.2 b hb
    omega
  · have:=hb.size
    rcases List.mem_append.1 ha with ha | ha
    · have h:=n4.2 a ha;omega
    · have h:=n5.2 a ha;omega
theorem exp_made {w w4 w5 W6:World} {d N b:Nat} {ft:Int→ByteArray→ByteArray→Nat→ByteArray} {k0 n0:Int} {t0 m0:ByteArray} {v4 v5:Value} {n1:Nat} {ks:List Ex} {cls:List Cl} {fp fq:List Nat} (hok:okI k0∧okI n0∧okS t0∧okS m0) (hft:∀ k t m n,okS t→okS (ft k t m n)) (hN:N≤w4.heap.size) (hwN:w.heap.size≤N) (hB:Below w.heap.size w w5) (hl:ks.length=n1)
    (h4:ORows w4 79 6 (OEx w4 d) v4 (ks.map (mapX (fT ft) d)) fp) (n4:fp.Nodup∧∀ a ∈ fp,N≤a∧a<w4.heap.size) (h5:ORows w5 127 2 (OCl w5 (OEx w5 d)) v5 (cls.map (mapC (fT ft) d)) fq) (n5:fq.Nodup∧∀ a ∈ fq,w4.heap.size≤a∧a<w5.heap.size) (hb:Below w4.heap.size w4 w5)
    (hbN:w.heap.size≤b∧b<N) (ho:∀ a,a≠b→W6.heap[a]?=w5.heap[a]?) (h0:Below 0 w5 W6) :
    ResO w (fun w' u fp=>∃ cs',u=.agg cs'.toArray∧OEx w' (d+1) cs' (mapX (fT ft) (d+1) (.mk k0 n0 t0 m0 ks cls)) fp) (.returned (.agg #[.int .i64 k0,.int .i64 n0,.string (ft k0 t0 m0 n1),.string m0,v4,v5])) W6:=by
  have s1:=hb.size
  have s2:=h0.size
  have k4:KeepOn fp w4 W6:=fun a ha=>by
    have h:=n4.2 a ha
    exact (ho a (by omega)).trans (hb.block a h.2)
  have k5:KeepOn fq w5 W6:=fun a ha=>by
    have h:=n5.2 a ha
    exact ho a (by omega)
  have e:mapX (fT ft) (d+1) (.mk k0 n0 t0 m0 ks cls)=.mk k0 n0 (ft k0 t0 m0 n1) m0 (ks.map (mapX (fT ft) d)) (cls.map (mapC (fT ft) d)):=by
    show fT ft (.mk k0 n0 t0 m0 (ks.map (mapX (fT ft) d)) (cls.map fun c=>(c.1.map (mapX (fT ft) d),c.2.map (mapX (fT ft) d))))=_
    unfold fT
    simp only [Ex.kind,Ex.n,Ex.text,Ex.mod,Ex.kids,Ex.clauses,List.length_map,hl]
    rfl
  refine ⟨_,fp ++ fq,rfl,⟨[.int .i64 k0,.int .i64 n0,.string (ft k0 t0 m0 n1),.string m0,v4,v5],rfl,?_⟩,?_,fun a ha=>?_,⟨h0.os.trans hB.os,h0.tape.trans hB.tape,h0.output.trans hB.output,Nat.le_trans hB.size s2,fun a ha=>(ho a (by omega)).trans (hB.block a ha)⟩⟩
  · rw [e]
    exact ⟨_,_,fp,fq,rfl,rfl,hok.1,hok.2.1,hft _ _ _ _ hok.2.2.1,hok.2.2.2,h4.keep k4 (fun cs x f _ hs h=>h.keep (k4.sub hs)),h5.keep k5 (fun cs x f _ hs h=>OCls.keep h (k5.sub hs))⟩
  · rw [List.nodup_append]
    refine ⟨n4.1,n5.1,fun a ha b hb=>?_⟩
    have h:=n4.2 a ha
    have h':=n5.2 b hb
    omega
  · rcases List.mem_append.1 ha with ha | ha
    · have h:=n4.2 a ha;omega
    · have h:=n5.2 a ha;omega
namespace CpU
def ExpS (d:Nat):Prop:=∀ (w:World) (cs:List Value) (x:Ex),HEx w All d cs x→wtEx d x≤1048576 →
  Calls Tryz.prog 115 #[.agg cs.toArray] w (ResO w fun w' u fp=>∃ cs',u=.agg cs'.toArray∧OEx w' d cs' (mapX (fT ftU) d x) fp)
def ExpsS (d:Nat):Prop:=∀ (w:World) (v:Value) (xs:List Ex),Rows w All 6 (HEx w All d) v xs→wtS (wtEx d) xs≤1048576 →
  Calls Tryz.prog 83 #[v] w (ResO w fun w' u fp=>ORows w' 79 6 (OEx w' d) u (xs.map (mapX (fT ftU) d)) fp)
theorem exps_of {d:Nat} (hE:ExpS d):ExpsS d:=by
  intro w v xs hr hw
  obtain ⟨p,cap,rfl,hcl,hcm,hx⟩:=hr
  have HWT:Hid (wtS (wtEx d) xs≤1048576):=hw
  have hnb:xs.length≤1048576:=by unfold wtS at hw;omega
  generalize hn:xs.length=n at *
  have HN:Hid (xs.length=n):=hn
  have HX:Hid (xs≠[]→∃ g off,p=some ⟨g,off,none⟩∧All g∧g<w.heap.size∧∀ i x,xs[i]?=some x→∃ cs,cs.length=6∧(∀ j,j<6→w.cell? ⟨g,off+i * 6+j,none⟩=cs[j]?)∧HEx w All d cs x):=hx
  obtain ⟨W1,hW1⟩:∃ W1,W1=w.alloc (.cells #[] 79):=⟨_,rfl⟩
  have HW1:Hid (W1=w.alloc (.cells #[] 79)):=hW1
  have G1:Hid (GrowO 79 6 (fun w=>OEx w d) W1 w.heap.size W1.heap.size (.slice (some ⟨w.heap.size,0,none⟩) 0 0) ((xs.take 0).map (mapX (fT ftU) d))):=growFresh hW1
  have B1:Hid (Below w.heap.size w W1):=by show Below _ _ _;rw [hW1];exact (Below.refl _ _).alloc (Nat.le_refl _) _
  clear hW1 hx hn hw
  go_enter Tryz.func83,Tryz.ntmps83
  go_wp2_with fail
  rw [← HW1.out]
  go_loopw [3,4] (fun ov iv wr=>∃ (k:Nat),k≤n∧iv=.int .i64 k∧Hid (GrowO 79 6 (fun w=>OEx w d) wr w.heap.size wr.heap.size ov ((xs.take k).map (mapX (fT ftU) d)))∧Hid (Below w.heap.size w wr)) (fun _ iv _=>n - (intOf iv).toNat)
  case atStart=>exact ⟨0,Nat.zero_le _,rfl,G1.out,B1.out⟩
  case round =>
    obtain ⟨k,hk,rfl,HG,HB⟩:=hrel
    by_cases hlt:k<n
    · obtain ⟨x,hxk⟩:∃ x,xs[k]?=some x:=⟨xs[k]'(by rw [HN.out];exact hlt),List.getElem?_eq_getElem _⟩
      obtain ⟨g,off,rfl,-,hgl,hat⟩:=HX.out (by intro h;rw [h] at hxk;simp at hxk)
      obtain ⟨cs,hc6,hcs,hex⟩:=hat k x hxk
      have HXR:Hid (HEx wr All d cs x):=hex.mono (SameOn.of_below HB.out) (fun _ h=>h)
      obtain ⟨tk,tn,tt,te,r1,m1,s1,r2,m2,s2,rfl⟩:=HEx.shapeR hex
      have a0:=hcs 0 (by omega)
      have a1:=hcs 1 (by omega)
      have a2:=hcs 2 (by omega)
      have a3:=hcs 3 (by omega)
      have a4:=hcs 4 (by omega)
      have a5:=hcs 5 (by omega)
      rw [← HB.out.cell (p:=⟨g,_,none⟩) hgl] at a0 a1 a2 a3 a4 a5
      clear hcs hat
      simp at a0 a1 a2 a3 a4 a5
      have hki:(k:Int)<(n:Int):=by omega
      have hk0:(0:Int)≤(k:Int):=by omega
      have HWX:Hid (wtEx d x≤1048576):=by
        show _≤_
        have h1:=HWT.out
        have h2:=sum_take_succ (wtEx d) xs k x hxk
        have h3:=sum_take_le (wtEx d) xs (k+1)
        unfold wtS at h1
        omega
      have HMS:Hid ((xs.take (k+1)).map (mapX (fT ftU) d)=(xs.take k).map (mapX (fT ftU) d) ++ [mapX (fT ftU) d x]):=take_map_succ _ hxk
      have hll:((xs.take k).map (mapX (fT ftU) d)).length≤100000000:=by rw [List.length_map,List.length_take];omega
      generalize (xs.take k).map (mapX (fT ftU) d)=acc at *
      clear hex hc6
      go_wp2_with fail
      refine (hE wr _ x HXR.out HWX.out).mono ?_
      rintro e w3 ⟨u,fp,rfl,⟨cs',rfl,hx3⟩,hnd,hrg,hb3⟩
      obtain ⟨sk,sn,sx,se,p1,n1,q1,p2,n2,q2,hsh⟩:=hx3.shape
      subst hsh
      have G3:Hid (GrowO 79 6 (fun w=>OEx w d) w3 w.heap.size wr.heap.size u3 acc):=HG.out.next (keepsX d) hb3
      have X3:Hid (OEx w3 d [.int .i64 sk,.int .i64 sn,.string sx,.string se,.slice p1 n1 q1,.slice p2 n2 q2] (mapX (fT ftU) d x) fp∧fp.Nodup∧∀ a ∈ fp,wr.heap.size≤a∧a<w3.heap.size):=⟨hx3,hnd,hrg⟩
      have B3:Hid (Below w.heap.size w w3):=HB.out.trans (hb3.mono HB.out.size)
      clear hx3 hnd hrg hb3 a0 a1 a2 a3 a4 a5
      go_wp2_with (at_builtin;refine wpList_push (keepsX d) 76 79 6 96 _ rfl _ _ rfl Tryz.underlying76 infoX rfl (by decide) (by decide) w.heap.size wr.heap.size u3 acc rfl [.int .i64 sk,.int .i64 sn,.string sx,.string se,.slice p1 n1 q1,.slice p2 n2 q2] rfl (mapX (fT ftU) d x) fp G3.out X3.out.1 X3.out.2.1 X3.out.2.2 rfl oneX hll ?_)
      intro v4 w4 hg4 hb4
      have B4:Hid (Below w.heap.size w w4):=(B3.out.alloc B3.out.size _).trans hb4
      rw [← HMS.out] at hg4
      have G4:Hid (GrowO 79 6 (fun w=>OEx w d) w4 w.heap.size w4.heap.size v4 ((xs.take (k+1)).map (mapX (fT ftU) d))):=hg4
      clear hg4 hb4
      go_wp2_with fail
      exact ⟨⟨k+1,by omega,by go_num,G4.out,B4.out⟩,by simp [intOf];omega⟩
    · obtain rfl:k=n:=by omega
      obtain ⟨fp,r1,r2,r3,r4,r5⟩:=HG.out.done
      rw [List.take_of_length_le (by rw [HN.out];exact Nat.le_refl _)] at r1
      obtain ⟨pu,cu,hu,-⟩:=HG.out.shape
      subst hu
      have FIN:Hid (ResO w (fun w' u fp=>ORows w' 79 6 (OEx w' d) u (xs.map (mapX (fT ftU) d)) fp) (.returned _) wr):=⟨_,fp,rfl,r1,r2,fun a ha=>r3 a ha,HB.out⟩
      clear r1 r2 r3 r4 r5
      go_wp2_with fail
      go_ret
      exact FIN.out
def ClsS (d:Nat):Prop:=∀ (w:World) (v:Value) (xs:List Cl),Rows w All 2 (HCl w All (HEx w All d)) v xs→wtS (wtCl (wtEx d)) xs≤1048576 →
  Calls Tryz.prog 54 #[v] w (ResO w fun w' u fp=>ORows w' 127 2 (OCl w' (OEx w' d)) u (xs.map (mapC (fT ftU) d)) fp)
theorem clauses_of {d:Nat} (hE:ExpsS d):ClsS d:=by
  intro w v xs hr hw
  obtain ⟨p,cap,rfl,hcl,hcm,hx⟩:=hr
  have HWT:Hid (wtS (wtCl (wtEx d)) xs≤1048576):=hw
  have hnb:xs.length≤1048576:=by unfold wtS at hw;omega
  generalize hn:xs.length=n at *
  have HN:Hid (xs.length=n):=hn
  have HX:Hid (xs≠[]→∃ g off,p=some ⟨g,off,none⟩∧All g∧g<w.heap.size∧∀ i x,xs[i]?=some x→∃ cs,cs.length=2∧(∀ j,j<2→w.cell? ⟨g,off+i * 2+j,none⟩=cs[j]?)∧HCl w All (HEx w All d) cs x):=hx
  obtain ⟨W1,hW1⟩:∃ W1,W1=w.alloc (.cells #[] 127):=⟨_,rfl⟩
  have HW1:Hid (W1=w.alloc (.cells #[] 127)):=hW1
  have G1:Hid (GrowO 127 2 (fun w=>OCl w (OEx w d)) W1 w.heap.size W1.heap.size (.slice (some ⟨w.heap.size,0,none⟩) 0 0) ((xs.take 0).map (mapC (fT ftU) d))):=growFresh hW1
  have B1:Hid (Below w.heap.size w W1):=by show Below _ _ _;rw [hW1];exact (Below.refl _ _).alloc (Nat.le_refl _) _
  clear hW1 hx hn hw
  go_enter Tryz.func54,Tryz.ntmps54
  go_wp2_with fail
  rw [← HW1.out]
  go_loopw [3,4] (fun ov iv wr=>∃ (k:Nat),k≤n∧iv=.int .i64 k∧Hid (GrowO 127 2 (fun w=>OCl w (OEx w d)) wr w.heap.size wr.heap.size ov ((xs.take k).map (mapC (fT ftU) d)))∧Hid (Below w.heap.size w wr)) (fun _ iv _=>n - (intOf iv).toNat)
  case atStart=>exact ⟨0,Nat.zero_le _,rfl,G1.out,B1.out⟩
  case round =>
    obtain ⟨k,hk,rfl,HG,HB⟩:=hrel
    by_cases hlt:k<n
    · obtain ⟨x,hxk⟩:∃ x,xs[k]?=some x:=⟨xs[k]'(by rw [HN.out];exact hlt),List.getElem?_eq_getElem _⟩
      obtain ⟨g,off,rfl,-,hgl,hat⟩:=HX.out (by intro h;rw [h] at hxk;simp at hxk)
      obtain ⟨cs,hc6,hcs,hex⟩:=hat k x hxk
      obtain ⟨pv,bv,rfl,hp,hb⟩:=hex
      have HP:Hid (Rows wr.drew All 6 (HEx wr.drew All d) pv x.1):=hp.mono (SameOn.of_below HB.out.drew) (fun _ h=>h) (fun _ _ _ h=>h.mono (SameOn.of_below HB.out.drew) (fun _ h=>h))
      have HBo:Hid (Rows w All 6 (HEx w All d) bv x.2):=hb
      have a0:=hcs 0 (by omega)
      have a1:=hcs 1 (by omega)
      clear hcs hat
      simp only [List.getElem?_cons_zero,List.getElem?_cons_succ,Nat.add_zero] at a0 a1
      obtain ⟨r1,s1,rfl,-⟩:=hp
      obtain ⟨r2,s2,rfl,-⟩:=hb
      generalize x.1.length=m1 at *
      generalize x.2.length=m2 at *
      have CELLS:Hid (∀ w',Below w.heap.size w w'→w'.cell? ⟨g,off+k * 2,none⟩=some (.slice r1 m1 s1)∧w'.cell? ⟨g,off+k * 2+1,none⟩=some (.slice r2 m2 s2)):=fun w' h=>⟨(h.cell (p:=⟨g,_,none⟩) hgl).trans a0,(h.cell (p:=⟨g,_,none⟩) hgl).trans a1⟩
      have hki:(k:Int)<(n:Int):=by omega
      have hk0:(0:Int)≤(k:Int):=by omega
      have hwx:wtCl (wtEx d) x≤1048576:=by
        have h1:=HWT.out
        have h2:=sum_take_succ (wtCl (wtEx d)) xs k x hxk
        have h3:=sum_take_le (wtCl (wtEx d)) xs (k+1)
        unfold wtS at h1
        omega
      have hw':wtCl (wtEx d) x=wtS (wtEx d) x.1+wtS (wtEx d) x.2:=rfl
      have HWX1:Hid (wtS (wtEx d) x.1≤1048576):=by show _≤_;omega
      have HWX2:Hid (wtS (wtEx d) x.2≤1048576):=by show _≤_;omega
      have HMS:Hid ((xs.take (k+1)).map (mapC (fT ftU) d)=(xs.take k).map (mapC (fT ftU) d) ++ [mapC (fT ftU) d x]):=take_map_succ _ hxk
      have hll:((xs.take k).map (mapC (fT ftU) d)).length≤100000000:=by rw [List.length_map,List.length_take];omega
      generalize (xs.take k).map (mapC (fT ftU) d)=acc at *
      clear hc6 hwx hw' a0 a1
      obtain ⟨q0,q1⟩:=CELLS.out wr HB.out
      go_wp2_with fail
      go_region_held3 (fun w'=>w'.cell? ⟨g,off+k * 2,none⟩=some (.slice r1 m1 s1)∧w'.cell? ⟨g,off+k * 2+1,none⟩=some (.slice r2 m2 s2))
        (first | with_reducible exact CELLS.out _ HB.out.drew | with_reducible exact CELLS.out _ B6.out | with_reducible exact CELLS.out _ (B5.out.alloc B5.out.size _) | with_reducible exact CELLS.out _ B5.out | with_reducible exact CELLS.out _ B4.out | go_keep)
        (first
          | (refine step_push (keepsC d) 77 127 2 48 _ (by rfl) _ _ (by rfl) Tryz.underlying77 infoC rfl (by decide) (by decide) w.heap.size wr.heap.size u3 acc (by rfl) [.slice pu4 lu4 cu4,.slice pu5 lu5 cu5] _ (by rfl) (by rfl) (mapC (fT ftU) d x) (fp ++ fq) G5.out X5.out.1 X5.out.2.1 X5.out.2.2 rfl oneC hll ?_;intro g6 cap6 w6 hg6 hb6;have B6:Hid (Below w.heap.size w w6):=(B5.out.alloc B5.out.size _).trans hb6;have G6:Hid (GrowO 127 2 (fun w=>OCl w (OEx w d)) w6 w.heap.size w6.heap.size (.slice (some ⟨g6,0,none⟩) (acc.length+1) cap6) (acc ++ [mapC (fT ftU) d x])):=hg6;clear hg6 hb6)
          | (have _:=B4;go_at_call 83;refine (hE w4 _ x.2 (HBo.out.mono (SameOn.of_below B4.out) (fun _ h=>h) (fun _ _ _ h=>h.mono (SameOn.of_below B4.out) (fun _ h=>h))) HWX2.out).mono ?_;rintro e w5 ⟨u5,fq,rfl,ho5,hnd5,hrg5,hb5⟩;obtain ⟨pu5,cu5,hu5,-⟩:=ho5.shape;generalize (x.2.map (mapX (fT ftU) d)).length=lu5 at hu5;subst hu5;have B5:Hid (Below w.heap.size w w5):=B4.out.trans (hb5.mono B4.out.size);have G5:Hid (GrowO 127 2 (fun w=>OCl w (OEx w d)) w5 w.heap.size wr.heap.size u3 acc):=G4.out.next (keepsC d) hb5;have X5:Hid (OCl w5 (OEx w5 d) [.slice pu4 lu4 cu4,.slice pu5 lu5 cu5] (mapC (fT ftU) d x) (fp ++ fq)∧(fp ++ fq).Nodup∧∀ a ∈ fp ++ fq,wr.heap.size≤a∧a<w5.heap.size):=clause_made O4.out ND4.out ho5 ⟨hnd5,hrg5⟩ hb5 N4.out;clear ho5 hnd5 hrg5 hb5)
          | (go_at_call 83;refine (hE _ _ x.1 HP.out HWX1.out).mono ?_;rintro e w4 ⟨u4,fp,rfl,ho4,hnd4,hrg4,hb4⟩;obtain ⟨pu4,cu4,hu4,-⟩:=ho4.shape;generalize (x.1.map (mapX (fT ftU) d)).length=lu4 at hu4;subst hu4;have N4:Hid (wr.heap.size≤w4.heap.size):=hb4.size;have B4:Hid (Below w.heap.size w w4):=HB.out.trans (below_undrew (hb4.mono HB.out.size));have G4:Hid (GrowO 127 2 (fun w=>OCl w (OEx w d)) w4 w.heap.size wr.heap.size u3 acc):=(HG.out.drew (keepsC d)).next (keepsC d) hb4;have O4:Hid (ORows w4 79 6 (OEx w4 d) (.slice pu4 lu4 cu4) (x.1.map (mapX (fT ftU) d)) fp):=ho4;have ND4:Hid (fp.Nodup∧∀ a ∈ fp,wr.heap.size≤a∧a<w4.heap.size):=⟨hnd4,hrg4⟩;clear ho4 hnd4 hrg4 hb4))
      all_goals
        go_split_ands
        have G6':=G6.out
        rw [← HMS.out] at G6'
        have G7:Hid (GrowO 127 2 (fun w=>OCl w (OEx w d)) w6 w.heap.size w6.heap.size (.slice (some ⟨g6,0,none⟩) (acc.length+1) cap6) ((xs.take (k+1)).map (mapC (fT ftU) d))):=G6'
        clear G6' q0 q1
        go_wp2_with fail
        exact ⟨⟨k+1,by omega,by go_num,G7.out,B6.out⟩,by simp [intOf];omega⟩
    · obtain rfl:k=n:=by omega
      obtain ⟨fp,r1,r2,r3,r4,r5⟩:=HG.out.done
      rw [List.take_of_length_le (by rw [HN.out];exact Nat.le_refl _)] at r1
      obtain ⟨pu,cu,hu,-⟩:=HG.out.shape
      subst hu
      have FIN:Hid (ResO w (fun w' u fp=>ORows w' 127 2 (OCl w' (OEx w' d)) u (xs.map (mapC (fT ftU) d)) fp) (.returned _) wr):=⟨_,fp,rfl,r1,r2,fun a ha=>r3 a ha,HB.out⟩
      clear r1 r2 r3 r4 r5
      go_wp2_with fail
      go_ret
      exact FIN.out
theorem exp_of {d:Nat} (hE:ExpsS d) (hCl:ClsS d):ExpS (d+1):=by
  intro w cs x hr hw
  obtain ⟨kv,cv,rfl,o1,o2,o3,o4,hk,hcl⟩:=hr
  obtain ⟨k0,n0,t0,m0,ks,cls⟩:=x
  simp only [Ex.kind,Ex.n,Ex.text,Ex.mod,Ex.kids,Ex.clauses] at *
  have hw':wtEx (d+1) (.mk k0 n0 t0 m0 ks cls)=t0.size+m0.size+wtS (wtEx d) ks+wtS (wtCl (wtEx d)) cls:=rfl
  have HOK:Hid (okI k0∧okI n0∧okS t0∧okS m0):=⟨o1,o2,o3,o4⟩
  have HKS:Hid (Rows w All 6 (HEx w All d) kv ks):=hk
  have HCS:Hid (Rows w All 2 (HCl w All (HEx w All d)) cv cls):=hcl
  have HW1:Hid (wtS (wtEx d) ks≤1048576):=by show _≤_;omega
  have HW2:Hid (wtS (wtCl (wtEx d)) cls≤1048576):=by show _≤_;omega
  obtain ⟨p1,c1,rfl,-⟩:=hk
  obtain ⟨p2,c2,rfl,-⟩:=hcl
  generalize hn1:ks.length=n1 at *
  generalize hn2:cls.length=n2 at *
  have HL1:Hid (ks.length=n1):=hn1
  have HL2:Hid (cls.length=n2):=hn2
  obtain ⟨W2,hW2⟩:∃ W2,W2=(w.alloc (.cells #[.int .i64 k0,.int .i64 n0,.string t0,.string m0,.slice p1 n1 c1,.slice p2 n2 c2] 79)).alloc (.cells #[.int .i64 0,.int .i64 0,.string ⟨#[]⟩,.string ⟨#[]⟩,.slice none 0 0,.slice none 0 0] 79):=⟨_,rfl⟩
  have HW2':Hid (W2=(w.alloc (.cells #[.int .i64 k0,.int .i64 n0,.string t0,.string m0,.slice p1 n1 c1,.slice p2 n2 c2] 79)).alloc (.cells #[.int .i64 0,.int .i64 0,.string ⟨#[]⟩,.string ⟨#[]⟩,.slice none 0 0,.slice none 0 0] 79)):=hW2
  have B2:Hid (Below w.heap.size w W2):=by show Below _ _ _;rw [hW2];exact ((Below.refl _ _).alloc (Nat.le_refl _) _).alloc (by simp) _
  have e2:Hid (Blk W2 w.heap.size #[.int .i64 k0,.int .i64 n0,.string t0,.string m0,.slice p1 n1 c1,.slice p2 n2 c2] 79):=by show Blk _ _ _ _;rw [hW2];exact Blk.new.alloc
  have r2:Hid (Blk W2 (w.heap.size+1) #[.int .i64 0,.int .i64 0,.string ⟨#[]⟩,.string ⟨#[]⟩,.slice none 0 0,.slice none 0 0] 79):=by
    have:=Blk.new (w:=w.alloc (.cells #[.int .i64 k0,.int .i64 n0,.string t0,.string m0,.slice p1 n1 c1,.slice p2 n2 c2] 79)) (cs:=#[.int .i64 0,.int .i64 0,.string ⟨#[]⟩,.string ⟨#[]⟩,.slice none 0 0,.slice none 0 0]) (t:=79)
    rw [alloc_hs] at this
    show Blk _ _ _ _;rw [hW2];exact this
  have S2:Hid (W2.heap.size=w.heap.size+2):=by show _=_;rw [hW2,alloc_hs,alloc_hs]
  have P2:Hid (Rows W2.drew All 6 (HEx W2.drew All d) (.slice p1 n1 c1) ks):=HKS.out.mono (SameOn.of_below B2.out.drew) (fun _ h=>h) (fun _ _ _ h=>h.mono (SameOn.of_below B2.out.drew) (fun _ h=>h))
  have CELLS:Hid (∀ w',Below (w.heap.size+1) W2 w'→w'.cell? ⟨w.heap.size,0,none⟩=some (.int .i64 k0)∧w'.cell? ⟨w.heap.size,1,none⟩=some (.int .i64 n0)∧w'.cell? ⟨w.heap.size,2,none⟩=some (.string t0)∧w'.cell? ⟨w.heap.size,3,none⟩=some (.string m0)∧w'.cell? ⟨w.heap.size,4,none⟩=some (.slice p1 n1 c1)∧w'.cell? ⟨w.heap.size,5,none⟩=some (.slice p2 n2 c2)):=fun w' h=>by
    have e:=e2.out.below h (by omega)
    exact ⟨e.cell 0 _ rfl,e.cell 1 _ rfl,e.cell 2 _ rfl,e.cell 3 _ rfl,e.cell 4 _ rfl,e.cell 5 _ rfl⟩
  have CELLS6:Hid (∀ w0,Below (w.heap.size+1) W2 w0→∀ a b c e f g,((((((w0.setCell ⟨w.heap.size+1,0,none⟩ a).setCell ⟨w.heap.size+1,1,none⟩ b).setCell ⟨w.heap.size+1,2,none⟩ c).setCell ⟨w.heap.size+1,3,none⟩ e).setCell ⟨w.heap.size+1,4,none⟩ f).setCell ⟨w.heap.size+1,5,none⟩ g).cell? ⟨w.heap.size,0,none⟩=some (.int .i64 k0)∧((((((w0.setCell ⟨w.heap.size+1,0,none⟩ a).setCell ⟨w.heap.size+1,1,none⟩ b).setCell ⟨w.heap.size+1,2,none⟩ c).setCell ⟨w.heap.size+1,3,none⟩ e).setCell ⟨w.heap.size+1,4,none⟩ f).setCell ⟨w.heap.size+1,5,none⟩ g).cell? ⟨w.heap.size,1,none⟩=some (.int .i64 n0)∧((((((w0.setCell ⟨w.heap.size+1,0,none⟩ a).setCell ⟨w.heap.size+1,1,none⟩ b).setCell ⟨w.heap.size+1,2,none⟩ c).setCell ⟨w.heap.size+1,3,none⟩ e).setCell ⟨w.heap.size+1,4,none⟩ f).setCell ⟨w.heap.size+1,5,none⟩ g).cell? ⟨w.heap.size,2,none⟩=some (.string t0)∧((((((w0.setCell ⟨w.heap.size+1,0,none⟩ a).setCell ⟨w.heap.size+1,1,none⟩ b).setCell ⟨w.heap.size+1,2,none⟩ c).setCell ⟨w.heap.size+1,3,none⟩ e).setCell ⟨w.heap.size+1,4,none⟩ f).setCell ⟨w.heap.size+1,5,none⟩ g).cell? ⟨w.heap.size,3,none⟩=some (.string m0)∧((((((w0.setCell ⟨w.heap.size+1,0,none⟩ a).setCell ⟨w.heap.size+1,1,none⟩ b).setCell ⟨w.heap.size+1,2,none⟩ c).setCell ⟨w.heap.size+1,3,none⟩ e).setCell ⟨w.heap.size+1,4,none⟩ f).setCell ⟨w.heap.size+1,5,none⟩ g).cell? ⟨w.heap.size,4,none⟩=some (.slice p1 n1 c1)∧((((((w0.setCell ⟨w.heap.size+1,0,none⟩ a).setCell ⟨w.heap.size+1,1,none⟩ b).setCell ⟨w.heap.size+1,2,none⟩ c).setCell ⟨w.heap.size+1,3,none⟩ e).setCell ⟨w.heap.size+1,4,none⟩ f).setCell ⟨w.heap.size+1,5,none⟩ g).cell? ⟨w.heap.size,5,none⟩=some (.slice p2 n2 c2)):=fun w0 h a b c e f g=>CELLS.out _ ((((((h.setCell (p:=⟨w.heap.size+1,0,none⟩) (Nat.le_refl _) _).setCell (p:=⟨w.heap.size+1,1,none⟩) (Nat.le_refl _) _).setCell (p:=⟨w.heap.size+1,2,none⟩) (Nat.le_refl _) _).setCell (p:=⟨w.heap.size+1,3,none⟩) (Nat.le_refl _) _).setCell (p:=⟨w.heap.size+1,4,none⟩) (Nat.le_refl _) _).setCell (p:=⟨w.heap.size+1,5,none⟩) (Nat.le_refl _) _)
  obtain ⟨q0,q1,q2,q3,q4,q5⟩:=CELLS.out W2 (Below.refl _ _)
  have x0:=r2.out.cell 0 _ rfl
  have f0:=r2.out.frozen 0
  have x1:=r2.out.cell 1 _ rfl
  have f1:=r2.out.frozen 1
  have x2:=r2.out.cell 2 _ rfl
  have f2:=r2.out.frozen 2
  have x3:=r2.out.cell 3 _ rfl
  have f3:=r2.out.frozen 3
  have x4:=r2.out.cell 4 _ rfl
  have f4:=r2.out.frozen 4
  have x5:=r2.out.cell 5 _ rfl
  have f5:=r2.out.frozen 5
  clear hW2 hw hw' hn1 hn2 o1 o2 o3 o4
  go_enter Tryz.func115,Tryz.ntmps115
  go_wp2_with fail
  rw [← HW2'.out]
  go_region_held3 (fun w'=>w'.cell? ⟨w.heap.size,0,none⟩=some (.int .i64 k0)∧w'.cell? ⟨w.heap.size,1,none⟩=some (.int .i64 n0)∧w'.cell? ⟨w.heap.size,2,none⟩=some (.string t0)∧w'.cell? ⟨w.heap.size,3,none⟩=some (.string m0)∧w'.cell? ⟨w.heap.size,4,none⟩=some (.slice p1 n1 c1)∧w'.cell? ⟨w.heap.size,5,none⟩=some (.slice p2 n2 c2))
    (first | with_reducible exact CELLS6.out _ K5.out _ _ _ _ _ _ | with_reducible exact CELLS.out _ (Below.refl _ _).drew | with_reducible exact CELLS.out _ K5.out | with_reducible exact CELLS.out _ K4.out | go_keep)
    (first
      | (have _:=K4;go_at_call 54;refine (hCl _ _ cls R4.out HW2.out).mono ?_;rintro e w5 ⟨u5,fq,rfl,ho5,hnd5,hrg5,hb5⟩;obtain ⟨pu5,cu5,hu5,-⟩:=ho5.shape;rw [List.length_map,HL2.out] at hu5;subst hu5;have HO5:Hid (ORows w5 127 2 (OCl w5 (OEx w5 d)) (.slice pu5 n2 cu5) (cls.map (mapC (fT ftU) d)) fq):=ho5;have ND5:Hid (fq.Nodup∧∀ a ∈ fq,w4.heap.size≤a∧a<w5.heap.size):=⟨hnd5,hrg5⟩;have L5:Hid (Below w4.heap.size w4 w5):=hb5;have K5:Hid (Below (w.heap.size+1) W2 w5):=K4.out.trans (hb5.mono (by have h1:=K4.out.size;have h2:=S2.out;omega));have rr:=(r2.out.next M4.out).next hb5;have HRR:Hid (Blk w5 (w.heap.size+1) #[.int .i64 0,.int .i64 0,.string ⟨#[]⟩,.string ⟨#[]⟩,.slice none 0 0,.slice none 0 0] 79):=rr;have y0:=rr.cell 0 _ rfl;have g0:=rr.frozen 0;have y1:=rr.cell 1 _ rfl;have g1:=rr.frozen 1;have y2:=rr.cell 2 _ rfl;have g2:=rr.frozen 2;have y3:=rr.cell 3 _ rfl;have g3:=rr.frozen 3;have y4:=rr.cell 4 _ rfl;have g4:=rr.frozen 4;have y5:=rr.cell 5 _ rfl;have g5:=rr.frozen 5;clear ho5 hnd5 hrg5 hb5 rr x0 x1 x2 x3 x4 x5 f0 f1 f2 f3 f4 f5 q0 q1 q2 q3 q4 q5)
      | (go_at_call 83;refine (hE _ _ ks P2.out HW1.out).mono ?_;rintro e w4 ⟨u4,fp,rfl,ho4,hnd4,hrg4,hb4⟩;obtain ⟨pu4,cu4,hu4,-⟩:=ho4.shape;rw [List.length_map,HL1.out] at hu4;subst hu4;have HO4:Hid (ORows w4 79 6 (OEx w4 d) (.slice pu4 n1 cu4) (ks.map (mapX (fT ftU) d)) fp):=ho4;have ND4:Hid (fp.Nodup∧∀ a ∈ fp,W2.heap.size≤a∧a<w4.heap.size):=⟨hnd4,hrg4⟩;have M4:Hid (Below W2.heap.size W2 w4):=below_undrew hb4;have K4:Hid (Below (w.heap.size+1) W2 w4):=M4.out.mono (by have h2:=S2.out;omega);have R4:Hid (Rows w4 All 2 (HCl w4 All (HEx w4 All d)) (.slice p2 n2 c2) cls):=(by have hbb:Below w.heap.size w w4:=B2.out.trans (M4.out.mono B2.out.size);exact HCS.out.mono (SameOn.of_below hbb) (fun _ h=>h) (fun _ _ _ h=>h.mono (SameOn.of_below hbb) (fun _ h=>h) (fun _ _ h=>h.mono (SameOn.of_below hbb) (fun _ h=>h))));clear ho4 hnd4 hrg4 hb4))
  all_goals
    go_split_ands
    go_wp2_with fail
    obtain ⟨W6,hW6⟩:∃ W6,W6=(((((w5.setCell ⟨w.heap.size+1,0,none⟩ (.int .i64 k0)).setCell ⟨w.heap.size+1,1,none⟩ (.int .i64 n0)).setCell ⟨w.heap.size+1,2,none⟩ (.string t0)).setCell ⟨w.heap.size+1,3,none⟩ (.string m0)).setCell ⟨w.heap.size+1,4,none⟩ (.slice pu4 n1 cu4)).setCell ⟨w.heap.size+1,5,none⟩ (.slice pu5 n2 cu5):=⟨_,rfl⟩
    have bz:Blk W6 (w.heap.size+1) #[.int .i64 k0,.int .i64 n0,.string t0,.string m0,.slice pu4 n1 cu4,.slice pu5 n2 cu5] 79:=by rw [hW6];exact (((((HRR.out.same rfl).same rfl).same rfl).same rfl).same rfl).same rfl
    have j0:=bz.cell 0 _ rfl
    have j1:=bz.cell 1 _ rfl
    have j2:=bz.cell 2 _ rfl
    have j3:=bz.cell 3 _ rfl
    have j4:=bz.cell 4 _ rfl
    have j5:=bz.cell 5 _ rfl
    have fin:ResO w (fun w' u fp=>∃ cs',u=.agg cs'.toArray∧OEx w' (d+1) cs' (mapX (fT ftU) (d+1) (.mk k0 n0 t0 m0 ks cls)) fp) (.returned (.agg #[.int .i64 k0,.int .i64 n0,.string t0,.string m0,.slice pu4 n1 cu4,.slice pu5 n2 cu5])) W6:=exp_made (N:=W2.heap.size) (b:=w.heap.size+1) HOK.out (fun k t m n h=>h) (by have:=S2.out;have:=M4.out.size;omega) (by have:=B2.out.size;omega) (B2.out.trans ((M4.out.mono B2.out.size).trans (L5.out.mono (by have:=B2.out.size;have:=M4.out.size;omega)))) HL1.out HO4.out ND4.out HO5.out ND5.out L5.out (by have:=S2.out;omega) (fun a ha=>by rw [hW6,Below.heap_setCell _ _ _ _ ha,Below.heap_setCell _ _ _ _ ha,Below.heap_setCell _ _ _ _ ha,Below.heap_setCell _ _ _ _ ha,Below.heap_setCell _ _ _ _ ha,Below.heap_setCell _ _ _ _ ha]) (by rw [hW6];exact ((((((Below.refl 0 w5).setCell (Nat.zero_le _) _).setCell (Nat.zero_le _) _).setCell (Nat.zero_le _) _).setCell (Nat.zero_le _) _).setCell (Nat.zero_le _) _).setCell (Nat.zero_le _) _)
    rw [hW6] at fin j0 j1 j2 j3 j4 j5
    exact bodyPost_ret (v:=.agg #[.int .i64 k0,.int .i64 n0,.string t0,.string m0,.slice pu4 n1 cu4,.slice pu5 n2 cu5]) (by simp [results,Tryz.results115,go_sem,j0,j1,j2,j3,j4,j5]) rfl fin
theorem all:∀ d,ExpS d
  | 0=>fun w cs x h _=>h.elim
  | d+1=>exp_of (exps_of (all d)) (clauses_of (exps_of (all d)))
theorem exps (d:Nat):ExpsS d:=exps_of (all d)
theorem clauses (d:Nat):ClsS d:=clauses_of (exps d)
end CpU
end Go.Proofs.YtefpgpbbgclemaaGreatDoor
