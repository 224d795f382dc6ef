/-
  CallMath CallsM
-/
import Derived.Test.YtdhlonogmnkemaaGreatDoorP23
import Derived.Test.YtdhlonogmnkemaaGreatDoorP20
set_option maxHeartbeats 16000000
set_option linter.unusedVariables false
set_option maxRecDepth 100000
namespace Go.Proofs.YtdhlonogmnkemaaGreatDoor
open Go.ChangeShapes Go.WideShapes Go.ChangeAt Go.RowKit
section
open Go.Proofs.Tryz
def mapY (f:Ex->Ex):Nat->Ex->Ex
 | 0,x=>x
 | d+1,x=>f (.mk x.kind x.n x.text x.mod (x.kids.map (mapY f d)) (x.clauses.map λc=>(c.1,c.2.map (mapY f d))))
def Zao (f:Ex->Ex) (d:Nat) (c:Cl):Cl:=(c.1,c.2.map (mapY f d))
def ZkS (q:Pl) (near:Bool) (k:Int) (t m:ByteArray) (n:Nat):Bool :=
 decide (k=8) && ((t.toList == q.name.toList && (n:Int) == q.arity) && (m.toList == q.mod.toList || (m.toList.isEmpty && near)))
def ftN (q:Pl) (near:Bool) (to:ByteArray) (k:Int) (t m:ByteArray) (n:Nat):ByteArray:=if ZkS q near k t m n=true then to else t
theorem Zh2 (q:Pl) (home to:ByteArray):ftC q home to=ftN q (home.toList == q.mod.toList) to:=rfl
theorem Zmw {q:Pl} {near:Bool} {to:ByteArray} (h:okS to) {k:Int} {t m:ByteArray} {n:Nat} (ht:okS t):okS (ftN q near to k t m n):=by
 unfold ftN;split
 . exact h
 . exact ht
namespace CpC
def ExpS (q:Pl) (near:Bool) (to:ByteArray) (d:Nat):Prop:=∀ (w:World) (cs:List Value) (x:Ex),HEx w All d cs x->wtEx d x<=16777216 ->
 Calls prog 126 #[.agg cs.toArray,.agg #[.string q.mod,.string q.name,.int .i64 q.arity,.int .i64 q.clause],.bool near,.string q.mod,.string to] w (ResO w λw' u fp=>∃ cs',u=.agg cs'.toArray/\OEx w' d cs' (mapY (fT (ftN q near to)) d x) fp)
def ExpsS (q:Pl) (near:Bool) (to:ByteArray) (d:Nat):Prop:=∀ (w:World) (v:Value) (xs:List Ex),Rows w All 6 (HEx w All d) v xs->wtS (wtEx d) xs<=16777216 ->
 Calls prog 84 #[v,.agg #[.string q.mod,.string q.name,.int .i64 q.arity,.int .i64 q.clause],.bool near,.string q.mod,.string to] w (ResO w λw' u fp=>Zg w' 76 6 (OEx w' d) u (xs.map (mapY (fT (ftN q near to)) d)) fp)
theorem exps_of {q:Pl} {near:Bool} {to:ByteArray} {d:Nat} (hE:ExpS q near to d):ExpsS q near to d:=by
 intro w v xs hr hw;obtain ⟨p,cap,rfl,hcl,hcm,hx⟩:=hr;have HWT:=hid hw;have hnb:xs.length<=16777216:=(by unfold wtS at hw;omega);generalize hn:xs.length=n at *;have HN:=hid hn;have HX:=hid hx;obtain ⟨qm,qn,qa,qc⟩:=q;obtain ⟨W1,hW1⟩:∃ W1,W1=w.alloc (.cells #[.string qm,.string qn,.int .i64 qa,.int .i64 qc] 31):=⟨_,rfl⟩;have B1:Below w.heap.size w W1:=(by rw [hW1];exact (sqN _ _));have s1:W1.heap.size=w.heap.size+1:=(by rw [hW1,Zb]);obtain ⟨W2,hW2⟩:∃ W2,W2=W1.alloc (.cells #[] 76):=⟨_,rfl⟩;have HW2:Hid (W2=(w.alloc (.cells #[.string qm,.string qn,.int .i64 qa,.int .i64 qc] 31)).alloc (.cells #[] 76)):=(by show _=_;rw [hW2,hW1])
 have G2:Hid (ZV 76 6 (λw=>OEx w d) W2 (w.heap.size+1) W2.heap.size (.slice (some ⟨w.heap.size+1,0,none⟩) 0 0) ((xs.take 0).map (mapY (fT (ftN ⟨qm,qn,qa,qc⟩ near to)) d))):=by
  have h:=Zcr (e:=76) (c:=6) (O:=λw=>OEx w d) hW2;rw [s1] at h;exact h
 have B2:Hid (Below w.heap.size w W2):=(by show Below _ _ _;rw [hW2];exact B1.alloc B1.size _);have b2:Hid (Blk W2 w.heap.size #[.string qm,.string qn,.int .i64 qa,.int .i64 qc] 31):=(by show Blk _ _ _ _;rw [hW2,hW1];exact Blk.new.alloc);clear hW1 hW2 hx hn B1 s1 hw;go_enter func84,ntmps84;go_wp2_with (rw [<-HW2.out])
 go_loopw [11,12] (λov iv wr=>∃ (k:Nat),k<=n/\iv=.int .i64 k/\Hid (ZV 76 6 (λw=>OEx w d) wr (w.heap.size+1) wr.heap.size ov ((xs.take k).map (mapY (fT (ftN ⟨qm,qn,qa,qc⟩ near to)) d)))/\Hid (Below w.heap.size w wr)/\Hid (Blk wr w.heap.size #[.string qm,.string qn,.int .i64 qa,.int .i64 qc] 31)) (λ_ iv _=>n - (intOf iv).toNat)
 case atStart=>exact ⟨0,Nat.zero_le _,rfl,G2.out,B2.out,b2.out⟩
 case round =>
  obtain ⟨k,hk,rfl,HG,HB,HBK⟩:=hrel;by_cases hlt:k<n
  . obtain ⟨x,hxk⟩:=sqA (l:=xs) (k:=k) HN.out hlt
    obtain ⟨g,off,rfl,-,hgl,hat⟩:=HX.out (sqE hxk);obtain ⟨cs,hc6,hcs,hex⟩:=hat k x hxk;have HXR:Hid (HEx wr.drew All d cs x):=hex.mono (sqO HB.out.drew) sqj;obtain ⟨tk,tn,tt,te,r1,m1,s1,r2,m2,s2,rfl⟩:=HEx.shapeR hex;obtain ⟨a0,a1,a2,a3,a4,a5⟩:=sqC6 hcs (by omega);rw [<-HB.out.cell (p:=⟨g,_,none⟩) hgl] at a0 a1 a2 a3 a4 a5;clear hcs hat;simp at a0 a1 a2 a3 a4 a5;have hki:(k:Int)<(n:Int):=(by omega);have hk0:=sqI k
    have HWX:Hid (wtEx d x<=16777216):=by
     show _<=_;have h1:=HWT.out;have h2:=Ze (wtEx d) xs k x hxk;have h3:=Zf (wtEx d) xs (k+1);unfold wtS at h1;omega
    have HMS:Hid ((xs.take (k+1)).map (mapY (fT (ftN ⟨qm,qn,qa,qc⟩ near to)) d)=(xs.take k).map (mapY (fT (ftN ⟨qm,qn,qa,qc⟩ near to)) d) ++ [mapY (fT (ftN ⟨qm,qn,qa,qc⟩ near to)) d x]):=ZaC _ hxk;have hll:((xs.take k).map (mapY (fT (ftN ⟨qm,qn,qa,qc⟩ near to)) d)).length<=100000000:=(by rw [List.length_map,List.length_take];omega);generalize (xs.take k).map (mapY (fT (ftN ⟨qm,qn,qa,qc⟩ near to)) d)=acc at *;have hgw:g<wr.heap.size:=Nat.lt_of_lt_of_le hgl HB.out.size
    have CEL:Hid (∀ w',Below wr.heap.size wr w'->w'.cell? ⟨g,off+k * 6,none⟩=some (.int .i64 tk)/\w'.cell? ⟨g,off+k * 6+1,none⟩=some (.int .i64 tn)/\w'.cell? ⟨g,off+k * 6+2,none⟩=some (.string tt)/\w'.cell? ⟨g,off+k * 6+3,none⟩=some (.string te)/\w'.cell? ⟨g,off+k * 6+4,none⟩=some (.slice r1 m1 s1)/\w'.cell? ⟨g,off+k * 6+5,none⟩=some (.slice r2 m2 s2)/\w'.cell? ⟨w.heap.size,0,none⟩=some (.string qm)/\w'.cell? ⟨w.heap.size,1,none⟩=some (.string qn)/\w'.cell? ⟨w.heap.size,2,none⟩=some (.int .i64 qa)/\w'.cell? ⟨w.heap.size,3,none⟩=some (.int .i64 qc)):=λw' hb=>by
     have e:=HBK.out.next hb;have f:=λ(a:Addr) (h:a.block=g)=>sqK (a:=a) (hb.block a.block (by rw [h];exact hgw));exact ⟨(f _ rfl).trans a0,(f _ rfl).trans a1,(f _ rfl).trans a2,(f _ rfl).trans a3,(f _ rfl).trans a4,(f _ rfl).trans a5,e.cell 0 _ rfl,e.cell 1 _ rfl,e.cell 2 _ rfl,e.cell 3 _ rfl⟩
    obtain ⟨z0,z1,z2,z3⟩:=sqB4 HBK.out;have PC:Hid (Calls prog 126 #[.agg #[.int .i64 tk,.int .i64 tn,.string tt,.string te,.slice r1 m1 s1,.slice r2 m2 s2],.agg #[.string qm,.string qn,.int .i64 qa,.int .i64 qc],.bool near,.string qm,.string to] wr.drew (ResO wr.drew λw' u fp=>∃ cs',u=.agg cs'.toArray/\OEx w' d cs' (mapY (fT (ftN ⟨qm,qn,qa,qc⟩ near to)) d x) fp)):=hE wr.drew _ x HXR.out HWX.out;clear hex hc6;go_wp2_with fail
    go_region_held3 (λw'=>w'.cell? ⟨g,off+k * 6,none⟩=some (.int .i64 tk)/\w'.cell? ⟨g,off+k * 6+1,none⟩=some (.int .i64 tn)/\w'.cell? ⟨g,off+k * 6+2,none⟩=some (.string tt)/\w'.cell? ⟨g,off+k * 6+3,none⟩=some (.string te)/\w'.cell? ⟨g,off+k * 6+4,none⟩=some (.slice r1 m1 s1)/\w'.cell? ⟨g,off+k * 6+5,none⟩=some (.slice r2 m2 s2)/\w'.cell? ⟨w.heap.size,0,none⟩=some (.string qm)/\w'.cell? ⟨w.heap.size,1,none⟩=some (.string qn)/\w'.cell? ⟨w.heap.size,2,none⟩=some (.int .i64 qa)/\w'.cell? ⟨w.heap.size,3,none⟩=some (.int .i64 qc))
     (first
      | with_reducible exact C4.out
      | with_reducible exact CEL.out _ (K3.out.alloc K3.out.size _)
      | with_reducible exact CEL.out _ K3.out
      | with_reducible exact CEL.out _ (Below.refl _ _).drew)
     (first
      | (go_at_call 126;refine (PC.out).mono ?_;rintro e w3 ⟨u,fp,rfl,⟨cs',rfl,hx3⟩,hnd,hrg,hb3⟩;obtain ⟨sk,sn,sx,se,p1,n1,q1,p2,n2,q2,hsh⟩:=hx3.shape;subst hsh;have K3:Hid (Below wr.heap.size wr w3):=Z5 hb3;have G3:Hid (ZV 76 6 (λw=>OEx w d) w3 (w.heap.size+1) wr.heap.size u11 acc):=HG.out.next (Zh1 d) K3.out;have X3:Hid (OEx w3 d [.int .i64 sk,.int .i64 sn,.string sx,.string se,.slice p1 n1 q1,.slice p2 n2 q2] (mapY (fT (ftN ⟨qm,qn,qa,qc⟩ near to)) d x) fp/\fp.Nodup/\∀ a ∈ fp,wr.heap.size<=a/\a<w3.heap.size):=⟨hx3,hnd,hrg⟩;clear hx3 hnd hrg hb3)
      | (refine ZbV (Zh1 d) 44 76 6 96 _ (by rfl) _ _ (by rfl) underlying44 Zmv rfl (by decide) (by decide) (w.heap.size+1) wr.heap.size u11 acc (by rfl) [.int .i64 sk,.int .i64 sn,.string sx,.string se,.slice p1 n1 q1,.slice p2 n2 q2] _ (by rfl) (by rfl) (mapY (fT (ftN ⟨qm,qn,qa,qc⟩ near to)) d x) fp G3.out X3.out.1 X3.out.2.1 X3.out.2.2 rfl oneX hll ?_;intro g6 cap6 w6 hg6 hb6;have G6:=hid hg6;have B6:=hid hb6;have C4:Hid (w6.cell? ⟨g,off+k * 6,none⟩=some (.int .i64 tk)/\w6.cell? ⟨g,off+k * 6+1,none⟩=some (.int .i64 tn)/\w6.cell? ⟨g,off+k * 6+2,none⟩=some (.string tt)/\w6.cell? ⟨g,off+k * 6+3,none⟩=some (.string te)/\w6.cell? ⟨g,off+k * 6+4,none⟩=some (.slice r1 m1 s1)/\w6.cell? ⟨g,off+k * 6+5,none⟩=some (.slice r2 m2 s2)/\w6.cell? ⟨w.heap.size,0,none⟩=some (.string qm)/\w6.cell? ⟨w.heap.size,1,none⟩=some (.string qn)/\w6.cell? ⟨w.heap.size,2,none⟩=some (.int .i64 qa)/\w6.cell? ⟨w.heap.size,3,none⟩=some (.int .i64 qc)):=(by
          have e:=CEL.out _ (K3.out.alloc K3.out.size (.cells #[.int .i64 sk,.int .i64 sn,.string sx,.string se,.slice p1 n1 q1,.slice p2 n2 q2] 76));have f:=λ(a:Addr) (h:a.block<w.heap.size+1)=>hb6.cell (p:=a) h
          exact ⟨(f _ (by show g<_;omega)).trans e.1,(f _ (by show g<_;omega)).trans e.2.1,(f _ (by show g<_;omega)).trans e.2.2.1,(f _ (by show g<_;omega)).trans e.2.2.2.1,(f _ (by show g<_;omega)).trans e.2.2.2.2.1,(f _ (by show g<_;omega)).trans e.2.2.2.2.2.1,(f _ (by show w.heap.size<_;omega)).trans e.2.2.2.2.2.2.1,(f _ (by show w.heap.size<_;omega)).trans e.2.2.2.2.2.2.2.1,(f _ (by show w.heap.size<_;omega)).trans e.2.2.2.2.2.2.2.2.1,(f _ (by show w.heap.size<_;omega)).trans e.2.2.2.2.2.2.2.2.2⟩);clear hg6 hb6))
    all_goals
     go_split_ands;have b6:Hid (Blk w6 w.heap.size #[.string qm,.string qn,.int .i64 qa,.int .i64 qc] 31):=(B6.out.block _ (by omega)).trans ((HBK.out.next K3.out).alloc);have B7:Hid (Below w.heap.size w w6):=((HB.out.trans (K3.out.mono HB.out.size)).alloc (by have:=HB.out.size;have:=K3.out.size;omega) _).trans (B6.out.mono (by omega));have G7:Hid (ZV 76 6 (λw=>OEx w d) w6 (w.heap.size+1) w6.heap.size (.slice (some ⟨g6,0,none⟩) (acc.length+1) cap6) ((xs.take (k+1)).map (mapY (fT (ftN ⟨qm,qn,qa,qc⟩ near to)) d))):=(by show ZV _ _ _ _ _ _ _ _;rw [HMS.out];exact G6.out);clear a0 a1 a2 a3 a4 a5 z0 z1 z2 z3;go_wp2_with fail;exact ⟨⟨k+1,by omega,by go_num,G7.out,B7.out,b6.out⟩,by simp [intOf];omega⟩
  . obtain rfl:k=n:=by omega
    obtain ⟨fp,r1,r2,r3,-,-⟩:=HG.out.done;rw [sqT HN.out] at r1;obtain ⟨pu,cu,hu,-⟩:=HG.out.shape;subst hu;have FIN:Hid (ResO w (λw' u fp=>Zg w' 76 6 (OEx w' d) u (xs.map (mapY (fT (ftN ⟨qm,qn,qa,qc⟩ near to)) d)) fp) (.returned _) wr):=⟨_,fp,rfl,r1,r2,λa ha=>⟨by have:=(r3 a ha).1;omega,(r3 a ha).2⟩,HB.out⟩;clear r1 r2 r3;go_wp2;go_ret;exact FIN.out
end CpC
end
def parF (C:Cl->Cl) (f:Fn') (k:Nat):Fn':=⟨f.name,f.arity,f.clauses.mapIdx λj c=>if j<k then C c else c⟩
def allF (C:Cl->Cl) (f:Fn'):Fn':=⟨f.name,f.arity,f.clauses.map C⟩
def parM (C:Cl->Cl) (m:Md) (i k:Nat):Md:=⟨m.name,m.exports,m.funs.mapIdx λa f=>if a<i then allF C f else if a=i then parF C f k else f⟩
def allM (C:Cl->Cl) (m:Md):Md:=⟨m.name,m.exports,m.funs.map (allF C)⟩
theorem ZgD (C:Cl->Cl) (f:Fn'):parF C f 0=f:=by
 obtain ⟨n,a,cs⟩:=f
 have h:cs.mapIdx (λj c=>if j<0 then C c else c)=cs:=by
  apply List.ext_getElem?
  intro i;rw [List.getElem?_mapIdx]
  cases cs[i]? <;> simp
 show (⟨n,a,_⟩:Fn')=_;simp only [h]
theorem ZkT (C:Cl->Cl) (f:Fn') {k:Nat} (hk:f.clauses.length<=k):parF C f k=allF C f:=by
 unfold parF allF
 congr 1
 apply List.ext_getElem?
 intro i;rw [List.getElem?_mapIdx,List.getElem?_map]
 cases h:f.clauses[i]? with
 | none=>rfl
 | some c =>
  have:=(List.getElem?_eq_some_iff.1 h).1;simp only [Option.map_some];rw [if_pos (by omega)]
theorem Zjp (C:Cl->Cl) (m:Md):parM C m 0 0=m:=by
 obtain ⟨n,e,fs⟩:=m
 have h:fs.mapIdx (λa f=>if a<0 then allF C f else if a=0 then parF C f 0 else f)=fs:=by
  apply List.ext_getElem?
  intro i;rw [List.getElem?_mapIdx]
  cases fs[i]? with
  | none=>rfl
  | some f =>
   simp only [Option.map_some,Nat.not_lt_zero,if_false,ZgD]
   split <;> rfl
 show (⟨n,e,_⟩:Md)=_;simp only [h]
theorem Zjq {C:Cl->Cl} {m:Md} {i k:Nat} {f:Fn'} (hf:m.funs[i]?=some f) (hk:f.clauses.length<=k):parM C m i k=parM C m (i+1) 0:=by
 unfold parM
 congr 1
 apply List.ext_getElem?
 intro a;rw [List.getElem?_mapIdx,List.getElem?_mapIdx]
 cases h:m.funs[a]? with
 | none=>rfl
 | some g =>
  simp only [Option.map_some];by_cases h1:a<i
  . rw [if_pos h1,if_pos (by omega)]
  . by_cases h2:a=i
    . subst h2
      obtain rfl:=Option.some.inj (hf.symm.trans h);rw [if_neg h1,if_pos rfl,if_pos (by omega),ZkT C f hk]
    . rw [if_neg h1,if_neg h2,if_neg (by omega),ZgD]
      split <;> rfl
theorem ZkU {C:Cl->Cl} {m:Md} {i:Nat} (h:m.funs.length<=i):parM C m i 0=allM C m:=by
 unfold parM allM
 congr 1
 apply List.ext_getElem?
 intro a;rw [List.getElem?_mapIdx,List.getElem?_map]
 cases hf:m.funs[a]? with
 | none=>rfl
 | some f =>
  have:=(List.getElem?_eq_some_iff.1 hf).1;simp only [Option.map_some];rw [if_pos (by omega)]
theorem Zjr {C:Cl->Cl} {m:Md} {i k:Nat} {f:Fn'} (hf:m.funs[i]?=some f):(parM C m i k).funs[i]?=some (parF C f k):=by
 show (m.funs.mapIdx _)[i]?=_;rw [List.getElem?_mapIdx,hf];simp
theorem Zl1 {C:Cl->Cl} {f:Fn'} {k:Nat} {c:Cl} (hc:f.clauses[k]?=some c):(parF C f k).clauses[k]?=some c:=by
 show (f.clauses.mapIdx _)[k]?=_;rw [List.getElem?_mapIdx,hc];simp
theorem Zjs {C:Cl->Cl} {m:Md} {i k:Nat} {f:Fn'} {c:Cl} (hf:m.funs[i]?=some f) (hc:f.clauses[k]?=some c) :
 (⟨(parM C m i k).name,(parM C m i k).exports,(parM C m i k).funs.set i ⟨(parF C f k).name,(parF C f k).arity,(parF C f k).clauses.set k (C c)⟩⟩:Md)=parM C m i (k+1):=by
 have e1:(⟨(parF C f k).name,(parF C f k).arity,(parF C f k).clauses.set k (C c)⟩:Fn')=parF C f (k+1):=by
  unfold parF;simp only
  congr 1
  apply List.ext_getElem?
  intro j;have hkl:=(List.getElem?_eq_some_iff.1 hc).1;by_cases hjk:j=k
  . subst hjk
    rw [List.getElem?_set_self (by rw [List.length_mapIdx];exact hkl),List.getElem?_mapIdx,hc];simp
  . rw [List.getElem?_set_ne (λh=>hjk h.symm),List.getElem?_mapIdx,List.getElem?_mapIdx]
    cases f.clauses[j]? with
    | none=>rfl
    | some b =>
     simp only [Option.map_some];by_cases h1:j<k
     . rw [if_pos h1,if_pos (by omega)]
     . rw [if_neg h1,if_neg (by omega)]
 rw [e1];unfold parM;simp only
 congr 1
 apply List.ext_getElem?
 intro a;have hil:=(List.getElem?_eq_some_iff.1 hf).1;by_cases ha:a=i
 . subst ha
   rw [List.getElem?_set_self (by rw [List.length_mapIdx];exact hil),List.getElem?_mapIdx,hf];simp
 . rw [List.getElem?_set_ne (λh=>ha h.symm),List.getElem?_mapIdx,List.getElem?_mapIdx]
   cases m.funs[a]? with
   | none=>rfl
   | some g =>
    simp only [Option.map_some];rw [if_neg ha,if_neg ha]
theorem ZkV {w:World} {d:Nat} {cs:List Value} {m:Md} {fp:List Nat} {j i:Nat} {f:Fn'} {c:Cl} (h:OMd w d cs m fp) (hnd:fp.Nodup) (hj:m.funs[j]?=some f) (hi:f.clauses[i]?=some c) :
 ∃ nv ev gf cf gc cc pv bv,cs = [nv,ev,.slice (some ⟨gf,0,none⟩) m.funs.length cf]/\w.cell? ⟨gf,j * 3+2,none⟩=some (.slice (some ⟨gc,0,none⟩) f.clauses.length cc)/\w.cell? ⟨gc,i * 2+1,none⟩=some bv/\gf ∈ fp/\gc ∈ fp/\gf≠gc/\HCl w All (HEx w All d) [pv,bv] c /\
  ∀ (w':World) (v':Value) (body:List Ex) (fq:List Nat),Bz w w'->Zg w' 76 6 (OEx w' d) v' body fq->fq.Nodup->(∀ a ∈ fq,w.heap.size<=a) ->
   ∃ fp',OMd (w'.setCell ⟨gc,i * 2+1,none⟩ v') d cs ⟨m.name,m.exports,m.funs.set j ⟨f.name,f.arity,f.clauses.set i (c.1,body)⟩⟩ fp'/\fp'.Nodup/\∀ a ∈ fp',a ∈ fp\/a ∈ fq:=by
 have hlt:=h.lt;have hk:=h;obtain ⟨ev,fv,fa,fb,rfl,rfl,ok1,hev,hfv⟩:=h;rw [List.nodup_append] at hnd;obtain ⟨ndA,ndB,disAB⟩:=hnd;obtain ⟨gf,cf,cs2,f2,hv2,hgf,hs2,hgff,hnd2,hl2,hcs2,hr2,-⟩:=hfv.through ndB hj;obtain ⟨cv,rfl,ok2,ok3,hcv⟩:=hr2;have e2:=hcs2 2 (by omega);simp only [List.getElem?_cons_succ,List.getElem?_cons_zero] at e2;obtain ⟨gc,cc,cs3,f3,hv3,hgc,hs3,hgcf,hnd3,hl3,hcs3,hr3,-⟩:=hcv.storeJ hnd2 hi (j:=1) (by omega);have HC:HCl w All (HEx w All d) cs3 c:=OCls.tree hr3 (λ_ _=>trivial);obtain ⟨pv,bv,g1,g2,rfl,rfl,hp3,hb3⟩:=hr3;have e3:=hcs3 1 (by omega);simp only [List.getElem?_cons_succ,List.getElem?_cons_zero] at e3;subst hv2;subst hv3;refine ⟨_,ev,gf,cf,gc,cc,pv,bv,rfl,e2,e3,List.mem_append_right _ hgf,List.mem_append_right _ (hs2 gc hgc),λe=>hgff (e ▸ hgc),HC,λw' v' body fq hb ho hnq hrq=>?_⟩;have kB:Zj (fa ++ fb) w w':=λa ha=>hb.block a (hlt a ha);have hev':Zg w' 84 2 (ORf w' d) ev m.exports fa:=hev.keep (kB.sub (λa ha=>List.mem_append_left _ ha)) (λcs x f _ hs h=>h);have hfv':Zg w' 59 3 (OFn w' d) (.slice (some ⟨gf,0,none⟩) m.funs.length cf) m.funs fb:=hfv.keep (kB.sub (λa ha=>List.mem_append_right _ ha)) (λcs x f _ hs h=>h.keep (kB.sub (λa ha=>List.mem_append_right _ (hs a ha))));have glt:gf<w.heap.size:=hlt gf (List.mem_append_right _ hgf);have mgc:gc ∈ fb:=hs2 gc hgc;clear hev hfv hcv hcs2 hcs3 hp3 hb3 hs3 hgcf hnd3 hl3 hl2 hgff hnd2 ok2 ok3 hgc hs2;obtain ⟨gf',cf',cs2,f2',hv2,hgf',hs2,hgff,hnd2,hl2,hcs2,hr2,step2⟩:=hfv'.through ndB hj;obtain ⟨rfl,-⟩:=ZcL hv2;obtain ⟨cv,rfl,ok2,ok3,hcv⟩:=hr2;have e4:=hcs2 2 (by omega);simp only [List.getElem?_cons_succ,List.getElem?_cons_zero] at e4;rw [hb.cell (p:=⟨gf,j * 3+2,none⟩) glt,e2] at e4;have e5:=(Option.some.inj e4).symm;subst e5;obtain ⟨gc',cc',cs3,f3',hv3,hgc,hs3,hgcf,hnd3,hl3,hcs3,hr3,step3⟩:=hcv.storeJ hnd2 hi (j:=1) (by omega);obtain ⟨rfl,-⟩:=ZcL hv3;obtain ⟨pv',bv',g1',g2',rfl,rfl,hp3,hb3⟩:=hr3;generalize hW:w'.setCell ⟨gc,i * 2+1,none⟩ v'=W
 have hoth:∀ a,a≠gc->W.heap[a]?=w'.heap[a]?:=λa ha=>by rw [<-hW,Below.heap_setCell _ _ _ _ ha]
 have hd:∀ a ∈ fq,a ∉ fa ++ fb:=λa ha hm=>by have:=hlt a hm;have:=hrq a ha;omega
 have dq:∀ a ∈ fq,a≠gc:=λa ha e=>hd a ha (e ▸ List.mem_append_right _ mgc);have kq:Zj fq w' W:=λa ha=>hoth a (dq a ha);rw [List.nodup_append] at hnd3;have kp:Zj g1' w' W:=λa ha=>hoth a (λe=>hgcf (e ▸ List.mem_append_left _ ha))
 obtain ⟨fp3,r3,n3,s3⟩:=step3 (OCl W (OEx W d)) (c.1,body) v' (g1' ++ fq) fq ⟨pv',v',g1',fq,rfl,rfl,hp3.keep kp (λcs x f _ hs h=>h.keep (kp.sub hs)),ho.keep kq (λcs x f _ hs h=>h.keep (kq.sub hs))⟩
  (by
   rw [List.nodup_append];refine ⟨hnd3.1,hnq,λa ha b hb' e=>?_⟩;subst e
   exact hd a hb' (List.mem_append_right _ (hs2 a (hs3 a (List.mem_append_left _ ha)))))
  (λa ha=>by
   rcases List.mem_append.1 ha with h' | h'
   . exact .inl (List.mem_append_left _ h')
   . exact .inr h') (λa ha hm=>hd a ha (List.mem_append_right _ (hs2 a hm))) (λcs y fy hg hr=>OCls.keep hr (λa ha=>hoth a (λe=>hg (e ▸ ha))))
 rw [hW] at r3;obtain ⟨fp2,r2,n2,s2⟩:=step2 W (OFn W d) ⟨f.name,f.arity,f.clauses.set i (c.1,body)⟩ fp3 fq gc hgc hoth ⟨_,rfl,ok2,ok3,r3⟩ n3 s3 (λa ha hm=>hd a ha (List.mem_append_right _ hm)) (λcs y fy hg hr=>hr.keep (λa ha=>hoth a (λe=>hg (e ▸ ha))));have na:gc ∉ fa:=λhm=>disAB gc hm gc mgc rfl;refine ⟨fa ++ fp2,⟨ev,_,fa,fp2,rfl,rfl,ok1,hev'.keep (λa ha=>hoth a (λe=>na (e ▸ ha))) (λcs x f _ _ h=>h),r2⟩,?_,λa ha=>?_⟩
 . rw [List.nodup_append]
   refine ⟨ndA,n2,λa ha b hb' e=>?_⟩;subst e
   rcases s2 a hb' with h' | h'
   . exact disAB a ha a h' rfl
   . exact hd a h' (List.mem_append_left _ ha)
 . rcases List.mem_append.1 ha with h' | h'
   . exact .inl (List.mem_append_left _ h')
   . rcases s2 a h' with h2 | h2
     . exact .inl (List.mem_append_right _ h2)
     . exact .inr h2
structure Za7 (w wr:World) (d:Nat) (cs:List Value) (mc:Md) (fp:List Nat) (P:Array Value):Prop where
 off:Off fp w wr
 box:Blk wr w.heap.size cs.toArray 63
 pl:Blk wr (w.heap.size+1) P 31
 res:Blk wr (w.heap.size+1+1) #[.string ⟨#[]⟩,.slice none 0 0,.slice none 0 0] 63
 own:∃ fpc,OMd wr d cs mc fpc/\fpc.Nodup/\∀ a ∈ fpc,a ∈ fp\/w.heap.size+3<=a
 lt:∀ a ∈ fp,a<w.heap.size
theorem Za7.body {w wr:World} {d:Nat} {cs:List Value} {m:Md} {fp:List Nat} {P:Array Value} {C:Cl->Cl} {j i:Nat} {f:Fn'} {c:Cl} (h:Za7 w wr d cs (parM C m j i) fp P) (hj:m.funs[j]?=some f) (hi:f.clauses[i]?=some c) :
 ∃ nv ev gf cf gc cc pv bv,cs = [nv,ev,.slice (some ⟨gf,0,none⟩) m.funs.length cf]/\wr.cell? ⟨gf,j * 3+2,none⟩=some (.slice (some ⟨gc,0,none⟩) f.clauses.length cc)/\wr.cell? ⟨gc,i * 2+1,none⟩=some bv/\wr.frozen? ⟨gc,i * 2+1,none⟩=false/\gf≠gc/\gc<wr.heap.size/\gf<wr.heap.size/\gc≠w.heap.size/\gc≠w.heap.size+1/\gc≠w.heap.size+1+1/\HCl wr All (HEx wr All d) [pv,bv] c /\
  ∀ (w':World) (v':Value) (body:List Ex) (fq:List Nat),C c=(c.1,body)->Bz wr w'->Zg w' 76 6 (OEx w' d) v' body fq->fq.Nodup->(∀ a ∈ fq,wr.heap.size<=a) ->
   Za7 w (w'.setCell ⟨gc,i * 2+1,none⟩ v') d cs (parM C m j (i+1)) fp P:=by
 obtain ⟨hoff,hbox,hpl,hres,⟨fpc,hown,hnd,hrg⟩,hlt⟩:=h;obtain ⟨nv,ev,gf,cf,gc,cc,pv,bv,h1,h2,h3,h4,h5,h6,h7,h8⟩:=ZkV hown hnd (Zjr hj) (Zl1 hi);have lf:(parM C m j i).funs.length=m.funs.length:=(by show (m.funs.mapIdx _).length=_;rw [List.length_mapIdx]);have lc:(parF C f i).clauses.length=f.clauses.length:=(by show (f.clauses.mapIdx _).length=_;rw [List.length_mapIdx]);rw [lf] at h1;rw [lc] at h2;obtain ⟨cs0,t0,hp0⟩:=hown.plain gc h5;have gl:=hown.lt gc h5;have r5:=hrg gc h5;have b0:=hres.lt
 have hne:gc≠w.heap.size/\gc≠w.heap.size+1/\gc≠w.heap.size+1+1:=by
  rcases r5 with h | h
  . have:=hlt gc h;omega
  . omega
 refine ⟨nv,ev,gf,cf,gc,cc,pv,bv,h1,h2,h3,Blk.frozen (cs:=cs0) (t:=t0) hp0 _,h6,gl,hown.lt gf h4,hne.1,hne.2.1,hne.2.2,h7,λw' v' body fq hC hb ho hq hr=>?_⟩;obtain ⟨fp',k1,k2,k3⟩:=h8 w' v' body fq hb ho hq hr;rw [<-hC,Zjs hj hi] at k1
 have bl:∀ a,a≠gc->a<wr.heap.size->(w'.setCell ⟨gc,i * 2+1,none⟩ v').heap[a]?=wr.heap[a]?:=λa h1 h2=>by rw [Below.heap_setCell _ _ _ _ h1];exact hb.block a h2
 refine ⟨⟨by show w'.os=_;exact hb.os.trans hoff.os,by show w'.tape=_;exact hb.tape.trans hoff.tape,by show w'.output=_;exact hb.output.trans hoff.output,by have:=hoff.size;have:=hb.size;simp [World.setCell];omega,λa ha hn=>?_⟩,(bl _ (Ne.symm hne.1) (by omega)).trans hbox,(bl _ (Ne.symm hne.2.1) (by omega)).trans hpl,(bl _ (Ne.symm hne.2.2) b0).trans hres,⟨fp',k1,k2,λa ha=>?_⟩,hlt⟩
 . have hag:a≠gc:=λe=>by
    subst e
    rcases r5 with h | h
    . exact hn h
    . omega
   have:=hoff.size;rw [bl a hag (by omega)];exact hoff.block a ha hn
 . rcases k3 a ha with h | h
   . exact hrg a h
   . right
     have:=hr a h;omega
end Go.Proofs.YtdhlonogmnkemaaGreatDoor
