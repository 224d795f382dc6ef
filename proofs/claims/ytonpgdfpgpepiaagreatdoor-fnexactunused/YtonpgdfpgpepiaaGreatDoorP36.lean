/-
  GraphFuns
-/
import Derived.Test.YtonpgdfpgpepiaaGreatDoorP34
import Derived.Test.YtonpgdfpgpepiaaGreatDoorP32
set_option maxHeartbeats 16000000
set_option linter.unusedVariables false
set_option maxRecDepth 100000
namespace Go.Proofs.YtonpgdfpgpepiaaGreatDoor
open Go.ChangeShapes Go.WideShapes Go.ChangeAt Go.RowKit
section
open Go.Maps Go.WideMaps Go.Shelf
attribute [local go_sem] Oper.semAt_some
def offs (ms:List Md) (a:Nat):Nat:=((ms.take a).map fun m=>m.funs.length).sum
theorem offs_succ {ms:List Md} {a:Nat} {m:Md} (h:ms[a]?=some m):offs ms (a+1)=offs ms a+m.funs.length:=sum_take_succ _ _ _ _ h
theorem offs_le (ms:List Md) (a:Nat):offs ms a≤offs ms ms.length:=by
  have:=sum_take_le (fun m:Md=>m.funs.length) ms a
  unfold offs
  rw [List.take_length];exact this
def CellsAt (w:World) (S:Nat→Prop) (d:Nat) (v:Value) (ms:List Md) (C:Nat→List Value × List Value):Prop :=
  ∀ a m,ms[a]?=some m→∀ b f,m.funs[b]?=some f→∃ g off n cap,v=.slice (some ⟨g,off,none⟩) n cap∧S g∧g<w.heap.size∧(C (offs ms a+b)).1.length=3∧(∀ j,j<3→w.cell? ⟨g,off+a * 3+j,none⟩=(C (offs ms a+b)).1[j]?)∧HMd w S d (C (offs ms a+b)).1 m ∧
    ∃ fv g5 o5 n5 c5,(C (offs ms a+b)).1[2]?=some fv∧fv=.slice (some ⟨g5,o5,none⟩) n5 c5∧S g5∧g5<w.heap.size∧(C (offs ms a+b)).2.length=3∧(∀ j,j<3→w.cell? ⟨g5,o5+b * 3+j,none⟩=(C (offs ms a+b)).2[j]?)∧HFn w S d (C (offs ms a+b)).2 f
theorem fcells_at {w:World} {S:Nat→Prop} {d:Nat} {v:Value} {ms:List Md} (h:Rows w S 3 (HMd w S d) v ms):∃ C,CellsAt w S d v ms C:=by
  have key:∀ k,∃ c:List Value × List Value,∀ a m,ms[a]?=some m→∀ b f,m.funs[b]?=some f→offs ms a+b=k→∃ g off n cap,v=.slice (some ⟨g,off,none⟩) n cap∧S g∧g<w.heap.size∧c.1.length=3∧(∀ j,j<3→w.cell? ⟨g,off+a * 3+j,none⟩=c.1[j]?)∧HMd w S d c.1 m ∧
      ∃ fv g5 o5 n5 c5,c.1[2]?=some fv∧fv=.slice (some ⟨g5,o5,none⟩) n5 c5∧S g5∧g5<w.heap.size∧c.2.length=3∧(∀ j,j<3→w.cell? ⟨g5,o5+b * 3+j,none⟩=c.2[j]?)∧HFn w S d c.2 f:=by
    intro k
    by_cases hex:∃ a m b f,ms[a]?=some m∧m.funs[b]?=some f∧offs ms a+b=k
    · obtain ⟨a,m,b,f,hm,hf,hk⟩:=hex
      obtain ⟨p,cap,hv,hcl,hcm,hx⟩:=h
      obtain ⟨g,off,hp,hS,hgl,hat⟩:=hx (by intro e;rw [e] at hm;simp at hm)
      obtain ⟨mc,hml,hmc,hmd⟩:=hat a m hm
      obtain ⟨ev,fv,hmce,hms,he,hfr⟩:=id hmd
      obtain ⟨p5,c5,hv5,hcl5,hcm5,hx5⟩:=hfr
      obtain ⟨g5,o5,hp5,hS5,hgl5,hat5⟩:=hx5 (by intro e;rw [e] at hf;simp at hf)
      obtain ⟨fc,hfl,hfc,hfn⟩:=hat5 b f hf
      refine ⟨(mc,fc),fun a' m' hm' b' f' hf' hk'=>?_⟩
      have hbl:=(List.getElem?_eq_some_iff.1 hf).1
      have hbl':=(List.getElem?_eq_some_iff.1 hf').1
      have hmono:∀ x y mx,ms[x]?=some mx→x<y→offs ms x+mx.funs.length≤offs ms y:=fun x y mx hx hxy=>by
        rw [← offs_succ hx]
        have:=sum_take_le (fun m:Md=>m.funs.length) (ms.take y) (x+1)
        rw [List.take_take,Nat.min_eq_left (by omega)] at this
        exact this
      have haa:a'=a:=by
        rcases Nat.lt_trichotomy a' a with hlt | heq | hgt
        · have:=hmono a' a m' hm' hlt;omega
        · exact heq
        · have:=hmono a a' m hm hgt;omega
      subst haa
      obtain rfl:m=m':=Option.some.inj (hm.symm.trans hm')
      obtain rfl:b'=b:=by omega
      obtain rfl:f=f':=Option.some.inj (hf.symm.trans hf')
      exact ⟨g,off,_,cap,by rw [hv,hp],hS,hgl,hml,hmc,hmd,fv,g5,o5,_,c5,by rw [hmce];rfl,by rw [hv5,hp5],hS5,hgl5,hfl,hfc,hfn⟩
    · exact ⟨([],[]),fun a m hm b f hf hk=>absurd ⟨a,m,b,f,hm,hf,hk⟩ hex⟩
  exact ⟨fun k=>(key k).choose,fun a m hm b f hf=>(key _).choose_spec a m hm b f hf rfl⟩
theorem funcs_in {ts:List TypeId} (hts:Hid (42 ∉ ts)) (l b0 d:Nat) (v:Value) (ms:List Md) (C:Nat→List Value × List Value) (W0:World) (hr:Rows W0 (fun g=>g<b0) 3 (HMd W0 (fun g=>g<b0) d) v ms) (hC:CellsAt W0 (fun g=>g<b0) d v ms C) (hb0:b0≤W0.heap.size) (J:Nat→World→Prop)
    (hJb:∀ k A B,J k A→Below A.heap.size A B→J k B)
    (hY:∀ k W1,J k W1→k<offs ms ms.length→YieldAt Fence.wide 5 Tryz.prog l #[.agg (C k).1.toArray,.agg (C k).2.toArray] W1 fun e W'=>e=.returned (.bool true)∧J (k+1) W'∧KG ts b0 W1 W') (h0:J 0 W0) :
    CallsIn Fence.wide 6 Tryz.prog 22 #[v,.func (.yield l) #[] #[]] W0 fun e W'=>(∃ v,e=.returned v)∧J (offs ms ms.length) W':=by
  have HC:Hid (CellsAt W0 (fun g=>g<b0) d v ms C):=hC
  obtain ⟨p,cap,rfl,hcl,hcm,hx⟩:=hr
  have HX:Hid (ms≠[]→∃ g off,p=some ⟨g,off,none⟩∧g<b0∧g<W0.heap.size∧∀ i x,ms[i]?=some x→∃ cs,cs.length=3∧(∀ j,j<3→W0.cell? ⟨g,off+i * 3+j,none⟩=cs[j]?)∧HMd W0 (fun g=>g<b0) d cs x):=hx
  have hnb:ms.length≤9223372036854775807:=by unfold maxLen at hcm;omega
  have HO:Hid (∀ a,offs ms a≤offs ms ms.length):=offs_le ms
  have HZ:Hid (J (offs ms 0) W0):=h0
  generalize hNN:offs ms ms.length=NN at *
  generalize hn:ms.length=n at *
  have HN:Hid (ms.length=n):=hn
  have HNN:Hid (offs ms n=NN):=hNN
  clear hx hn hNN hC h0
  refine callsIn_of_wp Tryz.func22 rfl trivial ?_ rfl
  simp only [Tryz.ntmps22,List.size_toArray,List.length_cons,List.length_nil,Nat.reduceAdd,Nat.reduceSub,Array.replicate_succ,Array.replicate_zero,List.push_toArray,List.append_toArray,List.nil_append,List.cons_append]
  gi_wp2
  gi_loopw [10] (fun iv wr=>∃ a:Nat,a≤n∧iv=.int .i64 a∧Hid (J (offs ms a) wr)∧Hid (KG ts b0 W0 wr)) (fun iv _=>n - (intOf iv).toNat)
  case atStart=>exact ⟨0,Nat.zero_le _,rfl,HZ,KG.refl _ _⟩
  case round =>
    obtain ⟨a,ha,rfl,hj,hk⟩:=hrel
    by_cases hlt:a<n
    · obtain ⟨m,hm⟩:∃ m,ms[a]?=some m:=⟨ms[a]'(by rw [HN.out];exact hlt),List.getElem?_eq_getElem _⟩
      obtain ⟨g,off,rfl,hS,hgl,hat⟩:=HX.out (by intro h;rw [h] at hm;simp at hm)
      obtain ⟨mc,hml,hmc,ev,fv,rfl,hms,⟨pe,ce,rfl,-⟩,⟨pf,cf,rfl,hclf,hcmf,hxf⟩⟩:=hat a m hm
      have HXF:Hid (m.funs≠[]→∃ g off,pf=some ⟨g,off,none⟩∧g<b0∧g<W0.heap.size∧∀ i x,m.funs[i]?=some x→∃ cs,cs.length=3∧(∀ j,j<3→W0.cell? ⟨g,off+i * 3+j,none⟩=cs[j]?)∧HFn W0 (fun g=>g<b0) d cs x):=hxf
      have HCM:Hid (∀ b f,m.funs[b]?=some f→(C (offs ms a+b)).1 = [.string m.name,.slice pe m.exports.length ce,.slice pf m.funs.length cf]∧∀ g5 o5,pf=some ⟨g5,o5,none⟩→(C (offs ms a+b)).2.length=3∧∀ j,j<3→W0.cell? ⟨g5,o5+b * 3+j,none⟩=(C (offs ms a+b)).2[j]?):=fun b f hf=>by
        obtain ⟨g',off',n',cap',e1,-,-,e2,e3,-,fv,g5,o5,n5,c5,e4,e5,-,-,e6,e7,-⟩:=HC.out a m hm b f hf
        simp only [Value.slice.injEq,Option.some.injEq,Addr.mk.injEq] at e1
        obtain ⟨⟨rfl,rfl,-⟩,rfl,rfl⟩:=e1
        have e8:(C (offs ms a+b)).1 = [.string m.name,.slice pe m.exports.length ce,.slice pf m.funs.length cf]:=by
          apply List.ext_getElem?
          intro j
          by_cases hj:j<3
          · rw [← e3 j hj,hmc j hj]
          · rw [List.getElem?_eq_none (by omega),List.getElem?_eq_none (by simp;omega)]
        refine ⟨e8,fun g6 o6 hp=>?_⟩
        rw [e8] at e4
        simp at e4
        rw [← e4,hp] at e5
        simp only [Value.slice.injEq,Option.some.injEq,Addr.mk.injEq] at e5
        obtain ⟨⟨rfl,rfl,-⟩,-,-⟩:=e5
        exact ⟨e6,e7⟩
      have hbl:=hk.out.low
      have a0:=(hbl.cell (p:=⟨g,off+a * 3+0,none⟩) hS).trans (hmc 0 (by omega))
      have a1:=(hbl.cell (p:=⟨g,off+a * 3+1,none⟩) hS).trans (hmc 1 (by omega))
      have a2:=(hbl.cell (p:=⟨g,off+a * 3+2,none⟩) hS).trans (hmc 2 (by omega))
      simp at a0 a1 a2
      have hai:(a:Int)<(n:Int):=by omega
      have ha0:(0:Int)≤(a:Int):=by omega
      have hnf:m.funs.length≤9223372036854775807:=by unfold maxLen at hcmf;omega
      have HOS:Hid (offs ms (a+1)=offs ms a+m.funs.length):=offs_succ hm
      have HOL:Hid (offs ms a+m.funs.length≤NN):=by show _≤_;rw [← HOS.out];exact HO.out _
      have bA:Below wr.heap.size wr (wr.alloc (.cells #[.string m.name,.slice pe m.exports.length ce,.slice pf m.funs.length cf] 42)):=(Below.refl _ _).alloc (Nat.le_refl _) _
      have HJ1:Hid (J (offs ms a) (wr.alloc (.cells #[.string m.name,.slice pe m.exports.length ce,.slice pf m.funs.length cf] 42))):=hJb _ _ _ hj.out bA
      have HK1:Hid (KG ts b0 W0 (wr.alloc (.cells #[.string m.name,.slice pe m.exports.length ce,.slice pf m.funs.length cf] 42))):=hk.out.trans (KG.of_below bA (by have:=hbl.size;omega))
      have HM1:Hid (Blk (wr.alloc (.cells #[.string m.name,.slice pe m.exports.length ce,.slice pf m.funs.length cf] 42)) wr.heap.size #[.string m.name,.slice pe m.exports.length ce,.slice pf m.funs.length cf] 42):=Blk.new
      generalize hne:m.exports.length=ne at *
      generalize hnfl:m.funs.length=nf at *
      have HNF:Hid (m.funs.length=nf):=hnfl
      obtain ⟨bm,hbm⟩:∃ bm,bm=wr.heap.size:=⟨_,rfl⟩
      rw [← hbm] at HM1
      have HBM:Hid (wr.heap.size=bm):=hbm.symm
      clear hat hmc hml hxf hbl bA hj hk hne hnfl hm hclf hcmf hbm
      gi_wp2
      rw [HBM.out]
      clear a0 a1 a2
      generalize hW1:wr.alloc (.cells #[.string m.name,.slice pe ne ce,.slice pf nf cf] 42)=W1 at *
      gi_loopw [17] (fun iv wx=>∃ b:Nat,b≤nf∧iv=.int .i64 b∧Hid (J (offs ms a+b) wx)∧Hid (KG ts b0 W0 wx)∧Hid (Blk wx bm #[.string m.name,.slice pe ne ce,.slice pf nf cf] 42)) (fun iv _=>nf - (intOf iv).toNat)
      case atStart=>exact ⟨0,Nat.zero_le _,rfl,HJ1,HK1,HM1⟩
      case round =>
        obtain ⟨b,hbn,rfl,hj,hk,hmB⟩:=hrel
        by_cases hlb:b<nf
        · obtain ⟨f,hf⟩:∃ f,m.funs[b]?=some f:=⟨m.funs[b]'(by rw [HNF.out];exact hlb),List.getElem?_eq_getElem _⟩
          obtain ⟨g5,o5,rfl,hS5,hgl5,hat5⟩:=HXF.out (by intro h;rw [h] at hf;simp at hf)
          obtain ⟨fc,hfl,hfc,cv,rfl,hfs,hfa,pc,qc,rfl,-⟩:=hat5 b f hf
          obtain ⟨hc1,hc2⟩:=HCM.out b f hf
          obtain ⟨hc3,hc4⟩:=hc2 g5 o5 rfl
          have hc5:(C (offs ms a+b)).2 = [.string f.name,.int .i64 f.arity,.slice pc f.clauses.length qc]:=by
            apply List.ext_getElem?
            intro j
            by_cases hj:j<3
            · rw [← hc4 j hj,hfc j hj]
            · rw [List.getElem?_eq_none (by omega),List.getElem?_eq_none (by simp;omega)]
          have hbl:=hk.out.low
          have a0:=(hbl.cell (p:=⟨g5,o5+b * 3+0,none⟩) hS5).trans (hfc 0 (by omega))
          have a1:=(hbl.cell (p:=⟨g5,o5+b * 3+1,none⟩) hS5).trans (hfc 1 (by omega))
          have a2:=(hbl.cell (p:=⟨g5,o5+b * 3+2,none⟩) hS5).trans (hfc 2 (by omega))
          simp at a0 a1 a2
          have hbi:(b:Int)<(nf:Int):=by omega
          have hb00:(0:Int)≤(b:Int):=by omega
          have bA:Below wr.heap.size wr (wr.alloc (.cells #[.string f.name,.int .i64 f.arity,.slice pc f.clauses.length qc] 46)):=(Below.refl _ _).alloc (Nat.le_refl _) _
          have hmB2:=hmB.out.next bA
          have y0:=hmB2.cell 0 _ rfl
          have y1:=hmB2.cell 1 _ rfl
          have y2:=hmB2.cell 2 _ rfl
          have HK2:Hid (KG ts b0 W0 (wr.alloc (.cells #[.string f.name,.int .i64 f.arity,.slice pc f.clauses.length qc] 46))):=hk.out.trans (KG.of_below bA (by have:=hbl.size;omega))
          have HM2:Hid (Blk (wr.alloc (.cells #[.string f.name,.int .i64 f.arity,.slice pc f.clauses.length qc] 46)) bm #[.string m.name,.slice pe ne ce,.slice (some ⟨g5,o5,none⟩) nf cf] 42):=hmB2
          obtain ⟨fn,tmps,assign,body,hy,hR⟩:=hY _ (wr.alloc (.cells #[.string f.name,.int .i64 f.arity,.slice pc f.clauses.length qc] 46)) (hJb _ _ _ hj.out bA) (by have:=HOL.out;omega)
          rw [hc1,hc5] at hy
          clear hat5 hfc hfl hc1 hc2 hc3 hc4 hc5 hbl bA hmB2
          gi_wp2
          refine hR.mono ?_
          rintro e W3 ⟨rfl,hJ3,hk3⟩
          have HJ3:Hid (J (offs ms a+(b+1)) W3):=hJ3
          have HK3:Hid (KG ts b0 W0 W3):=HK2.out.trans hk3
          have HM3:Hid (Blk W3 bm #[.string m.name,.slice pe ne ce,.slice (some ⟨g5,o5,none⟩) nf cf] 42):=hk3.oth bm _ HM2.out (fun cs t fr e=>by cases e;exact hts.out)
          clear hJ3 hk3 hR hy y0 y1 y2 a0 a1 a2
          gi_wp2
          go_roundw
          case rel=>exact ⟨b+1,by omega,by go_num,HJ3,HK3,HM3⟩
          case measure=>simp [intOf];omega
        · have HJ4:Hid (J (offs ms (a+1)) wr):=by
            have h1:=hj.out
            rw [show b=nf by omega,← HOS.out] at h1
            exact h1
          gi_wp2
          go_roundw
          case rel=>exact ⟨a+1,by omega,by go_num,HJ4,hk⟩
          case measure=>simp [intOf];omega
    · have HJ4:Hid (J NN wr):=by
        have h1:=hj.out
        rw [show a=n by omega,HNN.out] at h1
        exact h1
      gi_wp2
      go_end0
      exact ⟨⟨_,rfl⟩,HJ4.out⟩
end
end Go.Proofs.YtonpgdfpgpepiaaGreatDoor
