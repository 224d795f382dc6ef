/-
  ProgOkA OrdT
-/
import Derived.Test.YtonpgdfpgpepiaaGreatDoorP17
set_option maxHeartbeats 16000000
set_option linter.unusedVariables false
set_option maxRecDepth 100000
namespace Go.Proofs.YtonpgdfpgpepiaaGreatDoor
open Go.ChangeShapes Go.WideShapes Go.ChangeAt Go.RowKit
section
open Go.Proofs.Tryz
def mdsAt (d:Nat) (ms:List Md) (k:Nat):Bool :=
 match ms[k]? with
 | none=>true
 | some m=>mdOk d m && (match k with
  | 0=>true
  | j+1=>match ms[j]? with
   | none=>true
   | some q=>Op.bytesLess q.name.toList m.name.toList)
def pgOk (d:Nat) (ms:List Md):Bool:=decide (ms.length<=10) && (List.range ms.length).all (mdsAt d ms)
theorem mdsAt_zero {d:Nat} {ms:List Md} {k:Nat} {r:Md} (hk:k=0) (h:ms[k]?=some r):mdsAt d ms k=mdOk d r:=by
 subst hk;simp [mdsAt,h]
theorem mdsAt_succ {d:Nat} {ms:List Md} {j:Nat} {q r:Md} (hq:ms[j]?=some q) (hr:ms[j+1]?=some r):mdsAt d ms (j+1)=(mdOk d r && Op.bytesLess q.name.toList r.name.toList):=by
 simp [mdsAt,hr,hq]
theorem mdsAt_bad {d:Nat} {ms:List Md} {k:Nat} {r:Md} (hr:ms[k]?=some r) (h:mdOk d r=false):mdsAt d ms k=false:=by
 simp [mdsAt,hr,h]
theorem less_flip:∀ {a b:List UInt8},Op.bytesLess a b=false->a≠b->Op.bytesLess b a=true
 | [],[],_,h=>absurd rfl h
 | _ :: _,[],_,_=>rfl
 | [],_ :: _,h,_=>by simp [Op.bytesLess] at h
 | x :: a,y :: b,h,hne=>by
  simp only [Op.bytesLess,Bool.or_eq_false_iff,decide_eq_false_iff_not,Bool.and_eq_false_iff,beq_eq_false_iff_ne] at h;simp only [Op.bytesLess,Bool.or_eq_true,decide_eq_true_eq,Bool.and_eq_true,beq_iff_eq];by_cases hxy:x=y
  . subst hxy
    rcases h.2 with h2 | h2
    . exact absurd rfl h2
    . exact Or.inr ⟨rfl,less_flip h2 (λe=>hne (by rw [e]))⟩
  . left
    rw [UInt8.lt_iff_toNat_lt] at h ⊢;have:x.toNat≠y.toNat:=λe=>hxy (UInt8.toNat_inj.1 e);omega
theorem less_asym:∀ {a b:List UInt8},Op.bytesLess a b=true->Op.bytesLess b a=false
 | [],[],h=>by simp [Op.bytesLess] at h
 | _ :: _,[],h=>by simp [Op.bytesLess] at h
 | [],_ :: _,_=>rfl
 | x :: a,y :: b,h=>by
  simp only [Op.bytesLess,Bool.or_eq_true,decide_eq_true_eq,Bool.and_eq_true,beq_iff_eq] at h;simp only [Op.bytesLess,Bool.or_eq_false_iff,decide_eq_false_iff_not,Bool.and_eq_false_iff,beq_eq_false_iff_ne];rw [UInt8.lt_iff_toNat_lt] at h ⊢
  rcases h with h | ⟨rfl,h⟩
  . exact ⟨by omega,Or.inl (λe=>by rw [e] at h;omega)⟩
  . exact ⟨by omega,Or.inr (less_asym h)⟩
theorem specProgramOk_any (d:Nat) (w:World) (v:Value) (ms:List Md) (h:Rows w All 3 (HMd w All d) v ms) :
 Calls prog 33 #[v] w λe w'=>e=.returned (.bool (pgOk d ms))/\Bz w w':=by
 obtain ⟨p,cap,rfl,hcl,hcm,hx⟩:=h;have hv:pgOk d ms=(decide (ms.length<=10) && (List.range ms.length).all (mdsAt d ms)):=rfl;rw [hv];clear hv;generalize hn:ms.length=n at *;have HN:=hid hn;have HX:=hid hx;have hnb:=sqM hcl hcm;clear hx hn;go_enter func33,ntmps33;go_wp2
 go_loopw [3] (λiv wr=>∃ k:Nat,k<=n/\iv=.int .i64 k/\Hid ((List.range k).all (mdsAt d ms)=true)/\Bz w wr) (λiv _=>n - (intOf iv).toNat)
 case atStart=>exact ⟨0,Nat.zero_le _,rfl,by show _=_;simp,Below.refl _ _⟩
 case round =>
  obtain ⟨k,hk,rfl,hall,hb⟩:=hrel;have HB:=hid hb;by_cases hlt:k<n
  . obtain ⟨x,hxk⟩:=sqA (l:=ms) (k:=k) HN.out hlt
    obtain ⟨g,off,rfl,-,hgl,hat⟩:=HX.out (sqE hxk);obtain ⟨cs,hcsl,hcs,hmd⟩:=hat k x hxk;have hgw:g<wr.heap.size:=Nat.lt_of_lt_of_le hgl hb.size
    have HATS:Hid (∀ j,k=j+1->∃ q:Md,ms[j]?=some q/\wr.cell? ⟨g,off+j * 3,none⟩=some (.string q.name)):=λj hj=>by
     obtain ⟨q,hq⟩:∃ q,ms[j]?=some q:=⟨ms[j]'(by rw [HN.out];omega),List.getElem?_eq_getElem _⟩;obtain ⟨cs',_,hcs',ev,fv,rfl,_⟩:=hat j q hq;have b0:=hcs' 0 (by omega);rw [<-hb.cell (p:=⟨g,_,none⟩) hgl] at b0;exact ⟨q,hq,by simpa using b0⟩
    have HMD:Hid (∀ w',Bz w w'->HMd w' All d cs x):=λw' hw=>hmd.mono (sqO hw) sqj;obtain ⟨ev,fv,rfl,hxs,f0,f1⟩:=hmd;obtain ⟨pe,ce,rfl,-⟩:=f0;obtain ⟨pf,cf,rfl,-⟩:=f1;obtain ⟨a0,a1,a2⟩:=sqC3 hcs (by omega);rw [<-hb.cell (p:=⟨g,_,none⟩) hgl] at a0 a1 a2;simp at a0 a1 a2;have hki:(k:Int)<(n:Int):=(by omega);have hk0:=sqI k;generalize hca:mdOk d x=ca at *;have HCA:=hid hca;have HXK:=hid hxk;have qa0:∀ m:Wd (λw'=>SameOn All wr w'/\Bz w w'),m.val.cell? ⟨g,off+k * 3,none⟩=some (.string x.name):=λm=>(sqK (m.ok.1.2 g trivial hgw)).trans a0;have qa1:∀ m:Wd (λw'=>SameOn All wr w'/\Bz w w'),m.val.cell? ⟨g,off+k * 3+1,none⟩=some (.slice pe x.exports.length ce):=λm=>(sqK (m.ok.1.2 g trivial hgw)).trans a1;have qa2:∀ m:Wd (λw'=>SameOn All wr w'/\Bz w w'),m.val.cell? ⟨g,off+k * 3+2,none⟩=some (.slice pf x.funs.length cf):=λm=>(sqK (m.ok.1.2 g trivial hgw)).trans a2;clear hb hcs hat hcsl hca a0 a1 a2 hxk
    cases ca with
    | false =>
     have HF:Hid ((List.range n).all (mdsAt d ms)=false):=rangeT_at _ n k hlt (mdsAt_bad HXK.out HCA.out);clear HATS;go_wp2_with fail;have hCne:Nonempty (Wd (λw'=>SameOn All wr w'/\Bz w w')):=⟨⟨wr.drew,⟨sqS,HB.out.drew⟩⟩⟩;refine wp_region_class (λw'=>SameOn All wr w'/\Bz w w') (by kernel_rfl) (by kernel_rfl) ⟨sqS,HB.out.drew⟩ ?_
     repeat (go_big_quiet_step (first | (rename_i m;go_at_call 56;refine (specModuleOk_any d _ _ x (HMD.out _ m.ok.2)).mono ?_;rintro e w1 ⟨rfl,hb1⟩;exact ⟨by rw [HCA.out],⟨⟨w1,⟨m.ok.1.trans (sqO hb1),m.ok.2.trans (hb1.mono m.ok.2.size)⟩⟩,rfl⟩⟩)))
     refine wpQuiet_nil ?_;rintro _ ⟨mq,rfl⟩;have HB4:=hid mq.ok.2;have HS4:=hid mq.ok.1;generalize mq.val=w4 at HB4 HS4 ⊢;go_wp2;go_ret;exact ⟨by rw [HF.out];simp,HB4.out⟩
    | true =>
     rcases Nat.eq_zero_or_pos k with hz | hz
     . have HT':Hid ((List.range (k+1)).all (mdsAt d ms)=true):=rangeT_succ _ k hall.out (by rw [mdsAt_zero hz HXK.out];exact HCA.out)
       have hz1:¬ (0:Int)<(k:Int):=(by omega);have hz3:¬ 0<k:=(by omega);have hz4:decide (0<k)=false:=decide_eq_false hz3;clear HATS hz;go_wp2_with fail;have hCne:Nonempty (Wd (λw'=>SameOn All wr w'/\Bz w w')):=⟨⟨wr.drew,⟨sqS,HB.out.drew⟩⟩⟩;refine wp_region_class (λw'=>SameOn All wr w'/\Bz w w') (by kernel_rfl) (by kernel_rfl) ⟨sqS,HB.out.drew⟩ ?_
       repeat (go_big_quiet_step (first | (rename_i m;go_at_call 56;refine (specModuleOk_any d _ _ x (HMD.out _ m.ok.2)).mono ?_;rintro e w1 ⟨rfl,hb1⟩;exact ⟨by rw [HCA.out],⟨⟨w1,⟨m.ok.1.trans (sqO hb1),m.ok.2.trans (hb1.mono m.ok.2.size)⟩⟩,rfl⟩⟩)))
       refine wpQuiet_nil ?_;rintro _ ⟨mq,rfl⟩;have HB4:=hid mq.ok.2;have HS4:=hid mq.ok.1;generalize mq.val=w4 at HB4 HS4 ⊢;go_wp2_with fail;exact ⟨⟨k+1,by omega,by go_num,HT'.out,HB4.out⟩,by simp [intOf];omega⟩
     . obtain ⟨j,rfl⟩:∃ j,k=j+1:=⟨k - 1,by omega⟩
       obtain ⟨q,hqj,y0⟩:=HATS.out j rfl;have HAT:Hid (mdsAt d ms (j+1)=(true && Op.bytesLess q.name.toList x.name.toList)):=(by show _=_;rw [mdsAt_succ hqj HXK.out,HCA.out]);have qy0:∀ m:Wd (λw'=>SameOn All wr w'/\Bz w w'),m.val.cell? ⟨g,off+j * 3,none⟩=some (.string q.name):=λm=>(sqK (m.ok.1.2 g trivial hgw)).trans y0;have hji:(j:Int)<(n:Int):=(by omega);have hj0:=sqI j;have hj1:(0:Int)<(j:Int)+1:=(by omega);clear HATS hqj hz y0
       cases hlq:Op.bytesLess x.name.toList q.name.toList with
       | true =>
        have HF:Hid ((List.range n).all (mdsAt d ms)=false):=rangeT_at _ n (j+1) hlt (by rw [HAT.out,less_asym hlq];rfl);go_wp2_with fail;have hCne:Nonempty (Wd (λw'=>SameOn All wr w'/\Bz w w')):=⟨⟨wr.drew,⟨sqS,HB.out.drew⟩⟩⟩;refine wp_region_class (λw'=>SameOn All wr w'/\Bz w w') (by kernel_rfl) (by kernel_rfl) ⟨sqS,HB.out.drew⟩ ?_
        repeat (go_big_quiet_step (first | (rename_i m;go_at_call 56;refine (specModuleOk_any d _ _ x (HMD.out _ m.ok.2)).mono ?_;rintro e w1 ⟨rfl,hb1⟩;exact ⟨by rw [HCA.out],⟨⟨w1,⟨m.ok.1.trans (sqO hb1),m.ok.2.trans (hb1.mono m.ok.2.size)⟩⟩,rfl⟩⟩)))
        refine wpQuiet_nil ?_;rintro _ ⟨mq,rfl⟩;have HB4:=hid mq.ok.2;have HS4:=hid mq.ok.1;generalize mq.val=w4 at HB4 HS4 ⊢;go_wp2;go_ret;exact ⟨by rw [HF.out];simp,HB4.out⟩
       | false =>
        by_cases he:x.name=q.name
        . have HF:Hid ((List.range n).all (mdsAt d ms)=false):=rangeT_at _ n (j+1) hlt (by rw [HAT.out,he,bytesLess_self];rfl)
          rw [<-he] at qy0 hlq;clear he;go_wp2_with fail;have hCne:Nonempty (Wd (λw'=>SameOn All wr w'/\Bz w w')):=⟨⟨wr.drew,⟨sqS,HB.out.drew⟩⟩⟩;refine wp_region_class (λw'=>SameOn All wr w'/\Bz w w') (by kernel_rfl) (by kernel_rfl) ⟨sqS,HB.out.drew⟩ ?_
          repeat (go_big_quiet_step (first | (rename_i m;go_at_call 56;refine (specModuleOk_any d _ _ x (HMD.out _ m.ok.2)).mono ?_;rintro e w1 ⟨rfl,hb1⟩;exact ⟨by rw [HCA.out],⟨⟨w1,⟨m.ok.1.trans (sqO hb1),m.ok.2.trans (hb1.mono m.ok.2.size)⟩⟩,rfl⟩⟩)))
          refine wpQuiet_nil ?_;rintro _ ⟨mq,rfl⟩;have HB4:=hid mq.ok.2;have HS4:=hid mq.ok.1;generalize mq.val=w4 at HB4 HS4 ⊢;go_wp2;go_ret;exact ⟨by rw [HF.out];simp,HB4.out⟩
        . have hq1:=str_ne he
          have hq2:=str_neB he;have HT':=hid (rangeT_succ _ (j+1) hall.out (by rw [HAT.out,less_flip hlq hq1];rfl));go_wp2_with fail;have hCne:Nonempty (Wd (λw'=>SameOn All wr w'/\Bz w w')):=⟨⟨wr.drew,⟨sqS,HB.out.drew⟩⟩⟩;refine wp_region_class (λw'=>SameOn All wr w'/\Bz w w') (by kernel_rfl) (by kernel_rfl) ⟨sqS,HB.out.drew⟩ ?_
          repeat (go_big_quiet_step (first | (rename_i m;go_at_call 56;refine (specModuleOk_any d _ _ x (HMD.out _ m.ok.2)).mono ?_;rintro e w1 ⟨rfl,hb1⟩;exact ⟨by rw [HCA.out],⟨⟨w1,⟨m.ok.1.trans (sqO hb1),m.ok.2.trans (hb1.mono m.ok.2.size)⟩⟩,rfl⟩⟩)))
          refine wpQuiet_nil ?_;rintro _ ⟨mq,rfl⟩;have HB4:=hid mq.ok.2;have HS4:=hid mq.ok.1;generalize mq.val=w4 at HB4 HS4 ⊢;go_wp2_with fail;exact ⟨⟨j+1+1,by omega,by go_num,HT'.out,HB4.out⟩,by simp [intOf];omega⟩
  . have HT:Hid ((List.range n).all (mdsAt d ms)=true):=by
     have:=hall.out
     rwa [show k=n by omega] at this
    clear hall;go_wp2;go_ret;exact ⟨by rw [HT.out];simp;omega,HB.out⟩
theorem implProgramOk_any (d:Nat) (w:World) (v:Value) (ms:List Md) (hT:Tabs w) (h:Rows w All 3 (HMd w All d) v ms) :
 Calls prog 40 #[v] w λe w'=>e=.returned (.bool (pgOk d ms))/\Bz w w':=by
 have HTAB:=hid hT;clear hT;obtain ⟨p,cap,rfl,hcl,hcm,hx⟩:=h;have hv:pgOk d ms=(decide (ms.length<=10) && (List.range ms.length).all (mdsAt d ms)):=rfl;rw [hv];clear hv;generalize hn:ms.length=n at *;have HN:=hid hn;have HX:=hid hx;have hnb:=sqM hcl hcm;clear hx hn;by_cases h10:¬ n<=10
 . have h11:(10:Int)<(n:Int):=by omega
   rw [decide_eq_false h10];go_enter func40,ntmps40;go_wp2;go_ret;exact ⟨rfl,Below.refl _ _⟩
 replace h10:n<=10:=by omega
 have h11:¬ (10:Int)<(n:Int):=(by omega);rw [decide_eq_true h10];go_enter func40,ntmps40;go_wp2
 go_loopw [10] (λiv wr=>∃ k:Nat,k<=n/\iv=.int .i64 k/\Hid ((List.range k).all (mdsAt d ms)=true)/\Bz w wr) (λiv _=>n - (intOf iv).toNat)
 case atStart=>exact ⟨0,Nat.zero_le _,rfl,by show _=_;simp,Below.refl _ _⟩
 case round =>
  obtain ⟨k,hk,rfl,hall,hb⟩:=hrel;have HB:=hid hb;by_cases hlt:k<n
  . obtain ⟨x,hxk⟩:=sqA (l:=ms) (k:=k) HN.out hlt
    obtain ⟨g,off,rfl,-,hgl,hat⟩:=HX.out (sqE hxk);obtain ⟨cs,hcsl,hcs,hmd⟩:=hat k x hxk;have hgw:g<wr.heap.size:=Nat.lt_of_lt_of_le hgl hb.size
    have HATS:Hid (∀ j,k=j+1->∃ q:Md,ms[j]?=some q/\wr.cell? ⟨g,off+j * 3,none⟩=some (.string q.name)):=λj hj=>by
     obtain ⟨q,hq⟩:∃ q,ms[j]?=some q:=⟨ms[j]'(by rw [HN.out];omega),List.getElem?_eq_getElem _⟩;obtain ⟨cs',_,hcs',ev,fv,rfl,_⟩:=hat j q hq;have b0:=hcs' 0 (by omega);rw [<-hb.cell (p:=⟨g,_,none⟩) hgl] at b0;exact ⟨q,hq,by simpa using b0⟩
    have HMD:Hid (∀ w',Bz w w'->HMd w' All d cs x):=λw' hw=>hmd.mono (sqO hw) sqj;obtain ⟨ev,fv,rfl,hxs,f0,f1⟩:=hmd;obtain ⟨pe,ce,rfl,-⟩:=f0;obtain ⟨pf,cf,rfl,-⟩:=f1;obtain ⟨a0,a1,a2⟩:=sqC3 hcs (by omega);rw [<-hb.cell (p:=⟨g,_,none⟩) hgl] at a0 a1 a2;simp at a0 a1 a2;have hki:(k:Int)<(n:Int):=(by omega);have hk0:=sqI k;generalize hca:mdOk d x=ca at *;have HCA:=hid hca;have HXK:=hid hxk;obtain ⟨W5,hW5⟩:∃ W5,W5=wr.alloc (.cells #[.string x.name,.slice pe x.exports.length ce,.slice pf x.funs.length cf] 42):=⟨_,rfl⟩;have bF:Hid (Blk W5 wr.heap.size #[.string x.name,.slice pe x.exports.length ce,.slice pf x.funs.length cf] 42):=(by show Blk _ _ _ _;rw [hW5];exact Blk.new);have K5:Hid (Bz wr W5):=(by show Below _ _ _;rw [hW5];exact (sqN _ _));have B5:=hid (hb.trans (K5.out.mono hb.size));have HW5:=hid hW5;have hg5:g<W5.heap.size:=Nat.lt_of_lt_of_le hgw K5.out.size;obtain ⟨z0,z1,z2⟩:=sqB3 bF.out;have l2:=bF.out.lt;have qz0:∀ m:Wd (λw'=>SameOn All W5 w'/\Bz w w'),m.val.cell? ⟨wr.heap.size,0,none⟩=some (.string x.name):=λm=>(sqK (m.ok.1.2 wr.heap.size trivial l2)).trans z0;have qz1:∀ m:Wd (λw'=>SameOn All W5 w'/\Bz w w'),m.val.cell? ⟨wr.heap.size,1,none⟩=some (.slice pe x.exports.length ce):=λm=>(sqK (m.ok.1.2 wr.heap.size trivial l2)).trans z1;have qz2:∀ m:Wd (λw'=>SameOn All W5 w'/\Bz w w'),m.val.cell? ⟨wr.heap.size,2,none⟩=some (.slice pf x.funs.length cf):=λm=>(sqK (m.ok.1.2 wr.heap.size trivial l2)).trans z2;clear hb hcs hat hcsl hca hxk hW5 z0 z1 z2 l2
    cases ca with
    | false =>
     have HF:Hid ((List.range n).all (mdsAt d ms)=false):=rangeT_at _ n k hlt (mdsAt_bad HXK.out HCA.out);clear HATS;go_wp2_with fail;rw [<-HW5.out];have hCne:Nonempty (Wd (λw'=>SameOn All W5 w'/\Bz w w')):=⟨⟨W5.drew,⟨sqS,B5.out.drew⟩⟩⟩;refine wp_region_class (λw'=>SameOn All W5 w'/\Bz w w') (by kernel_rfl) (by kernel_rfl) ⟨sqS,B5.out.drew⟩ ?_
     repeat (go_big_quiet_step (first | (rename_i m;go_at_call 62;refine (implModuleOk_any d _ _ x (HTAB.out.below m.ok.2) (HMD.out _ m.ok.2)).mono ?_;rintro e w1 ⟨rfl,hb1⟩;exact ⟨by rw [HCA.out],⟨⟨w1,⟨m.ok.1.trans (sqO hb1),m.ok.2.trans (hb1.mono m.ok.2.size)⟩⟩,rfl⟩⟩)))
     refine wpQuiet_nil ?_;rintro _ ⟨mq,rfl⟩;have HB4:=hid mq.ok.2;have HS4:=hid mq.ok.1;generalize mq.val=w4 at HB4 HS4 ⊢;go_wp2;go_ret;exact ⟨by rw [HF.out];simp,HB4.out⟩
    | true =>
     rcases Nat.eq_zero_or_pos k with hz | hz
     . have HT':Hid ((List.range (k+1)).all (mdsAt d ms)=true):=rangeT_succ _ k hall.out (by rw [mdsAt_zero hz HXK.out];exact HCA.out)
       have hz1:¬ (0:Int)<(k:Int):=(by omega);have hz3:¬ 0<k:=(by omega);have hz4:decide (0<k)=false:=decide_eq_false hz3;clear HATS hz;go_wp2_with fail;rw [<-HW5.out];have hCne:Nonempty (Wd (λw'=>SameOn All W5 w'/\Bz w w')):=⟨⟨W5.drew,⟨sqS,B5.out.drew⟩⟩⟩;refine wp_region_class (λw'=>SameOn All W5 w'/\Bz w w') (by kernel_rfl) (by kernel_rfl) ⟨sqS,B5.out.drew⟩ ?_
       repeat (go_big_quiet_step (first | (rename_i m;go_at_call 62;refine (implModuleOk_any d _ _ x (HTAB.out.below m.ok.2) (HMD.out _ m.ok.2)).mono ?_;rintro e w1 ⟨rfl,hb1⟩;exact ⟨by rw [HCA.out],⟨⟨w1,⟨m.ok.1.trans (sqO hb1),m.ok.2.trans (hb1.mono m.ok.2.size)⟩⟩,rfl⟩⟩)))
       refine wpQuiet_nil ?_;rintro _ ⟨mq,rfl⟩;have HB4:=hid mq.ok.2;have HS4:=hid mq.ok.1;generalize mq.val=w4 at HB4 HS4 ⊢;go_wp2_with fail;exact ⟨⟨k+1,by omega,by go_num,HT'.out,HB4.out⟩,by simp [intOf];omega⟩
     . obtain ⟨j,rfl⟩:∃ j,k=j+1:=⟨k - 1,by omega⟩
       obtain ⟨q,hqj,y0⟩:=HATS.out j rfl;have HAT:Hid (mdsAt d ms (j+1)=(true && Op.bytesLess q.name.toList x.name.toList)):=(by show _=_;rw [mdsAt_succ hqj HXK.out,HCA.out]);have qy0:∀ m:Wd (λw'=>SameOn All W5 w'/\Bz w w'),m.val.cell? ⟨g,off+j * 3,none⟩=some (.string q.name):=λm=>(sqK (m.ok.1.2 g trivial hg5)).trans (cell_next K5.out y0);have hji:(j:Int)<(n:Int):=(by omega);have hj0:=sqI j;have hj1:(0:Int)<(j:Int)+1:=(by omega);clear HATS hqj hz y0
       cases hlq:Op.bytesLess q.name.toList x.name.toList with
       | false =>
        have HF:Hid ((List.range n).all (mdsAt d ms)=false):=rangeT_at _ n (j+1) hlt (by rw [HAT.out,hlq];rfl);go_wp2_with fail;rw [<-HW5.out];have hCne:Nonempty (Wd (λw'=>SameOn All W5 w'/\Bz w w')):=⟨⟨W5.drew,⟨sqS,B5.out.drew⟩⟩⟩;refine wp_region_class (λw'=>SameOn All W5 w'/\Bz w w') (by kernel_rfl) (by kernel_rfl) ⟨sqS,B5.out.drew⟩ ?_
        repeat (go_big_quiet_step (first | (rename_i m;go_at_call 62;refine (implModuleOk_any d _ _ x (HTAB.out.below m.ok.2) (HMD.out _ m.ok.2)).mono ?_;rintro e w1 ⟨rfl,hb1⟩;exact ⟨by rw [HCA.out],⟨⟨w1,⟨m.ok.1.trans (sqO hb1),m.ok.2.trans (hb1.mono m.ok.2.size)⟩⟩,rfl⟩⟩)))
        refine wpQuiet_nil ?_;rintro _ ⟨mq,rfl⟩;have HB4:=hid mq.ok.2;have HS4:=hid mq.ok.1;generalize mq.val=w4 at HB4 HS4 ⊢;go_wp2;go_ret;exact ⟨by rw [HF.out];simp,HB4.out⟩
       | true =>
        have HT':=hid (rangeT_succ _ (j+1) hall.out (by rw [HAT.out,hlq];rfl));go_wp2_with fail;rw [<-HW5.out];have hCne:Nonempty (Wd (λw'=>SameOn All W5 w'/\Bz w w')):=⟨⟨W5.drew,⟨sqS,B5.out.drew⟩⟩⟩;refine wp_region_class (λw'=>SameOn All W5 w'/\Bz w w') (by kernel_rfl) (by kernel_rfl) ⟨sqS,B5.out.drew⟩ ?_
        repeat (go_big_quiet_step (first | (rename_i m;go_at_call 62;refine (implModuleOk_any d _ _ x (HTAB.out.below m.ok.2) (HMD.out _ m.ok.2)).mono ?_;rintro e w1 ⟨rfl,hb1⟩;exact ⟨by rw [HCA.out],⟨⟨w1,⟨m.ok.1.trans (sqO hb1),m.ok.2.trans (hb1.mono m.ok.2.size)⟩⟩,rfl⟩⟩)))
        refine wpQuiet_nil ?_;rintro _ ⟨mq,rfl⟩;have HB4:=hid mq.ok.2;have HS4:=hid mq.ok.1;generalize mq.val=w4 at HB4 HS4 ⊢;go_wp2_with fail;exact ⟨⟨j+1+1,by omega,by go_num,HT'.out,HB4.out⟩,by simp [intOf];omega⟩
  . have HT:Hid ((List.range n).all (mdsAt d ms)=true):=by
     have:=hall.out
     rwa [show k=n by omega] at this
    clear hall;go_wp2;go_ret;exact ⟨by rw [HT.out];simp,HB.out⟩
end
def cmpL {α:Type} (f:α->α->Int):List α->List α->Int
 | [],[]=>0
 | [],_ :: _=>-1
 | _ :: _,[]=>1
 | x :: xs,y :: ys=>if f x y=0 then cmpL f xs ys else f x y
structure Ord3 {α:Type} (P:α->Prop) (f:α->α->Int):Prop where
 eq:∀ a b,P a->P b->(f a b=0 ↔ a=b)
 anti:∀ a b,P a->P b->f b a = - f a b
 tr:∀ a b c,P a->P b->P c->f a b<0->f b c<0->f a c<0
theorem Ord3.le {α:Type} {P:α->Prop} {f:α->α->Int} (h:Ord3 P f) {a b c:α} (ha:P a) (hb:P b) (hc:P c) (h1:f a b<=0) (h2:f b c<=0):f a c<=0:=by
 by_cases e1:f a b=0
 . rw [(h.eq a b ha hb).1 e1];exact h2
 . by_cases e2:f b c=0
   . rw [<-(h.eq b c hb hc).1 e2];exact h1
   . have:=h.tr a b c ha hb hc (by omega) (by omega)
     omega
theorem ord_list {α:Type} {P:α->Prop} {f:α->α->Int} (h:Ord3 P f):Ord3 (λl:List α=>∀ x ∈ l,P x) (cmpL f) where
 eq:=by
  intro a
  induction a with
  | nil=>intro b _ _;cases b with
   | nil=>simp [cmpL]
   | cons y b=>simp [cmpL]
  | cons x a ih=>intro b ha hb;cases b with
   | nil=>simp [cmpL]
   | cons y b =>
    have hx:=h.eq x y (ha x List.mem_cons_self) (hb y List.mem_cons_self);have hi:=ih b (λz hz=>ha z (List.mem_cons_of_mem _ hz)) (λz hz=>hb z (List.mem_cons_of_mem _ hz));show (if f x y=0 then cmpL f a b else f x y)=0 ↔ _;rw [List.cons.injEq]
    split
    . rename_i h0
      rw [hi];simp [hx.1 h0]
    . rename_i h0
      constructor
      . intro e;exact absurd e h0
      . intro e;exact absurd (hx.2 e.1) h0
 anti:=by
  intro a
  induction a with
  | nil=>intro b _ _;cases b <;> simp [cmpL]
  | cons x a ih=>intro b ha hb;cases b with
   | nil=>simp [cmpL]
   | cons y b =>
    have hx:=h.anti x y (ha x List.mem_cons_self) (hb y List.mem_cons_self);have hi:=ih b (λz hz=>ha z (List.mem_cons_of_mem _ hz)) (λz hz=>hb z (List.mem_cons_of_mem _ hz));show (if f y x=0 then cmpL f b a else f y x) = -(if f x y=0 then cmpL f a b else f x y);rw [hx,hi];by_cases h0:f x y=0
    . rw [if_pos (by omega),if_pos h0]
    . rw [if_neg (by omega),if_neg h0]
 tr:=by
  intro a
  induction a with
  | nil=>intro b c _ _ _ h1 h2;cases b with
   | nil=>simp [cmpL] at h1
   | cons y b=>cases c with
    | nil=>simp [cmpL] at h2
    | cons z c=>simp [cmpL]
  | cons x a ih=>intro b c ha hb hc h1 h2;cases b with
   | nil=>simp [cmpL] at h1
   | cons y b=>cases c with
    | nil=>simp [cmpL] at h2
    | cons z c =>
     have px:=ha x List.mem_cons_self;have py:=hb y List.mem_cons_self;have pz:=hc z List.mem_cons_self;have k1:(if f x y=0 then cmpL f a b else f x y)<0:=h1;have k2:(if f y z=0 then cmpL f b c else f y z)<0:=h2;show (if f x z=0 then cmpL f a c else f x z)<0;by_cases e1:f x y=0
     . rw [if_pos e1] at k1
       have:=(h.eq x y px py).1 e1;subst this;by_cases e2:f x z=0
       . rw [if_pos e2] at k2 ⊢
         exact ih b c (λz hz=>ha z (List.mem_cons_of_mem _ hz)) (λz hz=>hb z (List.mem_cons_of_mem _ hz)) (λz hz=>hc z (List.mem_cons_of_mem _ hz)) k1 k2
       . rw [if_neg e2] at k2 ⊢;exact k2
     . rw [if_neg e1] at k1
       by_cases e2:f y z=0
       . have:=(h.eq y z py pz).1 e2
         subst this;rw [if_neg e1];exact k1
       . rw [if_neg e2] at k2
         have:=h.tr x y z px py pz k1 k2;rw [if_neg (by omega)];exact this
theorem ord_pair {α β:Type} {P:α->Prop} {Q:β->Prop} {f:α->α->Int} {g:β->β->Int} (h:Ord3 P f) (k:Ord3 Q g) :
 Ord3 (λp:α × β=>P p.1/\Q p.2) (λp q=>if f p.1 q.1=0 then g p.2 q.2 else f p.1 q.1) where
 eq:=by
  rintro ⟨a,b⟩ ⟨c,d⟩ ⟨ha,hb⟩ ⟨hc,hd⟩;have h1:=h.eq a c ha hc;have h2:=k.eq b d hb hd;show (if f a c=0 then g b d else f a c)=0 ↔ _;rw [Prod.mk.injEq]
  split
  . rename_i e;rw [h2];simp [h1.1 e]
  . rename_i e
    constructor
    . intro e';exact absurd e' e
    . intro e';exact absurd (h1.2 e'.1) e
 anti:=by
  rintro ⟨a,b⟩ ⟨c,d⟩ ⟨ha,hb⟩ ⟨hc,hd⟩;have h1:=h.anti a c ha hc;have h2:=k.anti b d hb hd;show (if f c a=0 then g d b else f c a) = -(if f a c=0 then g b d else f a c);rw [h1,h2];by_cases e:f a c=0
  . rw [if_pos (by omega),if_pos e]
  . rw [if_neg (by omega),if_neg e]
 tr:=by
  rintro ⟨a,b⟩ ⟨c,d⟩ ⟨u,v⟩ ⟨ha,hb⟩ ⟨hc,hd⟩ ⟨hu,hv⟩ h1 h2;have k1:(if f a c=0 then g b d else f a c)<0:=h1;have k2:(if f c u=0 then g d v else f c u)<0:=h2;show (if f a u=0 then g b v else f a u)<0;by_cases e1:f a c=0
  . rw [if_pos e1] at k1
    have:=(h.eq a c ha hc).1 e1;subst this;by_cases e2:f a u=0
    . rw [if_pos e2] at k2 ⊢
      exact k.tr b d v hb hd hv k1 k2
    . rw [if_neg e2] at k2 ⊢;exact k2
  . rw [if_neg e1] at k1
    by_cases e2:f c u=0
    . have:=(h.eq c u hc hu).1 e2
      subst this;rw [if_neg e1];exact k1
    . rw [if_neg e2] at k2
      have:=h.tr a c u ha hc hu k1 k2;rw [if_neg (by omega)];exact this
theorem ord_int:Ord3 (λ_:Int=>True) cmpI where
 eq:=by intro a b _ _;unfold cmpI;split <;> (try split) <;> constructor <;> intro h <;> omega
 anti:=by intro a b _ _;unfold cmpI;split <;> split <;> (try split) <;> omega
 tr:=by
  intro a b c _ _ _ h1 h2;unfold cmpI at *
  split at h1
  . split at h2
    . rw [if_pos (by omega)];omega
    . split at h2 <;> omega
  . split at h1 <;> omega
theorem ord_byte:Ord3 (λ_:UInt8=>True) (λa b=>cmpI a.toNat b.toNat) where
 eq:=by
  intro a b _ _;rw [ord_int.eq _ _ trivial trivial]
  constructor
  . intro h;exact UInt8.toNat_inj.1 (by omega)
  . intro h;rw [h]
 anti:=λa b _ _=>ord_int.anti _ _ trivial trivial
 tr:=λa b c _ _ _=>ord_int.tr _ _ _ trivial trivial trivial
theorem bytes_cmpL:∀ (a b:List UInt8),Lib.compareBytes a b=cmpL (λa b:UInt8=>cmpI a.toNat b.toNat) a b
 | [],[]=>rfl
 | [],_ :: _=>rfl
 | _ :: _,[]=>rfl
 | x :: a,y :: b=>by
  have ih:=bytes_cmpL a b;unfold Lib.compareBytes
  show _=if cmpI x.toNat y.toNat=0 then cmpL _ a b else cmpI x.toNat y.toNat
  rw [ih];by_cases h1:x<y
  . rw [if_pos h1,cmpI_lt (by rw [UInt8.lt_iff_toNat_lt] at h1;omega)];rfl
  . rw [if_neg h1]
    by_cases h2:y<x
    . rw [if_pos h2,cmpI_gt (by rw [UInt8.lt_iff_toNat_lt] at h2;omega)];rfl
    . rw [if_neg h2]
      have:x.toNat=y.toNat:=(by rw [UInt8.lt_iff_toNat_lt] at h1 h2;omega);rw [this,cmpI_self,if_pos rfl]
theorem ord_text:Ord3 (λ_:ByteArray=>True) cmpS where
 eq:=by
  intro a b _ _;unfold cmpS;rw [bytes_cmpL,(ord_list ord_byte).eq _ _ (λ_ _=>trivial) (λ_ _=>trivial)]
  constructor
  . intro h;exact bytes_inj h
  . intro h;rw [h]
 anti:=by
  intro a b _ _;unfold cmpS;rw [bytes_cmpL,bytes_cmpL];exact (ord_list ord_byte).anti _ _ (λ_ _=>trivial) (λ_ _=>trivial)
 tr:=by
  intro a b c _ _ _;unfold cmpS;rw [bytes_cmpL,bytes_cmpL,bytes_cmpL];exact (ord_list ord_byte).tr _ _ _ (λ_ _=>trivial) (λ_ _=>trivial) (λ_ _=>trivial)
end Go.Proofs.YtonpgdfpgpepiaaGreatDoor
