/-
  ProgOkA
-/
import Derived.Test.YtefpgpbbgclemaaGreatDoorP20
set_option maxHeartbeats 16000000
set_option linter.unusedVariables false
set_option maxRecDepth 100000
namespace Go.Proofs.YtefpgpbbgclemaaGreatDoor
open Go.ChangeShapes Go.WideShapes Go.ChangeAt Go.RowKit
def mdsAt (d:Nat) (ms:List Md) (k:Nat):Bool :=
  match ms[k]? with
  | none=>true
  | some m=>mdOk d m && (match k with
    | 0=>true
    | j+1=>match ms[j]? with
      | none=>true
      | some q=>Op.bytesLess q.name.toList m.name.toList)
def pgOk (d:Nat) (ms:List Md):Bool:=decide (ms.length≤10) && (List.range ms.length).all (mdsAt d ms)
theorem mdsAt_zero {d:Nat} {ms:List Md} {k:Nat} {r:Md} (hk:k=0) (h:ms[k]?=some r):mdsAt d ms k=mdOk d r:=by
  subst hk;simp [mdsAt,h]
theorem mdsAt_succ {d:Nat} {ms:List Md} {j:Nat} {q r:Md} (hq:ms[j]?=some q) (hr:ms[j+1]?=some r):mdsAt d ms (j+1)=(mdOk d r && Op.bytesLess q.name.toList r.name.toList):=by
  simp [mdsAt,hr,hq]
theorem mdsAt_bad {d:Nat} {ms:List Md} {k:Nat} {r:Md} (hr:ms[k]?=some r) (h:mdOk d r=false):mdsAt d ms k=false:=by
  simp [mdsAt,hr,h]
theorem less_flip:∀ {a b:List UInt8},Op.bytesLess a b=false→a≠b→Op.bytesLess b a=true
  | [],[],_,h=>absurd rfl h
  | _ :: _,[],_,_=>rfl
  | [],_ :: _,h,_=>by simp [Op.bytesLess] at h
  | x :: a,y :: b,h,hne=>by
    simp only [Op.bytesLess,Bool.or_eq_false_iff,decide_eq_false_iff_not,Bool.and_eq_false_iff,beq_eq_false_iff_ne] at h
    simp only [Op.bytesLess,Bool.or_eq_true,decide_eq_true_eq,Bool.and_eq_true,beq_iff_eq]
    by_cases hxy:x=y
    · subst hxy
      rcases h.2 with h2 | h2
      · exact absurd rfl h2
      · exact Or.inr ⟨rfl,less_flip h2 (fun e=>hne (by rw [e]))⟩
    · left
      rw [UInt8.lt_iff_toNat_lt] at h ⊢
      have:x.toNat≠y.toNat:=fun e=>hxy (UInt8.toNat_inj.1 e)
      omega
theorem less_asym:∀ {a b:List UInt8},Op.bytesLess a b=true→Op.bytesLess b a=false
  | [],[],h=>by simp [Op.bytesLess] at h
  | _ :: _,[],h=>by simp [Op.bytesLess] at h
  | [],_ :: _,_=>rfl
  | x :: a,y :: b,h=>by
    simp only [Op.bytesLess,Bool.or_eq_true,decide_eq_true_eq,Bool.and_eq_true,beq_iff_eq] at h
    simp only [Op.bytesLess,Bool.or_eq_false_iff,decide_eq_false_iff_not,Bool.and_eq_false_iff,beq_eq_false_iff_ne]
    rw [UInt8.lt_iff_toNat_lt] at h ⊢
    rcases h with h | ⟨rfl,h⟩
    · exact ⟨by omega,Or.inl (fun e=>by rw [e] at h;omega)⟩
    · exact ⟨by omega,Or.inr (less_asym h)⟩
theorem specProgramOk_any (d:Nat) (w:World) (v:Value) (ms:List Md) (h:Rows w All 3 (HMd w All d) v ms) :
    Calls Tryz.prog 32 #[v] w fun e w'=>e=.returned (.bool (pgOk d ms))∧Below w.heap.size w w':=by
  obtain ⟨p,cap,rfl,hcl,hcm,hx⟩:=h
  have hv:pgOk d ms=(decide (ms.length≤10) && (List.range ms.length).all (mdsAt d ms)):=rfl
  rw [hv]
  clear hv
  generalize hn:ms.length=n at *
  have HN:Hid (ms.length=n):=hn
  have HX:Hid (ms≠[]→∃ g off,p=some ⟨g,off,none⟩∧All g∧g<w.heap.size∧∀ i x,ms[i]?=some x→∃ cs,cs.length=3∧(∀ j,j<3→w.cell? ⟨g,off+i * 3+j,none⟩=cs[j]?)∧HMd w All d cs x):=hx
  have hnb:n≤9223372036854775807:=by unfold maxLen at hcm;omega
  clear hx hn
  go_enter Tryz.func32,Tryz.ntmps32
  go_wp2
  go_loopw [3] (fun iv wr=>∃ k:Nat,k≤n∧iv=.int .i64 k∧Hid ((List.range k).all (mdsAt d ms)=true)∧Below w.heap.size w wr) (fun iv _=>n - (intOf iv).toNat)
  case atStart=>exact ⟨0,Nat.zero_le _,rfl,by show _=_;simp,Below.refl _ _⟩
  case round =>
    obtain ⟨k,hk,rfl,hall,hb⟩:=hrel
    have HB:Hid (Below w.heap.size w wr):=hb
    by_cases hlt:k<n
    · obtain ⟨x,hxk⟩:∃ x,ms[k]?=some x:=⟨ms[k]'(by rw [HN.out];exact hlt),List.getElem?_eq_getElem _⟩
      obtain ⟨g,off,rfl,-,hgl,hat⟩:=HX.out (by intro h;rw [h] at hxk;simp at hxk)
      obtain ⟨cs,hcsl,hcs,hmd⟩:=hat k x hxk
      have hgw:g<wr.heap.size:=Nat.lt_of_lt_of_le hgl hb.size
      have HATS:Hid (∀ j,k=j+1→∃ q:Md,ms[j]?=some q∧wr.cell? ⟨g,off+j * 3,none⟩=some (.string q.name)):=fun j hj=>by
        obtain ⟨q,hq⟩:∃ q,ms[j]?=some q:=⟨ms[j]'(by rw [HN.out];omega),List.getElem?_eq_getElem _⟩
        obtain ⟨cs',_,hcs',ev,fv,rfl,_⟩:=hat j q hq
        have b0:=hcs' 0 (by omega)
        rw [← hb.cell (p:=⟨g,_,none⟩) hgl] at b0
        exact ⟨q,hq,by simpa using b0⟩
      have HMD:Hid (∀ w',Below w.heap.size w w'→HMd w' All d cs x):=fun w' hw=>hmd.mono (SameOn.of_below hw) (fun _ h=>h)
      obtain ⟨ev,fv,rfl,hxs,f0,f1⟩:=hmd
      obtain ⟨pe,ce,rfl,-⟩:=f0
      obtain ⟨pf,cf,rfl,-⟩:=f1
      have a0:=hcs 0 (by omega)
      have a1:=hcs 1 (by omega)
      have a2:=hcs 2 (by omega)
      rw [← hb.cell (p:=⟨g,_,none⟩) hgl] at a0 a1 a2
      simp at a0 a1 a2
      have hki:(k:Int)<(n:Int):=by omega
      have hk0:(0:Int)≤(k:Int):=by omega
      generalize hca:mdOk d x=ca at *
      have HCA:Hid (mdOk d x=ca):=hca
      have HXK:Hid (ms[k]?=some x):=hxk
      have qa0:∀ m:Wd (fun w'=>SameOn All wr w'∧Below w.heap.size w w'),m.val.cell? ⟨g,off+k * 3,none⟩=some (.string x.name):=fun m=>(World.cell?_of_block (m.ok.1.2 g trivial hgw)).trans a0
      have qa1:∀ m:Wd (fun w'=>SameOn All wr w'∧Below w.heap.size w w'),m.val.cell? ⟨g,off+k * 3+1,none⟩=some (.slice pe x.exports.length ce):=fun m=>(World.cell?_of_block (m.ok.1.2 g trivial hgw)).trans a1
      have qa2:∀ m:Wd (fun w'=>SameOn All wr w'∧Below w.heap.size w w'),m.val.cell? ⟨g,off+k * 3+2,none⟩=some (.slice pf x.funs.length cf):=fun m=>(World.cell?_of_block (m.ok.1.2 g trivial hgw)).trans a2
      clear hb hcs hat hcsl hca a0 a1 a2 hxk
      cases ca with
      | false =>
        have HF:Hid ((List.range n).all (mdsAt d ms)=false):=rangeT_at _ n k hlt (mdsAt_bad HXK.out HCA.out)
        clear HATS
        go_wp2_with fail
        have hCne:Nonempty (Wd (fun w'=>SameOn All wr w'∧Below w.heap.size w w')):=⟨⟨wr.drew,⟨⟨Nat.le_refl _,fun _ _ _=>rfl⟩,HB.out.drew⟩⟩⟩
        refine wp_region_class (fun w'=>SameOn All wr w'∧Below w.heap.size w w') (by kernel_rfl) (by kernel_rfl) ⟨⟨Nat.le_refl _,fun _ _ _=>rfl⟩,HB.out.drew⟩ ?_
        repeat (go_big_quiet_step (first | (rename_i m;go_at_call 51;refine (specModuleOk_any d _ _ x (HMD.out _ m.ok.2)).mono ?_;rintro e w1 ⟨rfl,hb1⟩;exact ⟨by rw [HCA.out],⟨⟨w1,⟨m.ok.1.trans (SameOn.of_below hb1),m.ok.2.trans (hb1.mono m.ok.2.size)⟩⟩,rfl⟩⟩)))
        refine wpQuiet_nil ?_
        rintro _ ⟨mq,rfl⟩
        have HB4:Hid (Below w.heap.size w mq.val):=mq.ok.2
        have HS4:Hid (SameOn All wr mq.val):=mq.ok.1
        generalize mq.val=w4 at HB4 HS4 ⊢
        go_wp2_with fail
        go_ret
        exact ⟨by rw [HF.out];simp,HB4.out⟩
      | true =>
        rcases Nat.eq_zero_or_pos k with hz | hz
        · have HT':Hid ((List.range (k+1)).all (mdsAt d ms)=true):=rangeT_succ _ k hall.out (by rw [mdsAt_zero hz HXK.out];exact HCA.out)
          have hz1:¬ (0:Int)<(k:Int):=by omega
          have hz3:¬ 0<k:=by omega
          have hz4:decide (0<k)=false:=decide_eq_false hz3
          clear HATS hz
          go_wp2_with fail
          have hCne:Nonempty (Wd (fun w'=>SameOn All wr w'∧Below w.heap.size w w')):=⟨⟨wr.drew,⟨⟨Nat.le_refl _,fun _ _ _=>rfl⟩,HB.out.drew⟩⟩⟩
          refine wp_region_class (fun w'=>SameOn All wr w'∧Below w.heap.size w w') (by kernel_rfl) (by kernel_rfl) ⟨⟨Nat.le_refl _,fun _ _ _=>rfl⟩,HB.out.drew⟩ ?_
          repeat (go_big_quiet_step (first | (rename_i m;go_at_call 51;refine (specModuleOk_any d _ _ x (HMD.out _ m.ok.2)).mono ?_;rintro e w1 ⟨rfl,hb1⟩;exact ⟨by rw [HCA.out],⟨⟨w1,⟨m.ok.1.trans (SameOn.of_below hb1),m.ok.2.trans (hb1.mono m.ok.2.size)⟩⟩,rfl⟩⟩)))
          refine wpQuiet_nil ?_
          rintro _ ⟨mq,rfl⟩
          have HB4:Hid (Below w.heap.size w mq.val):=mq.ok.2
          have HS4:Hid (SameOn All wr mq.val):=mq.ok.1
          generalize mq.val=w4 at HB4 HS4 ⊢
          go_wp2_with fail
          exact ⟨⟨k+1,by omega,by go_num,HT'.out,HB4.out⟩,by simp [intOf];omega⟩
        · obtain ⟨j,rfl⟩:∃ j,k=j+1:=⟨k - 1,by omega⟩
          obtain ⟨q,hqj,y0⟩:=HATS.out j rfl
          have HAT:Hid (mdsAt d ms (j+1)=(true && Op.bytesLess q.name.toList x.name.toList)):=by show _=_;rw [mdsAt_succ hqj HXK.out,HCA.out]
          have qy0:∀ m:Wd (fun w'=>SameOn All wr w'∧Below w.heap.size w w'),m.val.cell? ⟨g,off+j * 3,none⟩=some (.string q.name):=fun m=>(World.cell?_of_block (m.ok.1.2 g trivial hgw)).trans y0
          have hji:(j:Int)<(n:Int):=by omega
          have hj0:(0:Int)≤(j:Int):=by omega
          have hj1:(0:Int)<(j:Int)+1:=by omega
          clear HATS hqj hz y0
          cases hlq:Op.bytesLess x.name.toList q.name.toList with
          | true =>
            have HF:Hid ((List.range n).all (mdsAt d ms)=false):=rangeT_at _ n (j+1) hlt (by rw [HAT.out,less_asym hlq];rfl)
            go_wp2_with fail
            have hCne:Nonempty (Wd (fun w'=>SameOn All wr w'∧Below w.heap.size w w')):=⟨⟨wr.drew,⟨⟨Nat.le_refl _,fun _ _ _=>rfl⟩,HB.out.drew⟩⟩⟩
            refine wp_region_class (fun w'=>SameOn All wr w'∧Below w.heap.size w w') (by kernel_rfl) (by kernel_rfl) ⟨⟨Nat.le_refl _,fun _ _ _=>rfl⟩,HB.out.drew⟩ ?_
            repeat (go_big_quiet_step (first | (rename_i m;go_at_call 51;refine (specModuleOk_any d _ _ x (HMD.out _ m.ok.2)).mono ?_;rintro e w1 ⟨rfl,hb1⟩;exact ⟨by rw [HCA.out],⟨⟨w1,⟨m.ok.1.trans (SameOn.of_below hb1),m.ok.2.trans (hb1.mono m.ok.2.size)⟩⟩,rfl⟩⟩)))
            refine wpQuiet_nil ?_
            rintro _ ⟨mq,rfl⟩
            have HB4:Hid (Below w.heap.size w mq.val):=mq.ok.2
            have HS4:Hid (SameOn All wr mq.val):=mq.ok.1
            generalize mq.val=w4 at HB4 HS4 ⊢
            go_wp2_with fail
            go_ret
            exact ⟨by rw [HF.out];simp,HB4.out⟩
          | false =>
            by_cases he:x.name=q.name
            · have HF:Hid ((List.range n).all (mdsAt d ms)=false):=rangeT_at _ n (j+1) hlt (by rw [HAT.out,he,bytesLess_self];rfl)
              rw [← he] at qy0 hlq
              clear he
              go_wp2_with fail
              have hCne:Nonempty (Wd (fun w'=>SameOn All wr w'∧Below w.heap.size w w')):=⟨⟨wr.drew,⟨⟨Nat.le_refl _,fun _ _ _=>rfl⟩,HB.out.drew⟩⟩⟩
              refine wp_region_class (fun w'=>SameOn All wr w'∧Below w.heap.size w w') (by kernel_rfl) (by kernel_rfl) ⟨⟨Nat.le_refl _,fun _ _ _=>rfl⟩,HB.out.drew⟩ ?_
              repeat (go_big_quiet_step (first | (rename_i m;go_at_call 51;refine (specModuleOk_any d _ _ x (HMD.out _ m.ok.2)).mono ?_;rintro e w1 ⟨rfl,hb1⟩;exact ⟨by rw [HCA.out],⟨⟨w1,⟨m.ok.1.trans (SameOn.of_below hb1),m.ok.2.trans (hb1.mono m.ok.2.size)⟩⟩,rfl⟩⟩)))
              refine wpQuiet_nil ?_
              rintro _ ⟨mq,rfl⟩
              have HB4:Hid (Below w.heap.size w mq.val):=mq.ok.2
              have HS4:Hid (SameOn All wr mq.val):=mq.ok.1
              generalize mq.val=w4 at HB4 HS4 ⊢
              go_wp2_with fail
              go_ret
              exact ⟨by rw [HF.out];simp,HB4.out⟩
            · have hq1:=str_ne he
              have hq2:=str_neB he
              have HT':Hid ((List.range (j+1+1)).all (mdsAt d ms)=true):=rangeT_succ _ (j+1) hall.out (by rw [HAT.out,less_flip hlq hq1];rfl)
              go_wp2_with fail
              have hCne:Nonempty (Wd (fun w'=>SameOn All wr w'∧Below w.heap.size w w')):=⟨⟨wr.drew,⟨⟨Nat.le_refl _,fun _ _ _=>rfl⟩,HB.out.drew⟩⟩⟩
              refine wp_region_class (fun w'=>SameOn All wr w'∧Below w.heap.size w w') (by kernel_rfl) (by kernel_rfl) ⟨⟨Nat.le_refl _,fun _ _ _=>rfl⟩,HB.out.drew⟩ ?_
              repeat (go_big_quiet_step (first | (rename_i m;go_at_call 51;refine (specModuleOk_any d _ _ x (HMD.out _ m.ok.2)).mono ?_;rintro e w1 ⟨rfl,hb1⟩;exact ⟨by rw [HCA.out],⟨⟨w1,⟨m.ok.1.trans (SameOn.of_below hb1),m.ok.2.trans (hb1.mono m.ok.2.size)⟩⟩,rfl⟩⟩)))
              refine wpQuiet_nil ?_
              rintro _ ⟨mq,rfl⟩
              have HB4:Hid (Below w.heap.size w mq.val):=mq.ok.2
              have HS4:Hid (SameOn All wr mq.val):=mq.ok.1
              generalize mq.val=w4 at HB4 HS4 ⊢
              go_wp2_with fail
              exact ⟨⟨j+1+1,by omega,by go_num,HT'.out,HB4.out⟩,by simp [intOf];omega⟩
    · have HT:Hid ((List.range n).all (mdsAt d ms)=true):=by
        have:=hall.out
        rwa [show k=n by omega] at this
      clear hall
      go_wp2
      go_ret
      exact ⟨by rw [HT.out];simp;omega,HB.out⟩
theorem implProgramOk_any (d:Nat) (w:World) (v:Value) (ms:List Md) (hT:Tabs w) (h:Rows w All 3 (HMd w All d) v ms) :
    Calls Tryz.prog 37 #[v] w fun e w'=>e=.returned (.bool (pgOk d ms))∧Below w.heap.size w w':=by
  have HTAB:Hid (Tabs w):=hT
  clear hT
  obtain ⟨p,cap,rfl,hcl,hcm,hx⟩:=h
  have hv:pgOk d ms=(decide (ms.length≤10) && (List.range ms.length).all (mdsAt d ms)):=rfl
  rw [hv]
  clear hv
  generalize hn:ms.length=n at *
  have HN:Hid (ms.length=n):=hn
  have HX:Hid (ms≠[]→∃ g off,p=some ⟨g,off,none⟩∧All g∧g<w.heap.size∧∀ i x,ms[i]?=some x→∃ cs,cs.length=3∧(∀ j,j<3→w.cell? ⟨g,off+i * 3+j,none⟩=cs[j]?)∧HMd w All d cs x):=hx
  have hnb:n≤9223372036854775807:=by unfold maxLen at hcm;omega
  clear hx hn
  by_cases h10:¬ n≤10
  · have h11:(10:Int)<(n:Int):=by omega
    rw [decide_eq_false h10]
    go_enter Tryz.func37,Tryz.ntmps37
    go_wp2
    go_ret
    exact ⟨rfl,Below.refl _ _⟩
  replace h10:n≤10:=by omega
  have h11:¬ (10:Int)<(n:Int):=by omega
  rw [decide_eq_true h10]
  go_enter Tryz.func37,Tryz.ntmps37
  go_wp2
  go_loopw [10] (fun iv wr=>∃ k:Nat,k≤n∧iv=.int .i64 k∧Hid ((List.range k).all (mdsAt d ms)=true)∧Below w.heap.size w wr) (fun iv _=>n - (intOf iv).toNat)
  case atStart=>exact ⟨0,Nat.zero_le _,rfl,by show _=_;simp,Below.refl _ _⟩
  case round =>
    obtain ⟨k,hk,rfl,hall,hb⟩:=hrel
    have HB:Hid (Below w.heap.size w wr):=hb
    by_cases hlt:k<n
    · obtain ⟨x,hxk⟩:∃ x,ms[k]?=some x:=⟨ms[k]'(by rw [HN.out];exact hlt),List.getElem?_eq_getElem _⟩
      obtain ⟨g,off,rfl,-,hgl,hat⟩:=HX.out (by intro h;rw [h] at hxk;simp at hxk)
      obtain ⟨cs,hcsl,hcs,hmd⟩:=hat k x hxk
      have hgw:g<wr.heap.size:=Nat.lt_of_lt_of_le hgl hb.size
      have HATS:Hid (∀ j,k=j+1→∃ q:Md,ms[j]?=some q∧wr.cell? ⟨g,off+j * 3,none⟩=some (.string q.name)):=fun j hj=>by
        obtain ⟨q,hq⟩:∃ q,ms[j]?=some q:=⟨ms[j]'(by rw [HN.out];omega),List.getElem?_eq_getElem _⟩
        obtain ⟨cs',_,hcs',ev,fv,rfl,_⟩:=hat j q hq
        have b0:=hcs' 0 (by omega)
        rw [← hb.cell (p:=⟨g,_,none⟩) hgl] at b0
        exact ⟨q,hq,by simpa using b0⟩
      have HMD:Hid (∀ w',Below w.heap.size w w'→HMd w' All d cs x):=fun w' hw=>hmd.mono (SameOn.of_below hw) (fun _ h=>h)
      obtain ⟨ev,fv,rfl,hxs,f0,f1⟩:=hmd
      obtain ⟨pe,ce,rfl,-⟩:=f0
      obtain ⟨pf,cf,rfl,-⟩:=f1
      have a0:=hcs 0 (by omega)
      have a1:=hcs 1 (by omega)
      have a2:=hcs 2 (by omega)
      rw [← hb.cell (p:=⟨g,_,none⟩) hgl] at a0 a1 a2
      simp at a0 a1 a2
      have hki:(k:Int)<(n:Int):=by omega
      have hk0:(0:Int)≤(k:Int):=by omega
      generalize hca:mdOk d x=ca at *
      have HCA:Hid (mdOk d x=ca):=hca
      have HXK:Hid (ms[k]?=some x):=hxk
      obtain ⟨W5,hW5⟩:∃ W5,W5=wr.alloc (.cells #[.string x.name,.slice pe x.exports.length ce,.slice pf x.funs.length cf] 47):=⟨_,rfl⟩
      have bF:Hid (Blk W5 wr.heap.size #[.string x.name,.slice pe x.exports.length ce,.slice pf x.funs.length cf] 47):=by show Blk _ _ _ _;rw [hW5];exact Blk.new
      have K5:Hid (Below wr.heap.size wr W5):=by show Below _ _ _;rw [hW5];exact (Below.refl _ _).alloc (Nat.le_refl _) _
      have B5:Hid (Below w.heap.size w W5):=hb.trans (K5.out.mono hb.size)
      have HW5:Hid (W5=wr.alloc (.cells #[.string x.name,.slice pe x.exports.length ce,.slice pf x.funs.length cf] 47)):=hW5
      have hg5:g<W5.heap.size:=Nat.lt_of_lt_of_le hgw K5.out.size
      have z0:=bF.out.cell 0 _ rfl
      have z1:=bF.out.cell 1 _ rfl
      have z2:=bF.out.cell 2 _ rfl
      have l2:=bF.out.lt
      have qz0:∀ m:Wd (fun w'=>SameOn All W5 w'∧Below w.heap.size w w'),m.val.cell? ⟨wr.heap.size,0,none⟩=some (.string x.name):=fun m=>(World.cell?_of_block (m.ok.1.2 wr.heap.size trivial l2)).trans z0
      have qz1:∀ m:Wd (fun w'=>SameOn All W5 w'∧Below w.heap.size w w'),m.val.cell? ⟨wr.heap.size,1,none⟩=some (.slice pe x.exports.length ce):=fun m=>(World.cell?_of_block (m.ok.1.2 wr.heap.size trivial l2)).trans z1
      have qz2:∀ m:Wd (fun w'=>SameOn All W5 w'∧Below w.heap.size w w'),m.val.cell? ⟨wr.heap.size,2,none⟩=some (.slice pf x.funs.length cf):=fun m=>(World.cell?_of_block (m.ok.1.2 wr.heap.size trivial l2)).trans z2
      clear hb hcs hat hcsl hca hxk hW5 z0 z1 z2 l2
      cases ca with
      | false =>
        have HF:Hid ((List.range n).all (mdsAt d ms)=false):=rangeT_at _ n k hlt (mdsAt_bad HXK.out HCA.out)
        clear HATS
        go_wp2_with fail
        rw [← HW5.out]
        have hCne:Nonempty (Wd (fun w'=>SameOn All W5 w'∧Below w.heap.size w w')):=⟨⟨W5.drew,⟨⟨Nat.le_refl _,fun _ _ _=>rfl⟩,B5.out.drew⟩⟩⟩
        refine wp_region_class (fun w'=>SameOn All W5 w'∧Below w.heap.size w w') (by kernel_rfl) (by kernel_rfl) ⟨⟨Nat.le_refl _,fun _ _ _=>rfl⟩,B5.out.drew⟩ ?_
        repeat (go_big_quiet_step (first | (rename_i m;go_at_call 57;refine (implModuleOk_any d _ _ x (HTAB.out.below m.ok.2) (HMD.out _ m.ok.2)).mono ?_;rintro e w1 ⟨rfl,hb1⟩;exact ⟨by rw [HCA.out],⟨⟨w1,⟨m.ok.1.trans (SameOn.of_below hb1),m.ok.2.trans (hb1.mono m.ok.2.size)⟩⟩,rfl⟩⟩)))
        refine wpQuiet_nil ?_
        rintro _ ⟨mq,rfl⟩
        have HB4:Hid (Below w.heap.size w mq.val):=mq.ok.2
        have HS4:Hid (SameOn All W5 mq.val):=mq.ok.1
        generalize mq.val=w4 at HB4 HS4 ⊢
        go_wp2_with fail
        go_ret
        exact ⟨by rw [HF.out];simp,HB4.out⟩
      | true =>
        rcases Nat.eq_zero_or_pos k with hz | hz
        · have HT':Hid ((List.range (k+1)).all (mdsAt d ms)=true):=rangeT_succ _ k hall.out (by rw [mdsAt_zero hz HXK.out];exact HCA.out)
          have hz1:¬ (0:Int)<(k:Int):=by omega
          have hz3:¬ 0<k:=by omega
          have hz4:decide (0<k)=false:=decide_eq_false hz3
          clear HATS hz
          go_wp2_with fail
          rw [← HW5.out]
          have hCne:Nonempty (Wd (fun w'=>SameOn All W5 w'∧Below w.heap.size w w')):=⟨⟨W5.drew,⟨⟨Nat.le_refl _,fun _ _ _=>rfl⟩,B5.out.drew⟩⟩⟩
          refine wp_region_class (fun w'=>SameOn All W5 w'∧Below w.heap.size w w') (by kernel_rfl) (by kernel_rfl) ⟨⟨Nat.le_refl _,fun _ _ _=>rfl⟩,B5.out.drew⟩ ?_
          repeat (go_big_quiet_step (first | (rename_i m;go_at_call 57;refine (implModuleOk_any d _ _ x (HTAB.out.below m.ok.2) (HMD.out _ m.ok.2)).mono ?_;rintro e w1 ⟨rfl,hb1⟩;exact ⟨by rw [HCA.out],⟨⟨w1,⟨m.ok.1.trans (SameOn.of_below hb1),m.ok.2.trans (hb1.mono m.ok.2.size)⟩⟩,rfl⟩⟩)))
          refine wpQuiet_nil ?_
          rintro _ ⟨mq,rfl⟩
          have HB4:Hid (Below w.heap.size w mq.val):=mq.ok.2
          have HS4:Hid (SameOn All W5 mq.val):=mq.ok.1
          generalize mq.val=w4 at HB4 HS4 ⊢
          go_wp2_with fail
          exact ⟨⟨k+1,by omega,by go_num,HT'.out,HB4.out⟩,by simp [intOf];omega⟩
        · obtain ⟨j,rfl⟩:∃ j,k=j+1:=⟨k - 1,by omega⟩
          obtain ⟨q,hqj,y0⟩:=HATS.out j rfl
          have HAT:Hid (mdsAt d ms (j+1)=(true && Op.bytesLess q.name.toList x.name.toList)):=by show _=_;rw [mdsAt_succ hqj HXK.out,HCA.out]
          have qy0:∀ m:Wd (fun w'=>SameOn All W5 w'∧Below w.heap.size w w'),m.val.cell? ⟨g,off+j * 3,none⟩=some (.string q.name):=fun m=>(World.cell?_of_block (m.ok.1.2 g trivial hg5)).trans (cell_next K5.out y0)
          have hji:(j:Int)<(n:Int):=by omega
          have hj0:(0:Int)≤(j:Int):=by omega
          have hj1:(0:Int)<(j:Int)+1:=by omega
          clear HATS hqj hz y0
          cases hlq:Op.bytesLess q.name.toList x.name.toList with
          | false =>
            have HF:Hid ((List.range n).all (mdsAt d ms)=false):=rangeT_at _ n (j+1) hlt (by rw [HAT.out,hlq];rfl)
            go_wp2_with fail
            rw [← HW5.out]
            have hCne:Nonempty (Wd (fun w'=>SameOn All W5 w'∧Below w.heap.size w w')):=⟨⟨W5.drew,⟨⟨Nat.le_refl _,fun _ _ _=>rfl⟩,B5.out.drew⟩⟩⟩
            refine wp_region_class (fun w'=>SameOn All W5 w'∧Below w.heap.size w w') (by kernel_rfl) (by kernel_rfl) ⟨⟨Nat.le_refl _,fun _ _ _=>rfl⟩,B5.out.drew⟩ ?_
            repeat (go_big_quiet_step (first | (rename_i m;go_at_call 57;refine (implModuleOk_any d _ _ x (HTAB.out.below m.ok.2) (HMD.out _ m.ok.2)).mono ?_;rintro e w1 ⟨rfl,hb1⟩;exact ⟨by rw [HCA.out],⟨⟨w1,⟨m.ok.1.trans (SameOn.of_below hb1),m.ok.2.trans (hb1.mono m.ok.2.size)⟩⟩,rfl⟩⟩)))
            refine wpQuiet_nil ?_
            rintro _ ⟨mq,rfl⟩
            have HB4:Hid (Below w.heap.size w mq.val):=mq.ok.2
            have HS4:Hid (SameOn All W5 mq.val):=mq.ok.1
            generalize mq.val=w4 at HB4 HS4 ⊢
            go_wp2_with fail
            go_ret
            exact ⟨by rw [HF.out];simp,HB4.out⟩
          | true =>
            have HT':Hid ((List.range (j+1+1)).all (mdsAt d ms)=true):=rangeT_succ _ (j+1) hall.out (by rw [HAT.out,hlq];rfl)
            go_wp2_with fail
            rw [← HW5.out]
            have hCne:Nonempty (Wd (fun w'=>SameOn All W5 w'∧Below w.heap.size w w')):=⟨⟨W5.drew,⟨⟨Nat.le_refl _,fun _ _ _=>rfl⟩,B5.out.drew⟩⟩⟩
            refine wp_region_class (fun w'=>SameOn All W5 w'∧Below w.heap.size w w') (by kernel_rfl) (by kernel_rfl) ⟨⟨Nat.le_refl _,fun _ _ _=>rfl⟩,B5.out.drew⟩ ?_
            repeat (go_big_quiet_step (first | (rename_i m;go_at_call 57;refine (implModuleOk_any d _ _ x (HTAB.out.below m.ok.2) (HMD.out _ m.ok.2)).mono ?_;rintro e w1 ⟨rfl,hb1⟩;exact ⟨by rw [HCA.out],⟨⟨w1,⟨m.ok.1.trans (SameOn.of_below hb1),m.ok.2.trans (hb1.mono m.ok.2.size)⟩⟩,rfl⟩⟩)))
            refine wpQuiet_nil ?_
            rintro _ ⟨mq,rfl⟩
            have HB4:Hid (Below w.heap.size w mq.val):=mq.ok.2
            have HS4:Hid (SameOn All W5 mq.val):=mq.ok.1
            generalize mq.val=w4 at HB4 HS4 ⊢
            go_wp2_with fail
            exact ⟨⟨j+1+1,by omega,by go_num,HT'.out,HB4.out⟩,by simp [intOf];omega⟩
    · have HT:Hid ((List.range n).all (mdsAt d ms)=true):=by
        have:=hall.out
        rwa [show k=n by omega] at this
      clear hall
      go_wp2
      go_ret
      exact ⟨by rw [HT.out];simp,HB.out⟩
end Go.Proofs.YtefpgpbbgclemaaGreatDoor
