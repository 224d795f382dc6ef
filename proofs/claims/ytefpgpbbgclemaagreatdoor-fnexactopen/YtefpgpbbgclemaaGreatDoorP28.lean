/-
  NameImplA EachRem
-/
import Derived.Test.YtefpgpbbgclemaaGreatDoorP16
import Derived.Test.YtefpgpbbgclemaaGreatDoorP18
set_option maxHeartbeats 16000000
set_option linter.unusedVariables false
set_option maxRecDepth 100000
namespace Go.Proofs.YtefpgpbbgclemaaGreatDoor
open Go.ChangeShapes Go.WideShapes Go.ChangeAt Go.RowKit
section
open Go.Maps Go.WideMaps
theorem mkMap (w:World):Sem.run Tryz.prog (Instr.makeMap 174 none) w=.ok (.map (some w.heap.size)) (w.alloc (.map #[] 0)):=by kernel_rfl
theorem HEx.offN {w w':World} {mb d:Nat} {cs:List Value} {x:Ex} (h:HEx w (fun g=>g≠mb) d cs x) (ho:Off [mb] w w'):HEx w' (fun g=>g≠mb) d cs x :=
  h.mono ⟨ho.size,fun g hg hl=>ho.block g hl (by simpa using hg)⟩ (fun _ h=>h)
abbrev FV (tb:Nat):Value:=.func (.func 171) #[] #[.pointer (some ⟨tb,0,none⟩)]
theorem HEx.shapeN {w:World} {S:Nat→Prop} {d:Nat} {cs:List Value} {x:Ex} (h:HEx w S d cs x):∃ sk sn st se p1 n1 q1 p2 n2 q2,cs = [.int .i64 sk,.int .i64 sn,.string st,.string se,.slice p1 n1 q1,.slice p2 n2 q2]:=by
  cases d with
  | zero=>exact h.elim
  | succ d =>
    obtain ⟨kv,cv,rfl,_,_,_,_,⟨p1,c1,rfl,_⟩,⟨p2,c2,rfl,_⟩⟩:=h
    exact ⟨_,_,_,_,_,_,_,_,_,_,rfl⟩
end
section
open Go.Maps Go.WideMaps
variable {n0:Nat} {S0:List UInt8→Prop}
def RemAt (n0:Nat) (S0:List UInt8→Prop) (w:World) (mb:Nat) (K:List (List UInt8)):Prop:=SetAt w mb n0 (fun z=>S0 z∧z ∉ K)
theorem RemAt.keep {w w':World} {mb:Nat} {K:List (List UInt8)} (h:RemAt n0 S0 w mb K) (he:w'.heap[mb]?=w.heap[mb]?):RemAt n0 S0 w' mb K:=SetAt.keep h he
theorem RemAt.lt {w:World} {mb:Nat} {K:List (List UInt8)} (h:RemAt n0 S0 w mb K):mb<w.heap.size:=SetAt.lt h
theorem rem_any (w:World) (mb:Nat) (K:List (List UInt8)) (s:ByteArray) (h:RemAt n0 S0 w mb K) (hs:okS s) (hK:K.length<maxLen) :
    Calls Tryz.prog 152 #[.map (some mb),.string s] w fun e w'=>e=.returned (.tuple #[])∧RemAt n0 S0 w' mb (K ++ [s.data.toList])∧Off [mb] w w':=by
  refine (removeN_any w mb n0 _ s h hs).mono ?_
  rintro e w' ⟨rfl,h1,ho⟩
  refine ⟨rfl,h1.iff (fun z=>?_),ho⟩
  simp only [List.mem_append,List.mem_singleton,not_or,and_assoc]
structure EvR (n0:Nat) (S0:List UInt8→Prop) (w:World) (mb tb:Nat) (K:List (List UInt8)):Prop where
  m:RemAt n0 S0 w mb K
  b:Blk w tb #[.func (.func 152) #[.map (some mb)] #[]] 196
  ne:tb≠mb
theorem EvR.next {w w':World} {mb tb:Nat} {K:List (List UInt8)} (h:EvR n0 S0 w mb tb K) (hb:Below w.heap.size w w'):EvR n0 S0 w' mb tb K :=
  ⟨h.m.keep (hb.block mb h.m.lt),h.b.next hb,h.ne⟩
theorem cbkR_any (w:World) (mb tb d:Nat) (cs:List Value) (x:Ex) (K:List (List UInt8)) (h:HEx w (fun g=>g≠mb) (d+1) cs x) (hv:EvR n0 S0 w mb tb K) (hK:K.length<4194304) (A:List (List UInt8)) (hA:(if x.kind=2 then [keyS x.text] else [])=A) :
    Calls Tryz.prog 171 #[.agg cs.toArray,.pointer (some ⟨tb,0,none⟩)] w fun e w'=>e=.returned (.tuple #[])∧EvR n0 S0 w' mb tb (K ++ A)∧Off [mb] w w':=by
  obtain ⟨kv,cv,rfl,-,-,hts,-,f0,f1⟩:=h
  obtain ⟨p,cap,rfl,-⟩:=f0
  obtain ⟨pc,capc,rfl,-⟩:=f1
  have BA:Below w.heap.size w (w.alloc (.cells #[.int .i64 x.kind,.int .i64 x.n,.string x.text,.string x.mod,.slice p x.kids.length cap,.slice pc x.clauses.length capc] 79)):=(Below.refl _ _).alloc (Nat.le_refl _) _
  have HV:Hid (EvR n0 S0 (w.alloc (.cells #[.int .i64 x.kind,.int .i64 x.n,.string x.text,.string x.mod,.slice p x.kids.length cap,.slice pc x.clauses.length capc] 79)) mb tb K):=hv.next BA
  have HBA:Hid (Below w.heap.size w (w.alloc (.cells #[.int .i64 x.kind,.int .i64 x.n,.string x.text,.string x.mod,.slice p x.kids.length cap,.slice pc x.clauses.length capc] 79))):=BA
  have ct:=HV.out.b.cell 0 _ rfl
  by_cases hk:x.kind=2
  · rw [if_pos hk] at hA
    subst hA
    clear hv BA
    rw [hk] at HV HBA ct ⊢
    go_enter Tryz.func171,Tryz.ntmps171
    go_wp2_with fail
    refine (rem_any _ mb K x.text HV.out.m hts (by unfold maxLen;omega)).mono ?_
    rintro e w1 ⟨rfl,hm1,ho1⟩
    have h1:EvR n0 S0 w1 mb tb (K ++ [keyS x.text]):=⟨by unfold keyS;rw [ByteArray.toList_eq];exact hm1,(ho1.block tb HV.out.b.lt (by simpa using HV.out.ne)).trans HV.out.b,HV.out.ne⟩
    go_wp2_with fail
    go_end0
    exact ⟨rfl,h1,(Off.of_below HBA.out).trans ho1⟩
  · rw [if_neg hk] at hA
    subst hA
    rw [List.append_nil]
    have hkb:(x.kind == 2)=false:=by simpa using hk
    clear hv BA
    go_enter Tryz.func171,Tryz.ntmps171
    go_wp2_with fail
    go_end0
    exact ⟨rfl,HV.out,Off.of_below HBA.out⟩
def EeR (n0:Nat) (S0:List UInt8→Prop) (d:Nat):Prop:=∀ (w:World) (mb tb:Nat) (cs:List Value) (x:Ex) (K:List (List UInt8)),HEx w (fun g=>g≠mb) d cs x→EvR n0 S0 w mb tb K→K.length+(varL d x).length≤2097152 →
    Calls Tryz.prog 153 #[.agg cs.toArray,FV tb] w fun e w'=>e=.returned (.tuple #[])∧EvR n0 S0 w' mb tb (K ++ varL d x)∧Off [mb] w w'
def EoR (n0:Nat) (S0:List UInt8→Prop) (d:Nat):Prop:=∀ (w:World) (mb tb:Nat) (v:Value) (es:List Ex) (K:List (List UInt8)),Rows w (fun g=>g≠mb) 6 (HEx w (fun g=>g≠mb) d) v es→EvR n0 S0 w mb tb K→K.length+(es.flatMap (varL d)).length≤2097152 →
    Calls Tryz.prog 126 #[v,FV tb] w fun e w'=>e=.returned (.tuple #[])∧EvR n0 S0 w' mb tb (K ++ es.flatMap (varL d))∧Off [mb] w w'
theorem eachOfR_of {d:Nat} (hE:EeR n0 S0 d):EoR n0 S0 d:=by
  intro w mb tb v es K hr hv hK
  obtain ⟨p,cap,rfl,hcl,hcm,hx⟩:=hr
  have hnb:es.length≤9223372036854775807:=by unfold maxLen at hcm;omega
  have HX:Hid (es≠[]→∃ g off,p=some ⟨g,off,none⟩∧g≠mb∧g<w.heap.size∧∀ i x,es[i]?=some x→∃ cs,cs.length=6∧(∀ j,j<6→w.cell? ⟨g,off+i * 6+j,none⟩=cs[j]?)∧HEx w (fun g=>g≠mb) d cs x):=hx
  have HV:Hid (EvR n0 S0 w mb tb K):=hv
  have HK:Hid (K.length+(es.flatMap (varL d)).length≤2097152):=hK
  generalize hn:es.length=n at *
  have HN:Hid (es.length=n):=hn
  clear hx hv hK hn
  go_enter Tryz.func126,Tryz.ntmps126
  go_wp2_with fail
  go_loopw [8] (fun iv wr=>∃ k:Nat,k≤n∧iv=.int .i64 k∧Hid (EvR n0 S0 wr mb tb (K ++ (es.take k).flatMap (varL d)))∧Hid (Off [mb] w wr)) (fun iv _=>n - (intOf iv).toNat)
  case atStart=>exact ⟨0,Nat.zero_le _,rfl,by show EvR n0 S0 _ _ _ _;simpa using HV.out,Off.refl _ _⟩
  case round =>
    obtain ⟨k,hk,rfl,HVk,HOk⟩:=hrel
    by_cases hlt:k<n
    · obtain ⟨x,hxk⟩:∃ x,es[k]?=some x:=⟨es[k]'(by rw [HN.out];exact hlt),List.getElem?_eq_getElem _⟩
      obtain ⟨g,off,rfl,hgm,hgl,hat⟩:=HX.out (by intro h;rw [h] at hxk;simp at hxk)
      obtain ⟨cs,hcsl,hcs,r1⟩:=hat k x hxk
      have E1:Hid (HEx wr (fun g=>g≠mb) d cs x):=r1.offN HOk.out
      obtain ⟨c0,c1,c2,c3,c4,c5,rfl⟩:=len6 hcsl
      have hge:wr.heap[g]?=w.heap[g]?:=HOk.out.block g hgl (by simpa using hgm)
      have a0:=(World.cell?_of_block (a:=⟨g,off+k * 6+0,none⟩) hge).trans (hcs 0 (by omega))
      have a1:=(World.cell?_of_block (a:=⟨g,off+k * 6+1,none⟩) hge).trans (hcs 1 (by omega))
      have a2:=(World.cell?_of_block (a:=⟨g,off+k * 6+2,none⟩) hge).trans (hcs 2 (by omega))
      have a3:=(World.cell?_of_block (a:=⟨g,off+k * 6+3,none⟩) hge).trans (hcs 3 (by omega))
      have a4:=(World.cell?_of_block (a:=⟨g,off+k * 6+4,none⟩) hge).trans (hcs 4 (by omega))
      have a5:=(World.cell?_of_block (a:=⟨g,off+k * 6+5,none⟩) hge).trans (hcs 5 (by omega))
      simp at a0 a1 a2 a3 a4 a5
      have HJ:Hid (K ++ (es.take (k+1)).flatMap (varL d)=K ++ (es.take k).flatMap (varL d) ++ varL d x):=by
        show _=_
        rw [List.take_add_one,hxk];simp
      have HKk:Hid ((K ++ (es.take k).flatMap (varL d)).length+(varL d x).length≤2097152):=by
        have h1:=HK.out
        have h2:(es.flatMap (varL d))=(es.take k).flatMap (varL d) ++ (varL d x ++ (es.drop (k+1)).flatMap (varL d)):=by
          have h3:es=es.take k ++ x :: es.drop (k+1):=by
            have h4:=List.take_append_drop k es
            rw [List.drop_eq_getElem_cons (by rw [HN.out];exact hlt)] at h4
            have h5:es[k]'(by rw [HN.out];exact hlt)=x:=(List.getElem?_eq_some_iff.1 hxk).2
            rw [h5] at h4
            exact h4.symm
          conv=>lhs;rw [h3]
          simp
        rw [h2] at h1
        show _≤_
        simp only [List.length_append] at h1 ⊢
        omega
      generalize K ++ (es.take k).flatMap (varL d)=Kk at *
      have hki:(k:Int)<(n:Int):=by omega
      have hk0:(0:Int)≤(k:Int):=by omega
      clear hat hcs hcsl r1 hge
      obtain ⟨sk,sn,st,se,p1,n1,q1,p2,n2,q2,hsh⟩:=HEx.shapeN E1.out
      simp only [List.cons.injEq,and_true] at hsh
      obtain ⟨rfl,rfl,rfl,rfl,rfl,rfl⟩:=hsh
      have HBA:Hid (Below wr.heap.size wr (wr.alloc (.cells #[.int .i64 sk,.int .i64 sn,.string st,.string se,.slice p1 n1 q1,.slice p2 n2 q2] 79))):=(Below.refl _ _).alloc (Nat.le_refl _) _
      go_wp2_with fail
      refine (hE _ mb tb _ x Kk (E1.out.offN (Off.of_below HBA.out)) (HVk.out.next HBA.out) HKk.out).mono ?_
      rintro e w1 ⟨rfl,hv1,ho1⟩
      go_wp2_with fail
      exact ⟨⟨k+1,by omega,by go_num,by show EvR n0 S0 _ _ _ _;rw [HJ.out];exact hv1,(HOk.out.trans (Off.of_below HBA.out)).trans ho1⟩,by simp [intOf];omega⟩
    · have HS:Hid (EvR n0 S0 wr mb tb (K ++ es.flatMap (varL d))):=by
        have:=HVk.out
        rwa [List.take_of_length_le (by rw [HN.out];omega)] at this
      go_wp2_with fail
      go_end0
      exact ⟨rfl,HS.out,HOk.out⟩
theorem eachExpR_of {d:Nat} (hO:EoR n0 S0 d):EeR n0 S0 (d+1):=by
  intro w mb tb cs x K h hv hK
  have HEX:Hid (HEx w (fun g=>g≠mb) (d+1) cs x):=h
  obtain ⟨kv,cv,rfl,-,-,hts,-,f0,f1⟩:=h
  obtain ⟨kx,nx,tx,mx,ks,cl⟩:=x
  simp only [Ex.kind,Ex.n,Ex.text,Ex.mod,Ex.kids,Ex.clauses] at *
  have hvl:varL (d+1) (.mk kx nx tx mx ks cl)=(if kx=2 then [keyS tx] else []) ++ (ks.flatMap (varL d) ++ cl.flatMap fun c=>c.1.flatMap (varL d) ++ c.2.flatMap (varL d)):=rfl
  rw [hvl] at hK ⊢
  generalize hA:(if kx=2 then [keyS tx] else ([]:List (List UInt8)))=A at hK ⊢
  have HA:Hid ((if kx=2 then [keyS tx] else ([]:List (List UInt8)))=A):=hA
  simp only [List.length_append] at hK
  have F0:Hid (Rows w (fun g=>g≠mb) 6 (HEx w (fun g=>g≠mb) d) kv ks):=f0
  obtain ⟨p,cap,rfl,-⟩:=id f0
  obtain ⟨pc,capc,rfl,hcl',hcm',hxc⟩:=f1
  have hnc:cl.length≤9223372036854775807:=by unfold maxLen at hcm';omega
  have HXC:Hid (cl≠[]→∃ g off,pc=some ⟨g,off,none⟩∧g≠mb∧g<w.heap.size∧∀ i x,cl[i]?=some x→∃ cs,cs.length=2∧(∀ j,j<2→w.cell? ⟨g,off+i * 2+j,none⟩=cs[j]?)∧HCl w (fun g=>g≠mb) (HEx w (fun g=>g≠mb) d) cs x):=hxc
  have HKK:Hid (K.length+(A.length+((ks.flatMap (varL d)).length+(cl.flatMap fun c=>c.1.flatMap (varL d) ++ c.2.flatMap (varL d)).length))≤2097152):=hK
  generalize hm:cl.length=nc at *
  have HNC:Hid (cl.length=nc):=hm
  have HBA:Hid (Below w.heap.size w (w.alloc (.cells #[.int .i64 kx,.int .i64 nx,.string tx,.string mx,.slice p ks.length cap,.slice pc nc capc] 79))):=(Below.refl _ _).alloc (Nat.le_refl _) _
  have HV:Hid (EvR n0 S0 (w.alloc (.cells #[.int .i64 kx,.int .i64 nx,.string tx,.string mx,.slice p ks.length cap,.slice pc nc capc] 79)) mb tb K):=hv.next HBA.out
  have bA:Hid (Blk (w.alloc (.cells #[.int .i64 kx,.int .i64 nx,.string tx,.string mx,.slice p ks.length cap,.slice pc nc capc] 79)) w.heap.size #[.int .i64 kx,.int .i64 nx,.string tx,.string mx,.slice p ks.length cap,.slice pc nc capc] 79):=Blk.new
  have hmb:mb≠w.heap.size:=by have:=hv.m.lt;omega
  clear f0 hxc hA hm hvl hv hK
  go_enter Tryz.func153,Tryz.ntmps153
  go_wp2_with fail
  refine (cbkR_any _ mb tb d _ _ K (HEX.out.offN (Off.of_below HBA.out)) HV.out (by have:=HKK.out;omega) A HA.out).mono ?_
  rintro e w1 ⟨rfl,hv1,ho1⟩
  have HV1:Hid (EvR n0 S0 w1 mb tb (K ++ A)):=hv1
  have HO1:Hid (Off [mb] w w1):=(Off.of_below HBA.out).trans ho1
  have b1:Hid (Blk w1 w.heap.size #[.int .i64 kx,.int .i64 nx,.string tx,.string mx,.slice p ks.length cap,.slice pc nc capc] 79):=(ho1.block w.heap.size bA.out.lt (by simpa using fun e=>hmb e.symm)).trans bA.out
  have x4:=b1.out.cell 4 _ rfl
  clear hv1 ho1 HV bA
  go_wp2_with fail
  refine (hO _ mb tb _ ks (K ++ A) (Rows.mono F0.out ⟨HO1.out.size,fun g hg hl=>HO1.out.block g hl (by simpa using hg)⟩ (fun _ h=>h) (fun _ _ _ h=>HEx.offN h HO1.out)) HV1.out (by have:=HKK.out;simp only [List.length_append];omega)).mono ?_
  rintro e w2 ⟨rfl,hv2,ho2⟩
  have HV2:Hid (EvR n0 S0 w2 mb tb (K ++ A ++ ks.flatMap (varL d))):=hv2
  have HO2:Hid (Off [mb] w w2):=HO1.out.trans ho2
  have b2:Hid (Blk w2 w.heap.size #[.int .i64 kx,.int .i64 nx,.string tx,.string mx,.slice p ks.length cap,.slice pc nc capc] 79):=(ho2.block w.heap.size b1.out.lt (by simpa using fun e=>hmb e.symm)).trans b1.out
  have x5:=b2.out.cell 5 _ rfl
  clear hv2 ho2 x4 b1 HV1 HO1
  go_wp2_with fail
  go_loopw [16] (fun iv wr=>∃ k:Nat,k≤nc∧iv=.int .i64 k∧Hid (EvR n0 S0 wr mb tb (K ++ A ++ ks.flatMap (varL d) ++ (cl.take k).flatMap fun c=>c.1.flatMap (varL d) ++ c.2.flatMap (varL d)))∧Hid (Off [mb] w wr)) (fun iv _=>nc - (intOf iv).toNat)
  case atStart=>exact ⟨0,Nat.zero_le _,rfl,by show EvR n0 S0 _ _ _ _;simpa using HV2.out,HO2.out⟩
  case round =>
    obtain ⟨k,hk,rfl,HVk,HOk⟩:=hrel
    clear x5 HV2 HO2 b2
    by_cases hlt:k<nc
    · obtain ⟨c,hck⟩:∃ c,cl[k]?=some c:=⟨cl[k]'(by rw [HNC.out];exact hlt),List.getElem?_eq_getElem _⟩
      obtain ⟨g,off,rfl,hgm,hgl,hat⟩:=HXC.out (by intro h;rw [h] at hck;simp at hck)
      obtain ⟨cs,hcsl,hcs,pv,bv,rfl,rp,rb⟩:=hat k c hck
      have SK:Hid (SameOn (fun g=>g≠mb) w wr):=⟨HOk.out.size,fun g hg hl=>HOk.out.block g hl (by simpa using hg)⟩
      have RP:Hid (Rows wr (fun g=>g≠mb) 6 (HEx wr (fun g=>g≠mb) d) pv c.1):=Rows.mono rp SK.out (fun _ h=>h) (fun _ _ _ h=>HEx.offN h HOk.out)
      have RB:Hid (Rows wr (fun g=>g≠mb) 6 (HEx wr (fun g=>g≠mb) d) bv c.2):=Rows.mono rb SK.out (fun _ h=>h) (fun _ _ _ h=>HEx.offN h HOk.out)
      obtain ⟨pp,capp,rfl,-⟩:=rp
      obtain ⟨pb,capb,rfl,-⟩:=rb
      have hge:wr.heap[g]?=w.heap[g]?:=HOk.out.block g hgl (by simpa using hgm)
      have a0:=(World.cell?_of_block (a:=⟨g,off+k * 2+0,none⟩) hge).trans (hcs 0 (by omega))
      have a1:=(World.cell?_of_block (a:=⟨g,off+k * 2+1,none⟩) hge).trans (hcs 1 (by omega))
      simp at a0 a1
      have HJ:Hid ((K ++ A ++ ks.flatMap (varL d) ++ (cl.take (k+1)).flatMap fun c=>c.1.flatMap (varL d) ++ c.2.flatMap (varL d))=(K ++ A ++ ks.flatMap (varL d) ++ (cl.take k).flatMap fun c=>c.1.flatMap (varL d) ++ c.2.flatMap (varL d)) ++ c.1.flatMap (varL d) ++ c.2.flatMap (varL d)):=by
        show _=_
        rw [List.take_add_one,hck];simp
      have HKk:Hid ((K ++ A ++ ks.flatMap (varL d) ++ (cl.take k).flatMap fun c=>c.1.flatMap (varL d) ++ c.2.flatMap (varL d)).length+(c.1.flatMap (varL d)).length+(c.2.flatMap (varL d)).length≤2097152):=by
        have h1:=HKK.out
        have h2:(cl.flatMap fun c=>c.1.flatMap (varL d) ++ c.2.flatMap (varL d))=((cl.take k).flatMap fun c=>c.1.flatMap (varL d) ++ c.2.flatMap (varL d)) ++ ((c.1.flatMap (varL d) ++ c.2.flatMap (varL d)) ++ (cl.drop (k+1)).flatMap fun c=>c.1.flatMap (varL d) ++ c.2.flatMap (varL d)):=by
          have h3:cl=cl.take k ++ c :: cl.drop (k+1):=by
            have h4:=List.take_append_drop k cl
            rw [List.drop_eq_getElem_cons (by rw [HNC.out];exact hlt)] at h4
            have h5:cl[k]'(by rw [HNC.out];exact hlt)=c:=(List.getElem?_eq_some_iff.1 hck).2
            rw [h5] at h4
            exact h4.symm
          conv=>lhs;rw [h3]
          simp
        rw [h2] at h1
        show _≤_
        simp only [List.length_append] at h1 ⊢
        omega
      generalize (K ++ A ++ ks.flatMap (varL d) ++ (cl.take k).flatMap fun c=>c.1.flatMap (varL d) ++ c.2.flatMap (varL d))=Kk at *
      have hki:(k:Int)<(nc:Int):=by omega
      have hk0:(0:Int)≤(k:Int):=by omega
      have hmw:mb≠wr.heap.size:=by have:=HVk.out.m.lt;omega
      have HBC:Hid (Below wr.heap.size wr (wr.alloc (.cells #[.slice pp c.1.length capp,.slice pb c.2.length capb] 127))):=(Below.refl _ _).alloc (Nat.le_refl _) _
      have bC:Hid (Blk (wr.alloc (.cells #[.slice pp c.1.length capp,.slice pb c.2.length capb] 127)) wr.heap.size #[.slice pp c.1.length capp,.slice pb c.2.length capb] 127):=Blk.new
      clear hat hcs hcsl hge
      go_wp2_with fail
      refine (hO _ mb tb _ c.1 Kk (Rows.mono RP.out ⟨HBC.out.size,fun g _ hl=>HBC.out.block g hl⟩ (fun _ h=>h) (fun _ _ _ h=>HEx.offN h (Off.of_below HBC.out))) (HVk.out.next HBC.out) (by have:=HKk.out;omega)).mono ?_
      rintro e w3 ⟨rfl,hv3,ho3⟩
      have HV3:Hid (EvR n0 S0 w3 mb tb (Kk ++ c.1.flatMap (varL d))):=hv3
      have HO3:Hid (Off [mb] wr w3):=(Off.of_below HBC.out).trans ho3
      have b3:Blk w3 wr.heap.size #[.slice pp c.1.length capp,.slice pb c.2.length capb] 127:=(ho3.block wr.heap.size bC.out.lt (by simpa using fun e=>hmw e.symm)).trans bC.out
      have y1:=b3.cell 1 _ rfl
      clear hv3 ho3 bC b3 a0 a1
      go_wp2_with fail
      refine (hO _ mb tb _ c.2 (Kk ++ c.1.flatMap (varL d)) (Rows.mono RB.out ⟨HO3.out.size,fun g hg hl=>HO3.out.block g hl (by simpa using hg)⟩ (fun _ h=>h) (fun _ _ _ h=>HEx.offN h HO3.out)) HV3.out (by have:=HKk.out;simp only [List.length_append];omega)).mono ?_
      rintro e w4 ⟨rfl,hv4,ho4⟩
      go_wp2_with fail
      exact ⟨⟨k+1,by omega,by go_num,by show EvR n0 S0 _ _ _ _;rw [HJ.out];exact hv4,(HOk.out.trans HO3.out).trans ho4⟩,by simp [intOf];omega⟩
    · have HS:Hid (EvR n0 S0 wr mb tb (K ++ (A ++ (ks.flatMap (varL d) ++ cl.flatMap fun c=>c.1.flatMap (varL d) ++ c.2.flatMap (varL d))))):=by
        have:=HVk.out
        rw [List.take_of_length_le (by rw [HNC.out];omega)] at this
        show EvR n0 S0 _ _ _ _
        simpa only [List.append_assoc] using this
      go_wp2_with fail
      go_end0
      exact ⟨rfl,HS.out,HOk.out⟩
theorem eachExpR_all:∀ d,EeR n0 S0 d
  | 0=>fun w mb tb cs x K h _ _=>h.elim
  | d+1=>eachExpR_of (eachOfR_of (eachExpR_all d))
theorem eachVarR_any (w:World) (mb d:Nat) (cs:List Value) (x:Ex) (K:List (List UInt8)) (h:HEx w (fun g=>g≠mb) d cs x) (hm:RemAt n0 S0 w mb K) (hK:K.length+(varL d x).length≤2097152) :
    Calls Tryz.prog 151 #[.agg cs.toArray,.func (.func 152) #[.map (some mb)] #[]] w fun e w'=>e=.returned (.tuple #[])∧RemAt n0 S0 w' mb (K ++ varL d x)∧Off [mb] w w':=by
  obtain ⟨sk,sn,st,se,p1,n1,q1,p2,n2,q2,rfl⟩:=HEx.shapeN h
  have HH:Hid (HEx w (fun g=>g≠mb) d [.int .i64 sk,.int .i64 sn,.string st,.string se,.slice p1 n1 q1,.slice p2 n2 q2] x):=h
  have HM:Hid (RemAt n0 S0 w mb K):=hm
  have hlt:=hm.lt
  clear h hm
  go_enter Tryz.func151,Tryz.ntmps151
  go_wp2_with fail
  have hB:Below w.heap.size w ((w.alloc (.cells #[.int .i64 sk,.int .i64 sn,.string st,.string se,.slice p1 n1 q1,.slice p2 n2 q2] 79)).alloc (.cells #[.func (.func 152) #[.map (some mb)] #[]] 196)):=((Below.refl _ _).alloc (Nat.le_refl _) _).alloc (by simp) _
  have hE:EvR n0 S0 ((w.alloc (.cells #[.int .i64 sk,.int .i64 sn,.string st,.string se,.slice p1 n1 q1,.slice p2 n2 q2] 79)).alloc (.cells #[.func (.func 152) #[.map (some mb)] #[]] 196)) mb (w.heap.size+1) K:=⟨HM.out.keep (hB.block mb hlt),by
    have:=Blk.new (w:=w.alloc (.cells #[.int .i64 sk,.int .i64 sn,.string st,.string se,.slice p1 n1 q1,.slice p2 n2 q2] 79)) (cs:=#[.func (.func 152) #[.map (some mb)] #[]]) (t:=196)
    rwa [alloc_hs] at this,by omega⟩
  refine (eachExpR_all d _ mb (w.heap.size+1) _ x K (HH.out.offN (Off.of_below hB)) hE hK).mono ?_
  rintro e w1 ⟨rfl,hv1,ho1⟩
  go_wp2_with fail
  go_end0
  exact ⟨rfl,hv1.m,(Off.of_below hB).trans ho1⟩
end
end Go.Proofs.YtefpgpbbgclemaaGreatDoor
