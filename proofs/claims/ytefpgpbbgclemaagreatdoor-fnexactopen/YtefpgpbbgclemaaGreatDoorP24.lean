/-
  ModsMark RefHeld ModsHeld
-/
import Derived.Test.YtefpgpbbgclemaaGreatDoorP23
import Derived.Test.YtefpgpbbgclemaaGreatDoorP06
set_option maxHeartbeats 16000000
set_option linter.unusedVariables false
set_option maxRecDepth 100000
namespace Go.Proofs.YtefpgpbbgclemaaGreatDoor
open Go.ChangeShapes Go.WideShapes Go.ChangeAt Go.RowKit
def cntMS (d:Nat) (m:Md):Nat:=1+cntM d m
def markMS (d:Nat) (k:Nat) (m:Md):Md:=⟨mtext k,markL markR cntR (k+1) m.exports,markL (markF d) (cntF d) (k+1+(m.exports.map cntR).sum) m.funs⟩
def MarkMS (d:Nat):Prop :=
  ∀ (w:World) (v:Value) (es:List Md) (fp:List Nat) (k:Nat),ORows w 47 3 (OMd w d) v es fp→fp.Nodup→1≤k→k+(es.map (cntMS d)).sum≤1099511627776 →
    Calls Tryz.prog 10 #[v,.int .i64 k] w fun e w'=>e=.returned (.int .i64 ((k+(es.map (cntMS d)).sum:Nat):Int))∧ORows w' 47 3 (OMd w' d) v (markL (markMS d) (cntMS d) k es) fp∧Off fp w w'
theorem MarkMS_of {d:Nat}  : MarkMS d:=by
  intro w v es fp k h hnd hk1 hkb
  obtain ⟨p,cap,rfl,hcl,hcm⟩:=h.shape
  have hnb:es.length≤9223372036854775807:=by unfold maxLen at hcm;omega
  have HL:Hid ((markL (markMS d) (cntMS d) k es).length=es.length):=markL_length _ _ _ _
  have HO:Hid (ORows w 47 3 (OMd w d) (.slice p es.length cap) es fp):=h
  have HND:Hid fp.Nodup:=hnd
  have HKB:Hid (k+(es.map (cntMS d)).sum≤1099511627776):=hkb
  generalize hn:es.length=n at *
  have HN:Hid (es.length=n):=hn
  clear h hnd hn hkb
  go_enter Tryz.func10,Tryz.ntmps10
  go_wp2
  go_loopw [1,5] (fun kv iv wr=>∃ i kk:Nat,i≤n∧iv=.int .i64 i∧kv=.int .i64 kk∧Hid (kk=k+((es.take i).map (cntMS d)).sum)∧Hid (ORows wr 47 3 (OMd wr d) (.slice p n cap) (mix i (markL (markMS d) (cntMS d) k es) es) fp)∧Hid (Off fp w wr)) (fun _ iv _=>n - (intOf iv).toNat)
  case atStart=>exact ⟨0,k,Nat.zero_le _,rfl,rfl,(by show k=_;simp),(by show ORows _ _ _ _ _ _ _;rw [mix_zero];exact HO.out),Off.refl _ _⟩
  case round =>
    obtain ⟨i,kk,hi,rfl,rfl,HK,HR,HF⟩:=hrel
    by_cases hlt:i<n
    · obtain ⟨x,hxi⟩:∃ x,es[i]?=some x:=⟨es[i]'(by rw [HN.out];exact hlt),List.getElem?_eq_getElem _⟩
      have hml:(mix i (markL (markMS d) (cntMS d) k es) es).length=n:=by rw [mix_length (by rw [HL.out,HN.out]),HN.out]
      have hmx:(mix i (markL (markMS d) (cntMS d) k es) es)[i]?=some x:=by rw [mix_at (by rw [HL.out,HN.out]) (by rw [HN.out];exact hlt)];exact hxi
      have HMX:Hid ((mix i (markL (markMS d) (cntMS d) k es) es).length=n):=hml
      rcases HR.out with hnil | ⟨hne,cells,g,cap',fps,ho,hv,hl,hfp,hat⟩
      · rw [hnil.1] at hml;simp at hml;omega
      rw [hml] at ho hv hl
      obtain ⟨f,hf⟩:∃ f,fps[i]?=some f:=⟨fps[i]'(by rw [hl];exact hlt),List.getElem?_eq_getElem _⟩
      obtain ⟨cs,hcs4,hcs,hx⟩:=hat i x f hmx hf
      cases hv
      have hlc:cells.length=n * 3:=ho.1
      have hnp:=nodup_parts (hfp ▸ HND.out)
      have hsum:((es.take (i+1)).map (cntMS d)).sum=((es.take i).map (cntMS d)).sum+cntMS d x:=sum_take_succ _ es i x hxi
      have hle:((es.take (i+1)).map (cntMS d)).sum≤(es.map (cntMS d)).sum:=sum_take_le _ es (i+1)
      have hkk:=HK.out
      have hkb:=HKB.out
      have hg0:g ∈ fp:=by rw [hfp];simp
      have hfs:∀ a ∈ f,a ∈ fp:=fun a ha=>by rw [hfp];exact List.mem_cons_of_mem _ (List.mem_flatten.2 ⟨f,List.mem_of_getElem? hf,ha⟩)
      have hgf:g ∉ f:=(hnp.1 f (List.mem_of_getElem? hf)).1
      have hfn:f.Nodup:=(hnp.1 f (List.mem_of_getElem? hf)).2
      have HMI:Hid ((markL (markMS d) (cntMS d) k es)[i]?=some ((markMS d) kk x)):=by
        show _=_
        rw [markL_at _ _ _ _ _ _ hxi,← HK.out]
      have HAT:Hid (∀ (j:Nat) y f',(mix i (markL (markMS d) (cntMS d) k es) es)[j]?=some y→fps[j]?=some f'→∃ cs:List Value,cs.length=3∧(∀ q,q<3→cells[j * 3+q]?=cs[q]?)∧OMd wr d cs y f'):=hat
      have HNP:Hid (∀ (i j:Nat) f f',i≠j→fps[i]?=some f→fps[j]?=some f'→∀ a ∈ f,a ∉ f'):=hnp.2
      have HNG:Hid (∀ f ∈ fps,g ∉ f∧f.Nodup):=hnp.1
      have HFP:Hid (fp=g :: fps.flatten):=hfp
      have HNE:Hid (mix i (markL (markMS d) (cntMS d) k es) es≠[]):=hne
      have HFS:Hid ((∀ a ∈ f,a ∈ fp)∧g ∈ fp∧g ∉ f∧f.Nodup):=⟨hfs,hg0,hgf,hfn⟩
      have hki:(i:Int)<(n:Int):=by omega
      have hi0:(0:Int)≤(i:Int):=by omega
      clear hat hnp hfp hne hfs hg0 hgf hfn hml hmx HKB HO
      obtain ⟨ev,fv,f1,f2,rfl,hff,hms,hke,hcl⟩:=hx
      obtain ⟨pe,ce,hev,_⟩:=hke.shape
      subst hev
      obtain ⟨pf,cf,hfv,_⟩:=hcl.shape
      subst hfv
      have HFF:Hid (f=f1 ++ f2):=hff
      have HCS:Hid (∀ (j:Nat),j<3→cells[i * 3+j]? = [Value.string x.name,.slice pe x.exports.length ce,.slice pf x.funs.length cf][j]?):=hcs
      have HOW:Hid (wr.ownsRow 0 47 3 (.slice (some ⟨g,0,none⟩) n cap) n cells):=ho
      have HKE:Hid (ORows wr 89 2 (ORf wr d) (.slice pe x.exports.length ce) x.exports f1):=hke
      have HCL:Hid (ORows wr 91 3 (OFn wr d) (.slice pf x.funs.length cf) x.funs f2):=hcl
      have hcx:cntMS d x=1+((x.exports.map cntR).sum+(x.funs.map (cntF d)).sum):=rfl
      have HSUM:Hid (k+((es.take (i+1)).map (cntMS d)).sum=kk+1+(x.exports.map cntR).sum+(x.funs.map (cntF d)).sum):=by show _=_;omega
      have hk2a:kk+1+(x.exports.map cntR).sum≤1099511627776:=by omega
      have HK2:Hid (kk+1+(x.exports.map cntR).sum+(x.funs.map (cntF d)).sum≤1099511627776):=by show _≤_;omega
      have HN12:Hid (f1.Nodup∧f2.Nodup∧∀ a ∈ f1,∀ b ∈ f2,a≠b):=by
        have:=HFS.out.2.2.2
        rw [hff] at this
        exact List.nodup_append.1 this
      have lt1:Hid (∀ a ∈ f1,a<wr.heap.size):=hke.lt (fun _ _ _ h=>h.lt)
      have lt2:Hid (∀ a ∈ f2,a<wr.heap.size):=hcl.lt (fun _ _ _ h=>h.lt)
      have hn1:Hid (g ∉ f1):=fun h=>HFS.out.2.2.1 (by rw [hff];simp [h])
      have hn2:Hid (g ∉ f2):=fun h=>HFS.out.2.2.1 (by rw [hff];simp [h])
      have hkk2:kk+1≤1099511627776:=by omega
      have hgl:g<wr.heap.size:=owns_lt ho rfl
      have hk11:1≤kk:=by omega
      clear ho hcs hcs4 hsum hle hkk hkb hcx hke hcl hff
      go_wp2_with fail
      refine (markText_at kk _ rfl (by omega) (by omega)).mono ?_
      rintro e w1 ⟨rfl,hb⟩
      have o1:=HOW.out.kept (grownBy_belowR (r:=none) hb) (Or.inr (by simp [Value.ownBlock]))
      have e0:w1.cell? ⟨g,i * 3,none⟩=some (.string x.name):=by
        rw [o1.cellAt (i * 3) (by omega)];exact HCS.out 0 (by omega)
      have z0:=o1.frozenAt (i * 3)
      have s1:=o1.stored (i * 3) (.string (mtext kk))
      have e1:(w1.setCell ⟨g,i * 3,none⟩ (.string (mtext kk))).cell? ⟨g,i * 3+1,none⟩=some (.slice pe x.exports.length ce):=by
        rw [s1.1.cellAt (i * 3+1) (by omega),List.getElem?_set_ne (by omega)];exact HCS.out 1 (by omega)
      have hoff:Off [g] wr (w1.setCell ⟨g,i * 3,none⟩ (.string (mtext kk))):=(Off.of_below hb).trans (Off.of_grown s1.2 (by simp))
      have HOFF:Hid (Off [g] wr (w1.setCell ⟨g,i * 3,none⟩ (.string (mtext kk)))):=hoff
      have HS1:Hid ((w1.setCell ⟨g,i * 3,none⟩ (.string (mtext kk))).ownsRow 0 47 3 (.slice (some ⟨g,0,none⟩) n cap) n (cells.set (i * 3) (.string (mtext kk)))):=s1.1
      have hkeep:∀ f',g ∉ f'→(∀ a ∈ f',a<wr.heap.size)→KeepOn f' wr (w1.setCell ⟨g,i * 3,none⟩ (.string (mtext kk))):=fun f' h1 h2=>hoff.keep (fun a ha=>⟨h2 a ha,fun hm=>h1 (by rw [List.mem_singleton] at hm;exact hm ▸ ha)⟩)
      have hk1:=hkeep f1 hn1.out lt1.out
      have hk2:=hkeep f2 hn2.out lt2.out
      have HKE2:Hid (ORows (w1.setCell ⟨g,i * 3,none⟩ (.string (mtext kk))) 89 2 (ORf (w1.setCell ⟨g,i * 3,none⟩ (.string (mtext kk))) d) (.slice pe x.exports.length ce) x.exports f1):=HKE.out.keep hk1 (fun cs x f' _ hs h=>h)
      have HCL2:Hid (ORows (w1.setCell ⟨g,i * 3,none⟩ (.string (mtext kk))) 91 3 (OFn (w1.setCell ⟨g,i * 3,none⟩ (.string (mtext kk))) d) (.slice pf x.funs.length cf) x.funs f2):=HCL.out.keep hk2 (fun cs x f' _ hs h=>h.keep (hk2.sub hs))
      have HKP:Hid (∀ f',g ∉ f'→(∀ a ∈ f',a<wr.heap.size)→KeepOn f' wr (w1.setCell ⟨g,i * 3,none⟩ (.string (mtext kk)))):=hkeep
      clear s1 o1 hoff hb hk1 hk2 hkeep
      go_wp2_with fail
      clear e0 z0 e1
      refine ((markRS_all d).at x.exports f1 (kk+1) _ (by omega) HKE2.out HN12.out.1 (by omega) hk2a).mono ?_
      rintro e w3 ⟨rfl,r3,off3⟩
      have ho3:w3.ownsRow 0 47 3 (.slice (some ⟨g,0,none⟩) n cap) n (cells.set (i * 3) (.string (mtext kk))):=owns_block HS1.out rfl (off3.block g (owns_lt HS1.out rfl) hn1.out)
      have HO3:Hid (w3.ownsRow 0 47 3 (.slice (some ⟨g,0,none⟩) n cap) n (cells.set (i * 3) (.string (mtext kk)))):=ho3
      have e2:w3.cell? ⟨g,i * 3+2,none⟩=some (.slice pf x.funs.length cf):=by
        rw [ho3.cellAt (i * 3+2) (by omega),List.getElem?_set_ne (by omega)];exact HCS.out 2 (by omega)
      have k32:KeepOn f2 (w1.setCell ⟨g,i * 3,none⟩ (.string (mtext kk))) w3:=off3.keep (fun a ha=>⟨HCL2.out.lt (fun _ _ _ h=>h.lt) a ha,fun hm=>HN12.out.2.2 a hm a ha rfl⟩)
      have HCL3:Hid (ORows w3 91 3 (OFn w3 d) (.slice pf x.funs.length cf) x.funs f2):=HCL2.out.keep k32 (fun cs x f' _ hs h=>h.keep (k32.sub hs))
      have HR3:Hid (ORows w3 89 2 (ORf w3 d) (.slice pe x.exports.length ce) (markL markR cntR (kk+1) x.exports) f1):=r3
      have HF3:Hid (Off f1 (w1.setCell ⟨g,i * 3,none⟩ (.string (mtext kk))) w3):=off3
      have HMM:Hid (markMS d kk x=⟨mtext kk,markL markR cntR (kk+1) x.exports,markL (markF d) (cntF d) (kk+1+(x.exports.map cntR).sum) x.funs⟩):=rfl
      generalize hk3:kk+1+(x.exports.map cntR).sum=k3 at *
      have HK3:Hid (kk+1+(x.exports.map cntR).sum=k3):=hk3
      have hk31:1≤k3:=by omega
      clear r3 off3 k32 ho3 hk3
      go_wp2_with fail
      clear e2
      refine ((markFS_all d).at x.funs f2 k3 _ rfl HCL3.out HN12.out.2.1 hk31 HK2.out).mono ?_
      rintro e w4 ⟨rfl,r4,off4⟩
      have hown:w4.ownsRow 0 47 3 (.slice (some ⟨g,0,none⟩) n cap) n (cells.set (i * 3) (.string (mtext kk))):=owns_block HO3.out rfl (off4.block g (owns_lt HO3.out rfl) hn2.out)
      have k41:KeepOn f1 w3 w4:=off4.keep (fun a ha=>⟨HR3.out.lt (fun _ _ _ h=>h.lt) a ha,fun hm=>HN12.out.2.2 a ha a hm rfl⟩)
      have hset:=ORows.set (R:=OMd wr d) (R':=OMd w4 d) (x':=markMS d kk x) (i:=i) (f:=f) HNE.out (by rw [HMX.out];exact hown) (by rw [HMX.out]) (by rw [HMX.out];exact hl) HAT.out hf
        (fun m hm=>by rw [List.getElem?_set_ne (by omega)])
        [.string (mtext kk),.slice pe x.exports.length ce,.slice pf x.funs.length cf] rfl
        (fun j hj=>by
          match j,hj with
          | 0,_=>exact List.getElem?_set_self (by omega)
          | 1,_=>rw [List.getElem?_set_ne (by omega)];exact HCS.out 1 (by omega)
          | 2,_=>rw [List.getElem?_set_ne (by omega)];exact HCS.out 2 (by omega))
        (by
          rw [HMM.out]
          exact ⟨_,_,f1,f2,rfl,HFF.out,mtext_ok (by omega),HR3.out.keep k41 (fun cs x f' _ hs h=>h),r4⟩)
        (fun j y f' cs hj hf' h=>h.keep (fun a ha=>by
          have h1:=(HNG.out f' (List.mem_of_getElem? hf')).1
          have h2:=h.lt a ha
          have h3:=HNP.out j i f' _ hj hf' hf a ha
          have h31:a ∉ f1:=fun hm=>h3 (by rw [HFF.out];simp [hm])
          have h32:a ∉ f2:=fun hm=>h3 (by rw [HFF.out];simp [hm])
          have h5:=Nat.lt_of_lt_of_le h2 HOFF.out.size
          exact (off4.block a (Nat.lt_of_lt_of_le h5 HF3.out.size) h32).trans ((HF3.out.block a h5 h31).trans (HKP.out f' h1 h.lt a ha))))
      rw [mix_succ (by rw [HL.out,HN.out]) HMI.out,← HFP.out] at hset
      have HSET:Hid (ORows w4 47 3 (OMd w4 d) (.slice (some ⟨g,0,none⟩) n cap) (mix (i+1) (markL (markMS d) (cntMS d) k es) es) fp):=hset
      have HF2:Hid (Off fp w w4):=HF.out.trans ((HOFF.out.sub (fun a ha=>by rw [List.mem_singleton] at ha;exact ha ▸ HFS.out.2.1)).trans ((HF3.out.sub (fun a ha=>HFS.out.1 a (by rw [HFF.out];simp [ha]))).trans (off4.sub (fun a ha=>HFS.out.1 a (by rw [HFF.out];simp [ha])))))
      clear hset hown r4 off4 k41
      go_wp2_with fail
      exact ⟨⟨i+1,k3+(x.funs.map (cntF d)).sum,by omega,by go_num,rfl,HSUM.out.symm,HSET,HF2⟩,by simp [intOf];omega⟩
    · obtain rfl:i=n:=by omega
      have HE:Hid (kk=k+(es.map (cntMS d)).sum):=by
        have:=HK.out
        rw [List.take_of_length_le (by rw [HN.out];exact Nat.le_refl _)] at this
        exact this
      have HR2:Hid (ORows wr 47 3 (OMd wr d) (.slice p i cap) (markL (markMS d) (cntMS d) k es) fp):=by
        have:=HR.out
        rw [mix_all (by rw [HL.out,HN.out]) (by rw [HN.out];exact Nat.le_refl _)] at this
        exact this
      clear HR HO
      go_wp2_with fail
      go_ret
      exact ⟨by rw [HE.out];rfl,HR2.out,HF.out⟩
theorem markMS_all (d:Nat):MarkMS d:=MarkMS_of
theorem cntMS_le (d:Nat):∀ (l:List Md),(l.map (cntMS d)).sum≤5 * wtS (wtMd d) l
  | []=>by simp
  | m :: l=>by
    have h1:=cntMS_le d l
    have h2:=cntM_le d m
    unfold wtS at *
    simp only [List.map_cons,List.sum_cons,List.length_cons]
    unfold cntMS at *
    omega
def HeldRS:Prop:=∀ (w:World) (v:Value) (es:List Rf) (k:Nat),Rows w All 2 HRf v (markL markR cntR k es)→1≤k→k+(es.map cntR).sum≤1099511627776 →
    Calls Tryz.prog 47 #[v,.int .i64 k] w fun e w'=>e=.returned (.int .i64 ((k+(es.map cntR).sum:Nat):Int))∧Below w.heap.size w w'
theorem heldRS_all:HeldRS:=by
  intro w v es k h hk1 hkb
  obtain ⟨p,cap,rfl,hcl,hcm,hx⟩:=h
  rw [markL_length] at *
  have hnb:es.length≤9223372036854775807:=by unfold maxLen at hcm;omega
  have HX:Hid (markL markR cntR k es≠[]→∃ g off,p=some ⟨g,off,none⟩∧All g∧g<w.heap.size∧∀ i x,(markL markR cntR k es)[i]?=some x→∃ cs,cs.length=2∧(∀ j,j<2→w.cell? ⟨g,off+i * 2+j,none⟩=cs[j]?)∧HRf cs x):=hx
  have HKB:Hid (k+(es.map cntR).sum≤1099511627776):=hkb
  generalize hn:es.length=n at *
  have HN:Hid (es.length=n):=hn
  clear hx hn hkb
  go_enter Tryz.func47,Tryz.ntmps47
  go_wp2
  go_loopw [1,5] (fun kv iv wr=>∃ i kk:Nat,i≤n∧iv=.int .i64 i∧kv=.int .i64 kk∧Hid (kk=k+((es.take i).map cntR).sum)∧Hid (Below w.heap.size w wr)) (fun _ iv _=>n - (intOf iv).toNat)
  case atStart=>exact ⟨0,k,Nat.zero_le _,rfl,rfl,(by show k=_;simp),Below.refl _ _⟩
  case round =>
    obtain ⟨i,kk,hi,rfl,rfl,HK,HB⟩:=hrel
    by_cases hlt:i<n
    · obtain ⟨x,hxi⟩:∃ x,es[i]?=some x:=⟨es[i]'(by rw [HN.out];exact hlt),List.getElem?_eq_getElem _⟩
      have hmi:(markL markR cntR k es)[i]?=some (markR kk x):=by rw [markL_at _ _ _ _ _ _ hxi,← HK.out]
      obtain ⟨g,off,rfl,-,hgl,hat⟩:=HX.out (by intro h;rw [h] at hmi;simp at hmi)
      obtain ⟨cs,hcsl,hcs,rfl,-,-⟩:=hat i _ hmi
      have a0:=hcs 0 (by omega)
      have a1:=hcs 1 (by omega)
      rw [← HB.out.cell (p:=⟨g,_,none⟩) hgl] at a0 a1
      simp [markR] at a0 a1
      have hsum:((es.take (i+1)).map cntR).sum=((es.take i).map cntR).sum+cntR x:=sum_take_succ _ es i x hxi
      have hle:((es.take (i+1)).map cntR).sum≤(es.map cntR).sum:=sum_take_le _ es (i+1)
      have hkk:=HK.out
      have hkb:=HKB.out
      have hcx:cntR x=2:=rfl
      have HSUM:Hid (k+((es.take (i+1)).map cntR).sum=kk+2):=by show _=_;omega
      have hkk2:kk+2≤1099511627776:=by omega
      have hk11:1≤kk:=by omega
      have hki:(i:Int)<(n:Int):=by omega
      have hi0:(0:Int)≤(i:Int):=by omega
      have A1:Hid (wr.cell? ⟨g,off+i * 2+1,none⟩=some (.int .i64 ((kk:Int)+1))):=a1
      have hgw:g<wr.heap.size:=Nat.lt_of_lt_of_le hgl HB.out.size
      have q0:∀ m':Wd (fun w'=>SameOn All wr w'∧Below w.heap.size w w'),m'.val.cell? ⟨g,off+i * 2,none⟩=some (.string (mtext kk)):=fun m'=>(World.cell?_of_block (m'.ok.1.2 g trivial hgw)).trans a0
      clear hat hcs hcsl hsum hle hkk hkb hcx HX HKB hmi a0 a1
      go_wp2_with fail
      have hCne:Nonempty (Wd (fun w'=>SameOn All wr w'∧Below w.heap.size w w')):=⟨⟨wr.drew,⟨⟨Nat.le_refl _,fun _ _ _=>rfl⟩,HB.out.drew⟩⟩⟩
      refine wp_region_class (fun w'=>SameOn All wr w'∧Below w.heap.size w w') (by kernel_rfl) (by kernel_rfl) ⟨⟨Nat.le_refl _,fun _ _ _=>rfl⟩,HB.out.drew⟩ ?_
      repeat (go_big_quiet_step (first | (rename_i m';go_at_call 22;refine (markText_at kk _ (by omega) (by omega) (by omega)).mono ?_;rintro e w1 ⟨rfl,hb1⟩;exact ⟨rfl,⟨⟨w1,⟨(SameOn.trans m'.ok.1 (SameOn.of_below hb1)),m'.ok.2.trans (hb1.mono m'.ok.2.size)⟩⟩,rfl⟩⟩)))
      refine wpQuiet_nil ?_
      rintro _ ⟨mq,rfl⟩
      have hbe:=mq.ok.2
      have hse:=mq.ok.1
      generalize mq.val=w1 at hbe hse ⊢
      have a1':w1.cell? ⟨g,off+i * 2+1,none⟩=some (.int .i64 ((kk:Int)+1)):=(World.cell?_of_block (hse.2 g trivial hgw)).trans A1.out
      have HB1:Hid (Below w.heap.size w w1):=hbe
      clear q0 hbe hse
      go_wp2_with fail
      exact ⟨⟨i+1,kk+2,by omega,by go_num,by go_num,HSUM.out.symm,HB1.out⟩,by simp [intOf];omega⟩
    · obtain rfl:i=n:=by omega
      have HE:Hid (kk=k+(es.map cntR).sum):=by
        have:=HK.out
        rw [List.take_of_length_le (by rw [HN.out];exact Nat.le_refl _)] at this
        exact this
      go_wp2_with fail
      go_ret
      exact ⟨by rw [HE.out];rfl,HB.out⟩
theorem HeldRS.at (h:HeldRS) {w:World} {v:Value} (es:List Rf) (k:Nat) (z:Int) (hz:z=k) (ho:Rows w All 2 HRf v (markL markR cntR k es)) (h1:1≤k) (hb:k+(es.map cntR).sum≤1099511627776) :
    Calls Tryz.prog 47 #[v,.int .i64 z] w fun e w'=>e=.returned (.int .i64 ((k+(es.map cntR).sum:Nat):Int))∧Below w.heap.size w w':=by
  subst hz;exact h w v es k ho h1 hb
def HeldES (d:Nat):Prop :=
  ∀ (w:World) (v:Value) (es:List Ex) (k:Nat),Rows w All 6 (HEx w All d) v (markL (markE d) (cntE d) k es)→1≤k→k+(es.map (cntE d)).sum≤1099511627776 →
    Calls Tryz.prog 103 #[v,.int .i64 k] w fun e w'=>e=.returned (.int .i64 ((k+(es.map (cntE d)).sum:Nat):Int))∧Below w.heap.size w w'
theorem HeldES.at {d:Nat} (h:HeldES d) {w:World} {v:Value} (es:List Ex) (k:Nat) (z:Int) (hz:z=k) (ho:Rows w All 6 (HEx w All d) v (markL (markE d) (cntE d) k es)) (h1:1≤k) (hb:k+(es.map (cntE d)).sum≤1099511627776) :
    Calls Tryz.prog 103 #[v,.int .i64 z] w fun e w'=>e=.returned (.int .i64 ((k+(es.map (cntE d)).sum:Nat):Int))∧Below w.heap.size w w':=by
  subst hz;exact h w v es k ho h1 hb
def HeldCS (d:Nat):Prop :=
  ∀ (w:World) (v:Value) (es:List Cl) (k:Nat),Rows w All 2 (HCl w All (HEx w All d)) v (markL (markC (markE d) (cntE d)) (cntC (cntE d)) k es)→1≤k→k+(es.map (cntC (cntE d))).sum≤1099511627776 →
    Calls Tryz.prog 74 #[v,.int .i64 k] w fun e w'=>e=.returned (.int .i64 ((k+(es.map (cntC (cntE d))).sum:Nat):Int))∧Below w.heap.size w w'
theorem HeldCS.at {d:Nat} (h:HeldCS d) {w:World} {v:Value} (es:List Cl) (k:Nat) (z:Int) (hz:z=k) (ho:Rows w All 2 (HCl w All (HEx w All d)) v (markL (markC (markE d) (cntE d)) (cntC (cntE d)) k es)) (h1:1≤k) (hb:k+(es.map (cntC (cntE d))).sum≤1099511627776) :
    Calls Tryz.prog 74 #[v,.int .i64 z] w fun e w'=>e=.returned (.int .i64 ((k+(es.map (cntC (cntE d))).sum:Nat):Int))∧Below w.heap.size w w':=by
  subst hz;exact h w v es k ho h1 hb
def HeldFS (d:Nat):Prop :=
  ∀ (w:World) (v:Value) (es:List Fn') (k:Nat),Rows w All 3 (HFn w All d) v (markL (markF d) (cntF d) k es)→1≤k→k+(es.map (cntF d)).sum≤1099511627776 →
    Calls Tryz.prog 48 #[v,.int .i64 k] w fun e w'=>e=.returned (.int .i64 ((k+(es.map (cntF d)).sum:Nat):Int))∧Below w.heap.size w w'
theorem HeldFS.at {d:Nat} (h:HeldFS d) {w:World} {v:Value} (es:List Fn') (k:Nat) (z:Int) (hz:z=k) (ho:Rows w All 3 (HFn w All d) v (markL (markF d) (cntF d) k es)) (h1:1≤k) (hb:k+(es.map (cntF d)).sum≤1099511627776) :
    Calls Tryz.prog 48 #[v,.int .i64 z] w fun e w'=>e=.returned (.int .i64 ((k+(es.map (cntF d)).sum:Nat):Int))∧Below w.heap.size w w':=by
  subst hz;exact h w v es k ho h1 hb
def HeldMS (d:Nat):Prop :=
  ∀ (w:World) (v:Value) (es:List Md) (k:Nat),Rows w All 3 (HMd w All d) v (markL (markMS d) (cntMS d) k es)→1≤k→k+(es.map (cntMS d)).sum≤1099511627776 →
    Calls Tryz.prog 27 #[v,.int .i64 k] w fun e w'=>e=.returned (.int .i64 ((k+(es.map (cntMS d)).sum:Nat):Int))∧Below w.heap.size w w'
theorem HeldCS_of {d:Nat} (ihE:HeldES d):HeldCS d:=by
  intro w v es k h hk1 hkb
  have hl:(markL (markC (markE d) (cntE d)) (cntC (cntE d)) k es).length=es.length:=markL_length _ _ _ _
  obtain ⟨p,cap,rfl,hcl,hcm,hx⟩:=h
  rw [hl] at hcl
  have hnb:es.length≤9223372036854775807:=by unfold maxLen at hcm;omega
  rw [hl]
  have HX:Hid (markL (markC (markE d) (cntE d)) (cntC (cntE d)) k es≠[]→∃ g off,p=some ⟨g,off,none⟩∧All g∧g<w.heap.size∧∀ i x,(markL (markC (markE d) (cntE d)) (cntC (cntE d)) k es)[i]?=some x→∃ cs,cs.length=2∧(∀ j,j<2→w.cell? ⟨g,off+i * 2+j,none⟩=cs[j]?)∧HCl w All (HEx w All d) cs x):=hx
  have HKB:Hid (k+(es.map (cntC (cntE d))).sum≤1099511627776):=hkb
  generalize hn:es.length=n at *
  have HN:Hid (es.length=n):=hn
  clear hx hn hkb hl
  go_enter Tryz.func74,Tryz.ntmps74
  go_wp2
  go_loopw [1,5] (fun kv iv wr=>∃ i kk:Nat,i≤n∧iv=.int .i64 i∧kv=.int .i64 kk∧Hid (kk=k+((es.take i).map (cntC (cntE d))).sum)∧Below w.heap.size w wr) (fun _ iv _=>n - (intOf iv).toNat)
  case atStart=>exact ⟨0,k,Nat.zero_le _,rfl,rfl,(by show k=_;simp),Below.refl _ _⟩
  case round =>
    obtain ⟨i,kk,hi,rfl,rfl,HK,hb⟩:=hrel
    have HB0:Hid (Below w.heap.size w wr):=hb
    by_cases hlt:i<n
    · obtain ⟨x,hxi⟩:∃ x,es[i]?=some x:=⟨es[i]'(by rw [HN.out];exact hlt),List.getElem?_eq_getElem _⟩
      have hmi:(markL (markC (markE d) (cntE d)) (cntC (cntE d)) k es)[i]?=some ((markC (markE d) (cntE d)) kk x):=by rw [markL_at _ _ _ _ _ _ hxi,← HK.out]
      obtain ⟨g,off,rfl,_,hgl,hat⟩:=HX.out (by intro h;rw [h] at hmi;simp at hmi)
      obtain ⟨cs,hcsl,hcs,hvx⟩:=hat i _ hmi
      obtain ⟨v0,v1,rfl,h0,h1⟩:=hvx
      have l0:(markL (markE d) (cntE d) (kk) x.1).length=x.1.length:=markL_length _ _ _ _
      obtain ⟨q0,z0,hv0,-⟩:=id h0
      have hv0':v0=.slice q0 x.1.length z0:=hv0.trans (by show Value.slice _ (markL (markE d) (cntE d) (kk) x.1).length _=_;rw [l0])
      subst hv0'
      have E0:Hid (∀ w',SameOn All wr w'→Rows w' All 6 (HEx w' All d) (.slice q0 x.1.length z0) (markL (markE d) (cntE d) (kk) x.1)):=fun w' hw=>h0.mono (SameOn.trans (SameOn.of_below hb) hw) (fun _ h=>h) (fun _ _ _ h=>h.mono (SameOn.trans (SameOn.of_below hb) hw) (fun _ h=>h))
      have l1:(markL (markE d) (cntE d) (kk+(x.1.map (cntE d)).sum) x.2).length=x.2.length:=markL_length _ _ _ _
      obtain ⟨q1,z1,hv1,-⟩:=id h1
      have hv1':v1=.slice q1 x.2.length z1:=hv1.trans (by show Value.slice _ (markL (markE d) (cntE d) (kk+(x.1.map (cntE d)).sum) x.2).length _=_;rw [l1])
      subst hv1'
      have E1:Hid (∀ w',SameOn All wr w'→Rows w' All 6 (HEx w' All d) (.slice q1 x.2.length z1) (markL (markE d) (cntE d) (kk+(x.1.map (cntE d)).sum) x.2)):=fun w' hw=>h1.mono (SameOn.trans (SameOn.of_below hb) hw) (fun _ h=>h) (fun _ _ _ h=>h.mono (SameOn.trans (SameOn.of_below hb) hw) (fun _ h=>h))
      have a0:=hcs 0 (by omega)
      have a1:=hcs 1 (by omega)
      rw [← hb.cell (p:=⟨g,_,none⟩) hgl] at a0 a1
      clear hcs hat
      simp at a0 a1
      have hgw:g<wr.heap.size:=Nat.lt_of_lt_of_le hgl hb.size
      have CELLS:Hid (∀ w',SameOn All wr w'→w'.cell? ⟨g,off+i * 2,none⟩=some (.slice q0 x.1.length z0)∧w'.cell? ⟨g,off+i * 2+1,none⟩=some (.slice q1 x.2.length z1)):=fun w' hw=>⟨(World.cell?_of_block (hw.2 g trivial hgw)).trans a0,(World.cell?_of_block (hw.2 g trivial hgw)).trans a1⟩
      have hsum:((es.take (i+1)).map (cntC (cntE d))).sum=((es.take i).map (cntC (cntE d))).sum+(cntC (cntE d)) x:=sum_take_succ _ es i x hxi
      have hle:((es.take (i+1)).map (cntC (cntE d))).sum≤(es.map (cntC (cntE d))).sum:=sum_take_le _ es (i+1)
      have hcx:(cntC (cntE d)) x=(x.1.map (cntE d)).sum+(x.2.map (cntE d)).sum:=rfl
      have hkk:=HK.out
      have hkb:=HKB.out
      have HT:Hid (kk+(x.1.map (cntE d)).sum+(x.2.map (cntE d)).sum≤1099511627776):=by show _≤_;omega
      have HSUM:Hid (k+((es.take (i+1)).map (cntC (cntE d))).sum=kk+(x.1.map (cntE d)).sum+(x.2.map (cntE d)).sum):=by show _=_;omega
      have hki:(i:Int)<(n:Int):=by omega
      have hi0:(0:Int)≤(i:Int):=by omega
      have hkkb:kk+0≤1099511627776:=by omega
      have hkk1:1≤kk:=by omega
      have SA0:Hid (SameOn All wr wr):=⟨Nat.le_refl _,fun _ _ _=>rfl⟩
      clear h0 l0 hv0 h1 l1 hv1 hmi hsum hle hcx hkk hkb hcsl HKB HX hb a0 a1 
      obtain ⟨c0,c1⟩:=CELLS.out wr SA0.out
      have R0:=E0.out wr SA0.out
      have HR0:Hid (Rows wr All 6 (HEx wr All d) (.slice q0 x.1.length z0) (markL (markE d) (cntE d) (kk) x.1)):=R0
      have HT0:Hid (kk+(x.1.map (cntE d)).sum≤1099511627776):=by show _≤_;have:=HT.out;omega
      clear R0
      go_wp2_with fail
      refine (ihE.at x.1 (kk) _ (by omega) HR0.out (by omega) HT0.out).mono ?_
      rintro e W1 ⟨rfl,hb2⟩
      have HB1:Hid (Below w.heap.size w W1):=HB0.out.trans (hb2.mono HB0.out.size)
      have SA1:Hid (SameOn All wr W1):=SameOn.trans SA0.out (SameOn.of_below hb2)
      have hkz0:=HT0.out
      clear hb2 HR0 HT0 c0 c1
      generalize hz0:kk+(x.1.map (cntE d)).sum=kz0 at *
      obtain ⟨c0,c1⟩:=CELLS.out W1 SA1.out
      have hkp0:1≤kz0:=by omega
      have HZ0:Hid (kk+(x.1.map (cntE d)).sum=kz0):=hz0
      clear hz0
      have R1:=E1.out W1 SA1.out
      have HR1:Hid (Rows W1 All 6 (HEx W1 All d) (.slice q1 x.2.length z1) (markL (markE d) (cntE d) (kz0) x.2)):=R1
      have HT1:Hid (kz0+(x.2.map (cntE d)).sum≤1099511627776):=by show _≤_;have:=HT.out;omega
      clear R1
      go_wp2_with fail
      refine (ihE.at x.2 (kz0) _ (by omega) HR1.out (by omega) HT1.out).mono ?_
      rintro e W2 ⟨rfl,hb2⟩
      have HB2:Hid (Below w.heap.size w W2):=HB1.out.trans (hb2.mono HB1.out.size)
      have SA2:Hid (SameOn All wr W2):=SameOn.trans SA1.out (SameOn.of_below hb2)
      have hkz1:=HT1.out
      clear hb2 HR1 HT1 c0 c1
      generalize hz1:kz0+(x.2.map (cntE d)).sum=kz1 at *
      obtain ⟨c0,c1⟩:=CELLS.out W2 SA2.out
      have hkp1:1≤kz1:=by omega
      have HZ1:Hid (kz0+(x.2.map (cntE d)).sum=kz1):=hz1
      clear hz1
      go_wp2_with fail
      exact ⟨⟨i+1,kz1,by omega,by go_num,rfl,HSUM.out.symm,HB2.out⟩,by simp [intOf];omega⟩
    · obtain rfl:i=n:=by omega
      have HE:Hid (kk=k+(es.map (cntC (cntE d))).sum):=by
        have:=HK.out
        rw [List.take_of_length_le (by rw [HN.out];exact Nat.le_refl _)] at this
        exact this
      clear hb
      go_wp2_with fail
      go_ret
      exact ⟨by rw [HE.out];rfl,HB0.out⟩
theorem HeldES_of {d:Nat} (ihE:∀ d',d=d'+1→HeldES d') (ihC:∀ d',d=d'+1→HeldCS d'):HeldES d:=by
  intro w v es k h hk1 hkb
  have hl:(markL (markE d) (cntE d) k es).length=es.length:=markL_length _ _ _ _
  obtain ⟨p,cap,rfl,hcl,hcm,hx⟩:=h
  rw [hl] at hcl
  have hnb:es.length≤9223372036854775807:=by unfold maxLen at hcm;omega
  rw [hl]
  have HX:Hid (markL (markE d) (cntE d) k es≠[]→∃ g off,p=some ⟨g,off,none⟩∧All g∧g<w.heap.size∧∀ i x,(markL (markE d) (cntE d) k es)[i]?=some x→∃ cs,cs.length=6∧(∀ j,j<6→w.cell? ⟨g,off+i * 6+j,none⟩=cs[j]?)∧HEx w All d cs x):=hx
  have HKB:Hid (k+(es.map (cntE d)).sum≤1099511627776):=hkb
  generalize hn:es.length=n at *
  have HN:Hid (es.length=n):=hn
  clear hx hn hkb hl
  go_enter Tryz.func103,Tryz.ntmps103
  go_wp2
  go_loopw [1,5] (fun kv iv wr=>∃ i kk:Nat,i≤n∧iv=.int .i64 i∧kv=.int .i64 kk∧Hid (kk=k+((es.take i).map (cntE d)).sum)∧Below w.heap.size w wr) (fun _ iv _=>n - (intOf iv).toNat)
  case atStart=>exact ⟨0,k,Nat.zero_le _,rfl,rfl,(by show k=_;simp),Below.refl _ _⟩
  case round =>
    obtain ⟨i,kk,hi,rfl,rfl,HK,hb⟩:=hrel
    have HB0:Hid (Below w.heap.size w wr):=hb
    by_cases hlt:i<n
    · obtain ⟨x,hxi⟩:∃ x,es[i]?=some x:=⟨es[i]'(by rw [HN.out];exact hlt),List.getElem?_eq_getElem _⟩
      have hmi:(markL (markE d) (cntE d) k es)[i]?=some ((markE d) kk x):=by rw [markL_at _ _ _ _ _ _ hxi,← HK.out]
      obtain ⟨g,off,rfl,_,hgl,hat⟩:=HX.out (by intro h;rw [h] at hmi;simp at hmi)
      obtain ⟨cs,hcsl,hcs,hvx⟩:=hat i _ hmi
      cases d with
      | zero=>exact hvx.elim
      | succ d' =>
      obtain ⟨v0,v1,rfl,-,-,-,-,h0,h1⟩:=hvx
      have l0:(markL (markE d') (cntE d') (kk+4) x.kids).length=x.kids.length:=markL_length _ _ _ _
      obtain ⟨q0,z0,hv0,-⟩:=id h0
      have hv0':v0=.slice q0 x.kids.length z0:=hv0.trans (by show Value.slice _ (markL (markE d') (cntE d') (kk+4) x.kids).length _=_;rw [l0])
      subst hv0'
      have E0:Hid (∀ w',SameOn All wr w'→Rows w' All 6 (HEx w' All d') (.slice q0 x.kids.length z0) (markL (markE d') (cntE d') (kk+4) x.kids)):=fun w' hw=>h0.mono (SameOn.trans (SameOn.of_below hb) hw) (fun _ h=>h) (fun _ _ _ h=>h.mono (SameOn.trans (SameOn.of_below hb) hw) (fun _ h=>h))
      have l1:(markL (markC (markE d') (cntE d')) (cntC (cntE d')) (kk+4+(x.kids.map (cntE d')).sum) x.clauses).length=x.clauses.length:=markL_length _ _ _ _
      obtain ⟨q1,z1,hv1,-⟩:=id h1
      have hv1':v1=.slice q1 x.clauses.length z1:=hv1.trans (by show Value.slice _ (markL (markC (markE d') (cntE d')) (cntC (cntE d')) (kk+4+(x.kids.map (cntE d')).sum) x.clauses).length _=_;rw [l1])
      subst hv1'
      have E1:Hid (∀ w',SameOn All wr w'→Rows w' All 2 (HCl w' All (HEx w' All d')) (.slice q1 x.clauses.length z1) (markL (markC (markE d') (cntE d')) (cntC (cntE d')) (kk+4+(x.kids.map (cntE d')).sum) x.clauses)):=fun w' hw=>h1.mono (SameOn.trans (SameOn.of_below hb) hw) (fun _ h=>h) (fun _ _ _ h=>h.mono (SameOn.trans (SameOn.of_below hb) hw) (fun _ h=>h) (fun _ _ h=>h.mono (SameOn.trans (SameOn.of_below hb) hw) (fun _ h=>h)))
      have a0:=hcs 0 (by omega)
      have a1:=hcs 1 (by omega)
      have a2:=hcs 2 (by omega)
      have a3:=hcs 3 (by omega)
      have a4:=hcs 4 (by omega)
      have a5:=hcs 5 (by omega)
      rw [← hb.cell (p:=⟨g,_,none⟩) hgl] at a0 a1 a2 a3 a4 a5
      clear hcs hat
      simp [markE,Ex.kind,Ex.n,Ex.text,Ex.mod] at a0 a1 a2 a3 a4 a5
      have hgw:g<wr.heap.size:=Nat.lt_of_lt_of_le hgl hb.size
      have CELLS:Hid (∀ w',SameOn All wr w'→w'.cell? ⟨g,off+i * 6,none⟩=some (.int .i64 (kk:Int))∧w'.cell? ⟨g,off+i * 6+1,none⟩=some (.int .i64 ((kk:Int)+1))∧w'.cell? ⟨g,off+i * 6+2,none⟩=some (.string (mtext (kk+2)))∧w'.cell? ⟨g,off+i * 6+3,none⟩=some (.string (mtext (kk+3)))∧w'.cell? ⟨g,off+i * 6+4,none⟩=some (.slice q0 x.kids.length z0)∧w'.cell? ⟨g,off+i * 6+5,none⟩=some (.slice q1 x.clauses.length z1)):=fun w' hw=>⟨(World.cell?_of_block (hw.2 g trivial hgw)).trans a0,(World.cell?_of_block (hw.2 g trivial hgw)).trans a1,(World.cell?_of_block (hw.2 g trivial hgw)).trans a2,(World.cell?_of_block (hw.2 g trivial hgw)).trans a3,(World.cell?_of_block (hw.2 g trivial hgw)).trans a4,(World.cell?_of_block (hw.2 g trivial hgw)).trans a5⟩
      have hsum:((es.take (i+1)).map (cntE (d'+1))).sum=((es.take i).map (cntE (d'+1))).sum+(cntE (d'+1)) x:=sum_take_succ _ es i x hxi
      have hle:((es.take (i+1)).map (cntE (d'+1))).sum≤(es.map (cntE (d'+1))).sum:=sum_take_le _ es (i+1)
      have hcx:(cntE (d'+1)) x=4+(x.kids.map (cntE d')).sum+(x.clauses.map (cntC (cntE d'))).sum:=rfl
      have hkk:=HK.out
      have hkb:=HKB.out
      have HT:Hid (kk+4+(x.kids.map (cntE d')).sum+(x.clauses.map (cntC (cntE d'))).sum≤1099511627776):=by show _≤_;omega
      have HSUM:Hid (k+((es.take (i+1)).map (cntE (d'+1))).sum=kk+4+(x.kids.map (cntE d')).sum+(x.clauses.map (cntC (cntE d'))).sum):=by show _=_;omega
      have hki:(i:Int)<(n:Int):=by omega
      have hi0:(0:Int)≤(i:Int):=by omega
      have hkkb:kk+4≤1099511627776:=by omega
      have hkk1:1≤kk:=by omega
      have SA0:Hid (SameOn All wr wr):=⟨Nat.le_refl _,fun _ _ _=>rfl⟩
      clear h0 l0 hv0 h1 l1 hv1 hmi hsum hle hcx hkk hkb hcsl HKB HX hb a0 a1 a2 a3 a4 a5 
      obtain ⟨c0,c1,c2,c3,c4,c5⟩:=CELLS.out wr SA0.out
      have q2m:∀ m':Wd (fun w'=>SameOn All wr w'∧Below w.heap.size w w'),m'.val.cell? ⟨g,off+i * 6+2,none⟩=some (.string (mtext (kk+2))):=fun m'=>by obtain ⟨c0,c1,c2,c3,c4,c5⟩:=CELLS.out _ m'.ok.1;exact c2
      go_wp2
      have hCne:Nonempty (Wd (fun w'=>SameOn All wr w'∧Below w.heap.size w w')):=⟨⟨wr.drew,⟨SameOn.trans SA0.out ⟨Nat.le_refl _,fun _ _ _=>rfl⟩,HB0.out.drew⟩⟩⟩
      refine wp_region_class (fun w'=>SameOn All wr w'∧Below w.heap.size w w') (by kernel_rfl) (by kernel_rfl) ⟨SameOn.trans SA0.out ⟨Nat.le_refl _,fun _ _ _=>rfl⟩,HB0.out.drew⟩ ?_
      repeat (go_big_quiet_step (first | (rename_i m';go_at_call 22;refine (markText_at (kk+2) _ (by omega) (by omega) (by omega)).mono ?_;rintro e w1 ⟨rfl,hb1⟩;exact ⟨rfl,⟨⟨w1,⟨(SameOn.trans m'.ok.1 (SameOn.of_below hb1)),m'.ok.2.trans (hb1.mono m'.ok.2.size)⟩⟩,rfl⟩⟩)))
      refine wpQuiet_nil ?_
      rintro _ ⟨mq,rfl⟩
      have hbe:=mq.ok.2
      have hse:=mq.ok.1
      generalize mq.val=W1 at hbe hse ⊢
      have SA1:Hid (SameOn All wr W1):=hse
      have HB1:Hid (Below w.heap.size w W1):=hbe
      clear q2m hbe hse hCne c0 c1 c2 c3 c4 c5
      obtain ⟨c0,c1,c2,c3,c4,c5⟩:=CELLS.out W1 SA1.out
      have q3m:∀ m':Wd (fun w'=>SameOn All wr w'∧Below w.heap.size w w'),m'.val.cell? ⟨g,off+i * 6+3,none⟩=some (.string (mtext (kk+3))):=fun m'=>by obtain ⟨c0,c1,c2,c3,c4,c5⟩:=CELLS.out _ m'.ok.1;exact c3
      go_wp2
      have hCne:Nonempty (Wd (fun w'=>SameOn All wr w'∧Below w.heap.size w w')):=⟨⟨W1.drew,⟨SameOn.trans SA1.out ⟨Nat.le_refl _,fun _ _ _=>rfl⟩,HB1.out.drew⟩⟩⟩
      refine wp_region_class (fun w'=>SameOn All wr w'∧Below w.heap.size w w') (by kernel_rfl) (by kernel_rfl) ⟨SameOn.trans SA1.out ⟨Nat.le_refl _,fun _ _ _=>rfl⟩,HB1.out.drew⟩ ?_
      repeat (go_big_quiet_step (first | (rename_i m';go_at_call 22;refine (markText_at (kk+3) _ (by omega) (by omega) (by omega)).mono ?_;rintro e w1 ⟨rfl,hb1⟩;exact ⟨rfl,⟨⟨w1,⟨(SameOn.trans m'.ok.1 (SameOn.of_below hb1)),m'.ok.2.trans (hb1.mono m'.ok.2.size)⟩⟩,rfl⟩⟩)))
      refine wpQuiet_nil ?_
      rintro _ ⟨mq,rfl⟩
      have hbe:=mq.ok.2
      have hse:=mq.ok.1
      generalize mq.val=W2 at hbe hse ⊢
      have SA2:Hid (SameOn All wr W2):=hse
      have HB2:Hid (Below w.heap.size w W2):=hbe
      clear q3m hbe hse hCne c0 c1 c2 c3 c4 c5
      obtain ⟨c0,c1,c2,c3,c4,c5⟩:=CELLS.out W2 SA2.out
      have R0:=E0.out W2 SA2.out
      have HR0:Hid (Rows W2 All 6 (HEx W2 All d') (.slice q0 x.kids.length z0) (markL (markE d') (cntE d') (kk+4) x.kids)):=R0
      have HT0:Hid (kk+4+(x.kids.map (cntE d')).sum≤1099511627776):=by show _≤_;have:=HT.out;omega
      clear R0
      go_wp2_with fail
      refine ((ihE d' rfl).at x.kids (kk+4) _ (by omega) HR0.out (by omega) HT0.out).mono ?_
      rintro e W3 ⟨rfl,hb2⟩
      have HB3:Hid (Below w.heap.size w W3):=HB2.out.trans (hb2.mono HB2.out.size)
      have SA3:Hid (SameOn All wr W3):=SameOn.trans SA2.out (SameOn.of_below hb2)
      have hkz0:=HT0.out
      clear hb2 HR0 HT0 c0 c1 c2 c3 c4 c5
      generalize hz0:kk+4+(x.kids.map (cntE d')).sum=kz0 at *
      obtain ⟨c0,c1,c2,c3,c4,c5⟩:=CELLS.out W3 SA3.out
      have hkp0:1≤kz0:=by omega
      have HZ0:Hid (kk+4+(x.kids.map (cntE d')).sum=kz0):=hz0
      clear hz0
      have R1:=E1.out W3 SA3.out
      have HR1:Hid (Rows W3 All 2 (HCl W3 All (HEx W3 All d')) (.slice q1 x.clauses.length z1) (markL (markC (markE d') (cntE d')) (cntC (cntE d')) (kz0) x.clauses)):=R1
      have HT1:Hid (kz0+(x.clauses.map (cntC (cntE d'))).sum≤1099511627776):=by show _≤_;have:=HT.out;omega
      clear R1
      go_wp2_with fail
      refine ((ihC d' rfl).at x.clauses (kz0) _ (by omega) HR1.out (by omega) HT1.out).mono ?_
      rintro e W4 ⟨rfl,hb2⟩
      have HB4:Hid (Below w.heap.size w W4):=HB3.out.trans (hb2.mono HB3.out.size)
      have SA4:Hid (SameOn All wr W4):=SameOn.trans SA3.out (SameOn.of_below hb2)
      have hkz1:=HT1.out
      clear hb2 HR1 HT1 c0 c1 c2 c3 c4 c5
      generalize hz1:kz0+(x.clauses.map (cntC (cntE d'))).sum=kz1 at *
      obtain ⟨c0,c1,c2,c3,c4,c5⟩:=CELLS.out W4 SA4.out
      have hkp1:1≤kz1:=by omega
      have HZ1:Hid (kz0+(x.clauses.map (cntC (cntE d'))).sum=kz1):=hz1
      clear hz1
      go_wp2_with fail
      exact ⟨⟨i+1,kz1,by omega,by go_num,rfl,HSUM.out.symm,HB4.out⟩,by simp [intOf];omega⟩
    · obtain rfl:i=n:=by omega
      have HE:Hid (kk=k+(es.map (cntE d)).sum):=by
        have:=HK.out
        rw [List.take_of_length_le (by rw [HN.out];exact Nat.le_refl _)] at this
        exact this
      clear hb
      go_wp2_with fail
      go_ret
      exact ⟨by rw [HE.out];rfl,HB0.out⟩
theorem HeldFS_of {d:Nat} (ihC:HeldCS d):HeldFS d:=by
  intro w v es k h hk1 hkb
  have hl:(markL (markF d) (cntF d) k es).length=es.length:=markL_length _ _ _ _
  obtain ⟨p,cap,rfl,hcl,hcm,hx⟩:=h
  rw [hl] at hcl
  have hnb:es.length≤9223372036854775807:=by unfold maxLen at hcm;omega
  rw [hl]
  have HX:Hid (markL (markF d) (cntF d) k es≠[]→∃ g off,p=some ⟨g,off,none⟩∧All g∧g<w.heap.size∧∀ i x,(markL (markF d) (cntF d) k es)[i]?=some x→∃ cs,cs.length=3∧(∀ j,j<3→w.cell? ⟨g,off+i * 3+j,none⟩=cs[j]?)∧HFn w All d cs x):=hx
  have HKB:Hid (k+(es.map (cntF d)).sum≤1099511627776):=hkb
  generalize hn:es.length=n at *
  have HN:Hid (es.length=n):=hn
  clear hx hn hkb hl
  go_enter Tryz.func48,Tryz.ntmps48
  go_wp2
  go_loopw [1,5] (fun kv iv wr=>∃ i kk:Nat,i≤n∧iv=.int .i64 i∧kv=.int .i64 kk∧Hid (kk=k+((es.take i).map (cntF d)).sum)∧Below w.heap.size w wr) (fun _ iv _=>n - (intOf iv).toNat)
  case atStart=>exact ⟨0,k,Nat.zero_le _,rfl,rfl,(by show k=_;simp),Below.refl _ _⟩
  case round =>
    obtain ⟨i,kk,hi,rfl,rfl,HK,hb⟩:=hrel
    have HB0:Hid (Below w.heap.size w wr):=hb
    by_cases hlt:i<n
    · obtain ⟨x,hxi⟩:∃ x,es[i]?=some x:=⟨es[i]'(by rw [HN.out];exact hlt),List.getElem?_eq_getElem _⟩
      have hmi:(markL (markF d) (cntF d) k es)[i]?=some ((markF d) kk x):=by rw [markL_at _ _ _ _ _ _ hxi,← HK.out]
      obtain ⟨g,off,rfl,_,hgl,hat⟩:=HX.out (by intro h;rw [h] at hmi;simp at hmi)
      obtain ⟨cs,hcsl,hcs,hvx⟩:=hat i _ hmi
      obtain ⟨v0,rfl,-,-,h0⟩:=hvx
      have l0:(markL (markC (markE d) (cntE d)) (cntC (cntE d)) (kk+2) x.clauses).length=x.clauses.length:=markL_length _ _ _ _
      obtain ⟨q0,z0,hv0,-⟩:=id h0
      have hv0':v0=.slice q0 x.clauses.length z0:=hv0.trans (by show Value.slice _ (markL (markC (markE d) (cntE d)) (cntC (cntE d)) (kk+2) x.clauses).length _=_;rw [l0])
      subst hv0'
      have E0:Hid (∀ w',SameOn All wr w'→Rows w' All 2 (HCl w' All (HEx w' All d)) (.slice q0 x.clauses.length z0) (markL (markC (markE d) (cntE d)) (cntC (cntE d)) (kk+2) x.clauses)):=fun w' hw=>h0.mono (SameOn.trans (SameOn.of_below hb) hw) (fun _ h=>h) (fun _ _ _ h=>h.mono (SameOn.trans (SameOn.of_below hb) hw) (fun _ h=>h) (fun _ _ h=>h.mono (SameOn.trans (SameOn.of_below hb) hw) (fun _ h=>h)))
      have a0:=hcs 0 (by omega)
      have a1:=hcs 1 (by omega)
      have a2:=hcs 2 (by omega)
      rw [← hb.cell (p:=⟨g,_,none⟩) hgl] at a0 a1 a2
      clear hcs hat
      simp [markF] at a0 a1 a2
      have hgw:g<wr.heap.size:=Nat.lt_of_lt_of_le hgl hb.size
      have CELLS:Hid (∀ w',SameOn All wr w'→w'.cell? ⟨g,off+i * 3,none⟩=some (.string (mtext (kk)))∧w'.cell? ⟨g,off+i * 3+1,none⟩=some (.int .i64 ((kk:Int)+1))∧w'.cell? ⟨g,off+i * 3+2,none⟩=some (.slice q0 x.clauses.length z0)):=fun w' hw=>⟨(World.cell?_of_block (hw.2 g trivial hgw)).trans a0,(World.cell?_of_block (hw.2 g trivial hgw)).trans a1,(World.cell?_of_block (hw.2 g trivial hgw)).trans a2⟩
      have hsum:((es.take (i+1)).map (cntF d)).sum=((es.take i).map (cntF d)).sum+(cntF d) x:=sum_take_succ _ es i x hxi
      have hle:((es.take (i+1)).map (cntF d)).sum≤(es.map (cntF d)).sum:=sum_take_le _ es (i+1)
      have hcx:(cntF d) x=2+(x.clauses.map (cntC (cntE d))).sum:=rfl
      have hkk:=HK.out
      have hkb:=HKB.out
      have HT:Hid (kk+2+(x.clauses.map (cntC (cntE d))).sum≤1099511627776):=by show _≤_;omega
      have HSUM:Hid (k+((es.take (i+1)).map (cntF d)).sum=kk+2+(x.clauses.map (cntC (cntE d))).sum):=by show _=_;omega
      have hki:(i:Int)<(n:Int):=by omega
      have hi0:(0:Int)≤(i:Int):=by omega
      have hkkb:kk+2≤1099511627776:=by omega
      have hkk1:1≤kk:=by omega
      have SA0:Hid (SameOn All wr wr):=⟨Nat.le_refl _,fun _ _ _=>rfl⟩
      clear h0 l0 hv0 hmi hsum hle hcx hkk hkb hcsl HKB HX hb a0 a1 a2 
      obtain ⟨c0,c1,c2⟩:=CELLS.out wr SA0.out
      have q0m:∀ m':Wd (fun w'=>SameOn All wr w'∧Below w.heap.size w w'),m'.val.cell? ⟨g,off+i * 3,none⟩=some (.string (mtext (kk))):=fun m'=>by obtain ⟨c0,c1,c2⟩:=CELLS.out _ m'.ok.1;exact c0
      go_wp2
      have hCne:Nonempty (Wd (fun w'=>SameOn All wr w'∧Below w.heap.size w w')):=⟨⟨wr.drew,⟨SameOn.trans SA0.out ⟨Nat.le_refl _,fun _ _ _=>rfl⟩,HB0.out.drew⟩⟩⟩
      refine wp_region_class (fun w'=>SameOn All wr w'∧Below w.heap.size w w') (by kernel_rfl) (by kernel_rfl) ⟨SameOn.trans SA0.out ⟨Nat.le_refl _,fun _ _ _=>rfl⟩,HB0.out.drew⟩ ?_
      repeat (go_big_quiet_step (first | (rename_i m';go_at_call 22;refine (markText_at (kk) _ (by omega) (by omega) (by omega)).mono ?_;rintro e w1 ⟨rfl,hb1⟩;exact ⟨rfl,⟨⟨w1,⟨(SameOn.trans m'.ok.1 (SameOn.of_below hb1)),m'.ok.2.trans (hb1.mono m'.ok.2.size)⟩⟩,rfl⟩⟩)))
      refine wpQuiet_nil ?_
      rintro _ ⟨mq,rfl⟩
      have hbe:=mq.ok.2
      have hse:=mq.ok.1
      generalize mq.val=W1 at hbe hse ⊢
      have SA1:Hid (SameOn All wr W1):=hse
      have HB1:Hid (Below w.heap.size w W1):=hbe
      clear q0m hbe hse hCne c0 c1 c2
      obtain ⟨c0,c1,c2⟩:=CELLS.out W1 SA1.out
      have R0:=E0.out W1 SA1.out
      have HR0:Hid (Rows W1 All 2 (HCl W1 All (HEx W1 All d)) (.slice q0 x.clauses.length z0) (markL (markC (markE d) (cntE d)) (cntC (cntE d)) (kk+2) x.clauses)):=R0
      have HT0:Hid (kk+2+(x.clauses.map (cntC (cntE d))).sum≤1099511627776):=by show _≤_;have:=HT.out;omega
      clear R0
      go_wp2_with fail
      refine (ihC.at x.clauses (kk+2) _ (by omega) HR0.out (by omega) HT0.out).mono ?_
      rintro e W2 ⟨rfl,hb2⟩
      have HB2:Hid (Below w.heap.size w W2):=HB1.out.trans (hb2.mono HB1.out.size)
      have SA2:Hid (SameOn All wr W2):=SameOn.trans SA1.out (SameOn.of_below hb2)
      have hkz0:=HT0.out
      clear hb2 HR0 HT0 c0 c1 c2
      generalize hz0:kk+2+(x.clauses.map (cntC (cntE d))).sum=kz0 at *
      obtain ⟨c0,c1,c2⟩:=CELLS.out W2 SA2.out
      have hkp0:1≤kz0:=by omega
      have HZ0:Hid (kk+2+(x.clauses.map (cntC (cntE d))).sum=kz0):=hz0
      clear hz0
      go_wp2_with fail
      exact ⟨⟨i+1,kz0,by omega,by go_num,rfl,HSUM.out.symm,HB2.out⟩,by simp [intOf];omega⟩
    · obtain rfl:i=n:=by omega
      have HE:Hid (kk=k+(es.map (cntF d)).sum):=by
        have:=HK.out
        rw [List.take_of_length_le (by rw [HN.out];exact Nat.le_refl _)] at this
        exact this
      clear hb
      go_wp2_with fail
      go_ret
      exact ⟨by rw [HE.out];rfl,HB0.out⟩
theorem HeldMS_of {d:Nat} (ihF:HeldFS d):HeldMS d:=by
  intro w v es k h hk1 hkb
  have hl:(markL (markMS d) (cntMS d) k es).length=es.length:=markL_length _ _ _ _
  obtain ⟨p,cap,rfl,hcl,hcm,hx⟩:=h
  rw [hl] at hcl
  have hnb:es.length≤9223372036854775807:=by unfold maxLen at hcm;omega
  rw [hl]
  have HX:Hid (markL (markMS d) (cntMS d) k es≠[]→∃ g off,p=some ⟨g,off,none⟩∧All g∧g<w.heap.size∧∀ i x,(markL (markMS d) (cntMS d) k es)[i]?=some x→∃ cs,cs.length=3∧(∀ j,j<3→w.cell? ⟨g,off+i * 3+j,none⟩=cs[j]?)∧HMd w All d cs x):=hx
  have HKB:Hid (k+(es.map (cntMS d)).sum≤1099511627776):=hkb
  generalize hn:es.length=n at *
  have HN:Hid (es.length=n):=hn
  clear hx hn hkb hl
  go_enter Tryz.func27,Tryz.ntmps27
  go_wp2
  go_loopw [1,5] (fun kv iv wr=>∃ i kk:Nat,i≤n∧iv=.int .i64 i∧kv=.int .i64 kk∧Hid (kk=k+((es.take i).map (cntMS d)).sum)∧Below w.heap.size w wr) (fun _ iv _=>n - (intOf iv).toNat)
  case atStart=>exact ⟨0,k,Nat.zero_le _,rfl,rfl,(by show k=_;simp),Below.refl _ _⟩
  case round =>
    obtain ⟨i,kk,hi,rfl,rfl,HK,hb⟩:=hrel
    have HB0:Hid (Below w.heap.size w wr):=hb
    by_cases hlt:i<n
    · obtain ⟨x,hxi⟩:∃ x,es[i]?=some x:=⟨es[i]'(by rw [HN.out];exact hlt),List.getElem?_eq_getElem _⟩
      have hmi:(markL (markMS d) (cntMS d) k es)[i]?=some ((markMS d) kk x):=by rw [markL_at _ _ _ _ _ _ hxi,← HK.out]
      obtain ⟨g,off,rfl,_,hgl,hat⟩:=HX.out (by intro h;rw [h] at hmi;simp at hmi)
      obtain ⟨cs,hcsl,hcs,hvx⟩:=hat i _ hmi
      obtain ⟨v0,v1,rfl,-,h0,h1⟩:=hvx
      have l0:(markL markR cntR (kk+1) x.exports).length=x.exports.length:=markL_length _ _ _ _
      obtain ⟨q0,z0,hv0,-⟩:=id h0
      have hv0':v0=.slice q0 x.exports.length z0:=hv0.trans (by show Value.slice _ (markL markR cntR (kk+1) x.exports).length _=_;rw [l0])
      subst hv0'
      have E0:Hid (∀ w',SameOn All wr w'→Rows w' All 2 (HRf) (.slice q0 x.exports.length z0) (markL markR cntR (kk+1) x.exports)):=fun w' hw=>h0.mono (SameOn.trans (SameOn.of_below hb) hw) (fun _ h=>h) (fun _ _ _ h=>h)
      have l1:(markL (markF d) (cntF d) (kk+1+(x.exports.map cntR).sum) x.funs).length=x.funs.length:=markL_length _ _ _ _
      obtain ⟨q1,z1,hv1,-⟩:=id h1
      have hv1':v1=.slice q1 x.funs.length z1:=hv1.trans (by show Value.slice _ (markL (markF d) (cntF d) (kk+1+(x.exports.map cntR).sum) x.funs).length _=_;rw [l1])
      subst hv1'
      have E1:Hid (∀ w',SameOn All wr w'→Rows w' All 3 (HFn w' All d) (.slice q1 x.funs.length z1) (markL (markF d) (cntF d) (kk+1+(x.exports.map cntR).sum) x.funs)):=fun w' hw=>h1.mono (SameOn.trans (SameOn.of_below hb) hw) (fun _ h=>h) (fun _ _ _ h=>h.mono (SameOn.trans (SameOn.of_below hb) hw) (fun _ h=>h))
      have a0:=hcs 0 (by omega)
      have a1:=hcs 1 (by omega)
      have a2:=hcs 2 (by omega)
      rw [← hb.cell (p:=⟨g,_,none⟩) hgl] at a0 a1 a2
      clear hcs hat
      simp [markMS] at a0 a1 a2
      have hgw:g<wr.heap.size:=Nat.lt_of_lt_of_le hgl hb.size
      have CELLS:Hid (∀ w',SameOn All wr w'→w'.cell? ⟨g,off+i * 3,none⟩=some (.string (mtext (kk)))∧w'.cell? ⟨g,off+i * 3+1,none⟩=some (.slice q0 x.exports.length z0)∧w'.cell? ⟨g,off+i * 3+2,none⟩=some (.slice q1 x.funs.length z1)):=fun w' hw=>⟨(World.cell?_of_block (hw.2 g trivial hgw)).trans a0,(World.cell?_of_block (hw.2 g trivial hgw)).trans a1,(World.cell?_of_block (hw.2 g trivial hgw)).trans a2⟩
      have hsum:((es.take (i+1)).map (cntMS d)).sum=((es.take i).map (cntMS d)).sum+(cntMS d) x:=sum_take_succ _ es i x hxi
      have hle:((es.take (i+1)).map (cntMS d)).sum≤(es.map (cntMS d)).sum:=sum_take_le _ es (i+1)
      have hcx:(cntMS d) x=1+((x.exports.map cntR).sum+(x.funs.map (cntF d)).sum):=rfl
      have hkk:=HK.out
      have hkb:=HKB.out
      have HT:Hid (kk+1+(x.exports.map cntR).sum+(x.funs.map (cntF d)).sum≤1099511627776):=by show _≤_;omega
      have HSUM:Hid (k+((es.take (i+1)).map (cntMS d)).sum=kk+1+(x.exports.map cntR).sum+(x.funs.map (cntF d)).sum):=by show _=_;omega
      have hki:(i:Int)<(n:Int):=by omega
      have hi0:(0:Int)≤(i:Int):=by omega
      have hkkb:kk+1≤1099511627776:=by omega
      have hkk1:1≤kk:=by omega
      have SA0:Hid (SameOn All wr wr):=⟨Nat.le_refl _,fun _ _ _=>rfl⟩
      clear h0 l0 hv0 h1 l1 hv1 hmi hsum hle hcx hkk hkb hcsl HKB HX hb a0 a1 a2 
      obtain ⟨c0,c1,c2⟩:=CELLS.out wr SA0.out
      have q0m:∀ m':Wd (fun w'=>SameOn All wr w'∧Below w.heap.size w w'),m'.val.cell? ⟨g,off+i * 3,none⟩=some (.string (mtext (kk))):=fun m'=>by obtain ⟨c0,c1,c2⟩:=CELLS.out _ m'.ok.1;exact c0
      go_wp2
      have hCne:Nonempty (Wd (fun w'=>SameOn All wr w'∧Below w.heap.size w w')):=⟨⟨wr.drew,⟨SameOn.trans SA0.out ⟨Nat.le_refl _,fun _ _ _=>rfl⟩,HB0.out.drew⟩⟩⟩
      refine wp_region_class (fun w'=>SameOn All wr w'∧Below w.heap.size w w') (by kernel_rfl) (by kernel_rfl) ⟨SameOn.trans SA0.out ⟨Nat.le_refl _,fun _ _ _=>rfl⟩,HB0.out.drew⟩ ?_
      repeat (go_big_quiet_step (first | (rename_i m';go_at_call 22;refine (markText_at (kk) _ (by omega) (by omega) (by omega)).mono ?_;rintro e w1 ⟨rfl,hb1⟩;exact ⟨rfl,⟨⟨w1,⟨(SameOn.trans m'.ok.1 (SameOn.of_below hb1)),m'.ok.2.trans (hb1.mono m'.ok.2.size)⟩⟩,rfl⟩⟩)))
      refine wpQuiet_nil ?_
      rintro _ ⟨mq,rfl⟩
      have hbe:=mq.ok.2
      have hse:=mq.ok.1
      generalize mq.val=W1 at hbe hse ⊢
      have SA1:Hid (SameOn All wr W1):=hse
      have HB1:Hid (Below w.heap.size w W1):=hbe
      clear q0m hbe hse hCne c0 c1 c2
      obtain ⟨c0,c1,c2⟩:=CELLS.out W1 SA1.out
      have R0:=E0.out W1 SA1.out
      have HR0:Hid (Rows W1 All 2 (HRf) (.slice q0 x.exports.length z0) (markL markR cntR (kk+1) x.exports)):=R0
      have HT0:Hid (kk+1+(x.exports.map cntR).sum≤1099511627776):=by show _≤_;have:=HT.out;omega
      clear R0
      go_wp2_with fail
      refine (heldRS_all.at x.exports (kk+1) _ (by omega) HR0.out (by omega) HT0.out).mono ?_
      rintro e W2 ⟨rfl,hb2⟩
      have HB2:Hid (Below w.heap.size w W2):=HB1.out.trans (hb2.mono HB1.out.size)
      have SA2:Hid (SameOn All wr W2):=SameOn.trans SA1.out (SameOn.of_below hb2)
      have hkz0:=HT0.out
      clear hb2 HR0 HT0 c0 c1 c2
      generalize hz0:kk+1+(x.exports.map cntR).sum=kz0 at *
      obtain ⟨c0,c1,c2⟩:=CELLS.out W2 SA2.out
      have hkp0:1≤kz0:=by omega
      have HZ0:Hid (kk+1+(x.exports.map cntR).sum=kz0):=hz0
      clear hz0
      have R1:=E1.out W2 SA2.out
      have HR1:Hid (Rows W2 All 3 (HFn W2 All d) (.slice q1 x.funs.length z1) (markL (markF d) (cntF d) (kz0) x.funs)):=R1
      have HT1:Hid (kz0+(x.funs.map (cntF d)).sum≤1099511627776):=by show _≤_;have:=HT.out;omega
      clear R1
      go_wp2_with fail
      refine (ihF.at x.funs (kz0) _ (by omega) HR1.out (by omega) HT1.out).mono ?_
      rintro e W3 ⟨rfl,hb2⟩
      have HB3:Hid (Below w.heap.size w W3):=HB2.out.trans (hb2.mono HB2.out.size)
      have SA3:Hid (SameOn All wr W3):=SameOn.trans SA2.out (SameOn.of_below hb2)
      have hkz1:=HT1.out
      clear hb2 HR1 HT1 c0 c1 c2
      generalize hz1:kz0+(x.funs.map (cntF d)).sum=kz1 at *
      obtain ⟨c0,c1,c2⟩:=CELLS.out W3 SA3.out
      have hkp1:1≤kz1:=by omega
      have HZ1:Hid (kz0+(x.funs.map (cntF d)).sum=kz1):=hz1
      clear hz1
      go_wp2_with fail
      exact ⟨⟨i+1,kz1,by omega,by go_num,rfl,HSUM.out.symm,HB3.out⟩,by simp [intOf];omega⟩
    · obtain rfl:i=n:=by omega
      have HE:Hid (kk=k+(es.map (cntMS d)).sum):=by
        have:=HK.out
        rw [List.take_of_length_le (by rw [HN.out];exact Nat.le_refl _)] at this
        exact this
      clear hb
      go_wp2_with fail
      go_ret
      exact ⟨by rw [HE.out];rfl,HB0.out⟩
theorem heldES_all:∀ d,HeldES d
  | 0=>HeldES_of (fun d' h=>by omega) (fun d' h=>by omega)
  | d+1=>HeldES_of (fun d' h=>by (obtain rfl:d=d':=by omega);exact heldES_all d) (fun d' h=>by (obtain rfl:d=d':=by omega);exact HeldCS_of (heldES_all d))
theorem heldCS_all (d:Nat):HeldCS d:=HeldCS_of (heldES_all d)
theorem heldFS_all (d:Nat):HeldFS d:=HeldFS_of (heldCS_all d)
theorem heldMS_all (d:Nat):HeldMS d:=HeldMS_of (heldFS_all d)
end Go.Proofs.YtefpgpbbgclemaaGreatDoor
