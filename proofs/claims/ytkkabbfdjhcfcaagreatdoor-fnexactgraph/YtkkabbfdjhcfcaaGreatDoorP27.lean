/-
  ModsMark
-/
import Derived.Test.YtkkabbfdjhcfcaaGreatDoorP26
import Derived.Test.YtkkabbfdjhcfcaaGreatDoorP10
set_option maxHeartbeats 16000000
set_option linter.unusedVariables false
set_option maxRecDepth 100000
namespace Go.Proofs.YtkkabbfdjhcfcaaGreatDoor
open Go.ChangeShapes Go.WideShapes Go.ChangeAt Go.RowKit
def cntMS (d:Nat) (m:Md):Nat:=1+cntM d m
def markMS (d:Nat) (k:Nat) (m:Md):Md:=⟨mtext k,markL markR cntR (k+1) m.exports,markL (markF d) (cntF d) (k+1+(m.exports.map cntR).sum) m.funs⟩
def MarkMS (d:Nat):Prop :=
  ∀ (w:World) (v:Value) (es:List Md) (fp:List Nat) (k:Nat),ORows w 44 3 (OMd w d) v es fp→fp.Nodup→1≤k→k+(es.map (cntMS d)).sum≤1099511627776 →
    Calls Tryz.prog 10 #[v,.int .i64 k] w fun e w'=>e=.returned (.int .i64 ((k+(es.map (cntMS d)).sum:Nat):Int))∧ORows w' 44 3 (OMd w' d) v (markL (markMS d) (cntMS d) k es) fp∧Off fp w w'
theorem MarkMS_of {d:Nat}  : MarkMS d:=by
  intro w v es fp k h hnd hk1 hkb
  obtain ⟨p,cap,rfl,hcl,hcm⟩:=h.shape
  have hnb:es.length≤9223372036854775807:=by unfold maxLen at hcm;omega
  have HL:Hid ((markL (markMS d) (cntMS d) k es).length=es.length):=markL_length _ _ _ _
  have HO:Hid (ORows w 44 3 (OMd w d) (.slice p es.length cap) es fp):=h
  have HND:Hid fp.Nodup:=hnd
  have HKB:Hid (k+(es.map (cntMS d)).sum≤1099511627776):=hkb
  generalize hn:es.length=n at *
  have HN:Hid (es.length=n):=hn
  clear h hnd hn hkb
  go_enter Tryz.func10,Tryz.ntmps10
  go_wp2
  go_loopw [1,5] (fun kv iv wr=>∃ i kk:Nat,i≤n∧iv=.int .i64 i∧kv=.int .i64 kk∧Hid (kk=k+((es.take i).map (cntMS d)).sum)∧Hid (ORows wr 44 3 (OMd wr d) (.slice p n cap) (mix i (markL (markMS d) (cntMS d) k es) es) fp)∧Hid (Off fp w wr)) (fun _ iv _=>n - (intOf iv).toNat)
  case atStart=>exact ⟨0,k,Nat.zero_le _,rfl,rfl,(by show k=_;simp),(by show ORows _ _ _ _ _ _ _;rw [mix_zero];exact HO.out),Off.refl _ _⟩
  case round =>
    obtain ⟨i,kk,hi,rfl,rfl,HK,HR,HF⟩:=hrel
    by_cases hlt:i<n
    · obtain ⟨x,hxi⟩:∃ x,es[i]?=some x:=⟨es[i]'(by rw [HN.out];exact hlt),List.getElem?_eq_getElem _⟩
      have hml:(mix i (markL (markMS d) (cntMS d) k es) es).length=n:=by rw [mix_length (by rw [HL.out,HN.out]),HN.out]
      have hmx:(mix i (markL (markMS d) (cntMS d) k es) es)[i]?=some x:=by rw [mix_at (by rw [HL.out,HN.out]) (by rw [HN.out];exact hlt)];exact hxi
      have HMX:Hid ((mix i (markL (markMS d) (cntMS d) k es) es).length=n):=hml
      rcases HR.out with hnil | ⟨hne,cells,g,cap',fps,ho,hv,hl,hfp,hat⟩
      · rw [hnil.1] at hml;simp at hml;omega
      rw [hml] at ho hv hl
      obtain ⟨f,hf⟩:∃ f,fps[i]?=some f:=⟨fps[i]'(by rw [hl];exact hlt),List.getElem?_eq_getElem _⟩
      obtain ⟨cs,hcs4,hcs,hx⟩:=hat i x f hmx hf
      cases hv
      have hlc:cells.length=n * 3:=ho.1
      have hnp:=nodup_parts (hfp ▸ HND.out)
      have hsum:((es.take (i+1)).map (cntMS d)).sum=((es.take i).map (cntMS d)).sum+cntMS d x:=sum_take_succ _ es i x hxi
      have hle:((es.take (i+1)).map (cntMS d)).sum≤(es.map (cntMS d)).sum:=sum_take_le _ es (i+1)
      have hkk:=HK.out
      have hkb:=HKB.out
      have hg0:g ∈ fp:=by rw [hfp];simp
      have hfs:∀ a ∈ f,a ∈ fp:=fun a ha=>by rw [hfp];exact List.mem_cons_of_mem _ (List.mem_flatten.2 ⟨f,List.mem_of_getElem? hf,ha⟩)
      have hgf:g ∉ f:=(hnp.1 f (List.mem_of_getElem? hf)).1
      have hfn:f.Nodup:=(hnp.1 f (List.mem_of_getElem? hf)).2
      have HMI:Hid ((markL (markMS d) (cntMS d) k es)[i]?=some ((markMS d) kk x)):=by
        show _=_
        rw [markL_at _ _ _ _ _ _ hxi,← HK.out]
      have HAT:Hid (∀ (j:Nat) y f',(mix i (markL (markMS d) (cntMS d) k es) es)[j]?=some y→fps[j]?=some f'→∃ cs:List Value,cs.length=3∧(∀ q,q<3→cells[j * 3+q]?=cs[q]?)∧OMd wr d cs y f'):=hat
      have HNP:Hid (∀ (i j:Nat) f f',i≠j→fps[i]?=some f→fps[j]?=some f'→∀ a ∈ f,a ∉ f'):=hnp.2
      have HNG:Hid (∀ f ∈ fps,g ∉ f∧f.Nodup):=hnp.1
      have HFP:Hid (fp=g :: fps.flatten):=hfp
      have HNE:Hid (mix i (markL (markMS d) (cntMS d) k es) es≠[]):=hne
      have HFS:Hid ((∀ a ∈ f,a ∈ fp)∧g ∈ fp∧g ∉ f∧f.Nodup):=⟨hfs,hg0,hgf,hfn⟩
      have hki:(i:Int)<(n:Int):=by omega
      have hi0:(0:Int)≤(i:Int):=by omega
      clear hat hnp hfp hne hfs hg0 hgf hfn hml hmx HKB HO
      obtain ⟨ev,fv,f1,f2,rfl,hff,hms,hke,hcl⟩:=hx
      obtain ⟨pe,ce,hev,_⟩:=hke.shape
      subst hev
      obtain ⟨pf,cf,hfv,_⟩:=hcl.shape
      subst hfv
      have HFF:Hid (f=f1 ++ f2):=hff
      have HCS:Hid (∀ (j:Nat),j<3→cells[i * 3+j]? = [Value.string x.name,.slice pe x.exports.length ce,.slice pf x.funs.length cf][j]?):=hcs
      have HOW:Hid (wr.ownsRow 0 44 3 (.slice (some ⟨g,0,none⟩) n cap) n cells):=ho
      have HKE:Hid (ORows wr 78 2 (ORf wr d) (.slice pe x.exports.length ce) x.exports f1):=hke
      have HCL:Hid (ORows wr 47 3 (OFn wr d) (.slice pf x.funs.length cf) x.funs f2):=hcl
      have hcx:cntMS d x=1+((x.exports.map cntR).sum+(x.funs.map (cntF d)).sum):=rfl
      have HSUM:Hid (k+((es.take (i+1)).map (cntMS d)).sum=kk+1+(x.exports.map cntR).sum+(x.funs.map (cntF d)).sum):=by show _=_;omega
      have hk2a:kk+1+(x.exports.map cntR).sum≤1099511627776:=by omega
      have HK2:Hid (kk+1+(x.exports.map cntR).sum+(x.funs.map (cntF d)).sum≤1099511627776):=by show _≤_;omega
      have HN12:Hid (f1.Nodup∧f2.Nodup∧∀ a ∈ f1,∀ b ∈ f2,a≠b):=by
        have:=HFS.out.2.2.2
        rw [hff] at this
        exact List.nodup_append.1 this
      have lt1:Hid (∀ a ∈ f1,a<wr.heap.size):=hke.lt (fun _ _ _ h=>h.lt)
      have lt2:Hid (∀ a ∈ f2,a<wr.heap.size):=hcl.lt (fun _ _ _ h=>h.lt)
      have hn1:Hid (g ∉ f1):=fun h=>HFS.out.2.2.1 (by rw [hff];simp [h])
      have hn2:Hid (g ∉ f2):=fun h=>HFS.out.2.2.1 (by rw [hff];simp [h])
      have hkk2:kk+1≤1099511627776:=by omega
      have hgl:g<wr.heap.size:=owns_lt ho rfl
      have hk11:1≤kk:=by omega
      clear ho hcs hcs4 hsum hle hkk hkb hcx hke hcl hff
      go_wp2_with fail
      refine (markText_at kk _ rfl (by omega) (by omega)).mono ?_
      rintro e w1 ⟨rfl,hb⟩
      have o1:=HOW.out.kept (grownBy_belowR (r:=none) hb) (Or.inr (by simp [Value.ownBlock]))
      have e0:w1.cell? ⟨g,i * 3,none⟩=some (.string x.name):=by
        rw [o1.cellAt (i * 3) (by omega)];exact HCS.out 0 (by omega)
      have z0:=o1.frozenAt (i * 3)
      have s1:=o1.stored (i * 3) (.string (mtext kk))
      have e1:(w1.setCell ⟨g,i * 3,none⟩ (.string (mtext kk))).cell? ⟨g,i * 3+1,none⟩=some (.slice pe x.exports.length ce):=by
        rw [s1.1.cellAt (i * 3+1) (by omega),List.getElem?_set_ne (by omega)];exact HCS.out 1 (by omega)
      have hoff:Off [g] wr (w1.setCell ⟨g,i * 3,none⟩ (.string (mtext kk))):=(Off.of_below hb).trans (Off.of_grown s1.2 (by simp))
      have HOFF:Hid (Off [g] wr (w1.setCell ⟨g,i * 3,none⟩ (.string (mtext kk)))):=hoff
      have HS1:Hid ((w1.setCell ⟨g,i * 3,none⟩ (.string (mtext kk))).ownsRow 0 44 3 (.slice (some ⟨g,0,none⟩) n cap) n (cells.set (i * 3) (.string (mtext kk)))):=s1.1
      have hkeep:∀ f',g ∉ f'→(∀ a ∈ f',a<wr.heap.size)→KeepOn f' wr (w1.setCell ⟨g,i * 3,none⟩ (.string (mtext kk))):=fun f' h1 h2=>hoff.keep (fun a ha=>⟨h2 a ha,fun hm=>h1 (by rw [List.mem_singleton] at hm;exact hm ▸ ha)⟩)
      have hk1:=hkeep f1 hn1.out lt1.out
      have hk2:=hkeep f2 hn2.out lt2.out
      have HKE2:Hid (ORows (w1.setCell ⟨g,i * 3,none⟩ (.string (mtext kk))) 78 2 (ORf (w1.setCell ⟨g,i * 3,none⟩ (.string (mtext kk))) d) (.slice pe x.exports.length ce) x.exports f1):=HKE.out.keep hk1 (fun cs x f' _ hs h=>h)
      have HCL2:Hid (ORows (w1.setCell ⟨g,i * 3,none⟩ (.string (mtext kk))) 47 3 (OFn (w1.setCell ⟨g,i * 3,none⟩ (.string (mtext kk))) d) (.slice pf x.funs.length cf) x.funs f2):=HCL.out.keep hk2 (fun cs x f' _ hs h=>h.keep (hk2.sub hs))
      have HKP:Hid (∀ f',g ∉ f'→(∀ a ∈ f',a<wr.heap.size)→KeepOn f' wr (w1.setCell ⟨g,i * 3,none⟩ (.string (mtext kk)))):=hkeep
      clear s1 o1 hoff hb hk1 hk2 hkeep
      go_wp2_with fail
      clear e0 z0 e1
      refine ((markRS_all d).at x.exports f1 (kk+1) _ (by omega) HKE2.out HN12.out.1 (by omega) hk2a).mono ?_
      rintro e w3 ⟨rfl,r3,off3⟩
      have ho3:w3.ownsRow 0 44 3 (.slice (some ⟨g,0,none⟩) n cap) n (cells.set (i * 3) (.string (mtext kk))):=owns_block HS1.out rfl (off3.block g (owns_lt HS1.out rfl) hn1.out)
      have HO3:Hid (w3.ownsRow 0 44 3 (.slice (some ⟨g,0,none⟩) n cap) n (cells.set (i * 3) (.string (mtext kk)))):=ho3
      have e2:w3.cell? ⟨g,i * 3+2,none⟩=some (.slice pf x.funs.length cf):=by
        rw [ho3.cellAt (i * 3+2) (by omega),List.getElem?_set_ne (by omega)];exact HCS.out 2 (by omega)
      have k32:KeepOn f2 (w1.setCell ⟨g,i * 3,none⟩ (.string (mtext kk))) w3:=off3.keep (fun a ha=>⟨HCL2.out.lt (fun _ _ _ h=>h.lt) a ha,fun hm=>HN12.out.2.2 a hm a ha rfl⟩)
      have HCL3:Hid (ORows w3 47 3 (OFn w3 d) (.slice pf x.funs.length cf) x.funs f2):=HCL2.out.keep k32 (fun cs x f' _ hs h=>h.keep (k32.sub hs))
      have HR3:Hid (ORows w3 78 2 (ORf w3 d) (.slice pe x.exports.length ce) (markL markR cntR (kk+1) x.exports) f1):=r3
      have HF3:Hid (Off f1 (w1.setCell ⟨g,i * 3,none⟩ (.string (mtext kk))) w3):=off3
      have HMM:Hid (markMS d kk x=⟨mtext kk,markL markR cntR (kk+1) x.exports,markL (markF d) (cntF d) (kk+1+(x.exports.map cntR).sum) x.funs⟩):=rfl
      generalize hk3:kk+1+(x.exports.map cntR).sum=k3 at *
      have HK3:Hid (kk+1+(x.exports.map cntR).sum=k3):=hk3
      have hk31:1≤k3:=by omega
      clear r3 off3 k32 ho3 hk3
      go_wp2_with fail
      clear e2
      refine ((markFS_all d).at x.funs f2 k3 _ rfl HCL3.out HN12.out.2.1 hk31 HK2.out).mono ?_
      rintro e w4 ⟨rfl,r4,off4⟩
      have hown:w4.ownsRow 0 44 3 (.slice (some ⟨g,0,none⟩) n cap) n (cells.set (i * 3) (.string (mtext kk))):=owns_block HO3.out rfl (off4.block g (owns_lt HO3.out rfl) hn2.out)
      have k41:KeepOn f1 w3 w4:=off4.keep (fun a ha=>⟨HR3.out.lt (fun _ _ _ h=>h.lt) a ha,fun hm=>HN12.out.2.2 a ha a hm rfl⟩)
      have hset:=ORows.set (R:=OMd wr d) (R':=OMd w4 d) (x':=markMS d kk x) (i:=i) (f:=f) HNE.out (by rw [HMX.out];exact hown) (by rw [HMX.out]) (by rw [HMX.out];exact hl) HAT.out hf
        (fun m hm=>by rw [List.getElem?_set_ne (by omega)])
        [.string (mtext kk),.slice pe x.exports.length ce,.slice pf x.funs.length cf] rfl
        (fun j hj=>by
          match j,hj with
          | 0,_=>exact List.getElem?_set_self (by omega)
          | 1,_=>rw [List.getElem?_set_ne (by omega)];exact HCS.out 1 (by omega)
          | 2,_=>rw [List.getElem?_set_ne (by omega)];exact HCS.out 2 (by omega))
        (by
          rw [HMM.out]
          exact ⟨_,_,f1,f2,rfl,HFF.out,mtext_ok (by omega),HR3.out.keep k41 (fun cs x f' _ hs h=>h),r4⟩)
        (fun j y f' cs hj hf' h=>h.keep (fun a ha=>by
          have h1:=(HNG.out f' (List.mem_of_getElem? hf')).1
          have h2:=h.lt a ha
          have h3:=HNP.out j i f' _ hj hf' hf a ha
          have h31:a ∉ f1:=fun hm=>h3 (by rw [HFF.out];simp [hm])
          have h32:a ∉ f2:=fun hm=>h3 (by rw [HFF.out];simp [hm])
          have h5:=Nat.lt_of_lt_of_le h2 HOFF.out.size
          exact (off4.block a (Nat.lt_of_lt_of_le h5 HF3.out.size) h32).trans ((HF3.out.block a h5 h31).trans (HKP.out f' h1 h.lt a ha))))
      rw [mix_succ (by rw [HL.out,HN.out]) HMI.out,← HFP.out] at hset
      have HSET:Hid (ORows w4 44 3 (OMd w4 d) (.slice (some ⟨g,0,none⟩) n cap) (mix (i+1) (markL (markMS d) (cntMS d) k es) es) fp):=hset
      have HF2:Hid (Off fp w w4):=HF.out.trans ((HOFF.out.sub (fun a ha=>by rw [List.mem_singleton] at ha;exact ha ▸ HFS.out.2.1)).trans ((HF3.out.sub (fun a ha=>HFS.out.1 a (by rw [HFF.out];simp [ha]))).trans (off4.sub (fun a ha=>HFS.out.1 a (by rw [HFF.out];simp [ha])))))
      clear hset hown r4 off4 k41
      go_wp2_with fail
      exact ⟨⟨i+1,k3+(x.funs.map (cntF d)).sum,by omega,by go_num,rfl,HSUM.out.symm,HSET,HF2⟩,by simp [intOf];omega⟩
    · obtain rfl:i=n:=by omega
      have HE:Hid (kk=k+(es.map (cntMS d)).sum):=by
        have:=HK.out
        rw [List.take_of_length_le (by rw [HN.out];exact Nat.le_refl _)] at this
        exact this
      have HR2:Hid (ORows wr 44 3 (OMd wr d) (.slice p i cap) (markL (markMS d) (cntMS d) k es) fp):=by
        have:=HR.out
        rw [mix_all (by rw [HL.out,HN.out]) (by rw [HN.out];exact Nat.le_refl _)] at this
        exact this
      clear HR HO
      go_wp2_with fail
      go_ret
      exact ⟨by rw [HE.out];rfl,HR2.out,HF.out⟩
theorem markMS_all (d:Nat):MarkMS d:=MarkMS_of
theorem cntMS_le (d:Nat):∀ (l:List Md),(l.map (cntMS d)).sum≤5 * wtS (wtMd d) l
  | []=>by simp
  | m :: l=>by
    have h1:=cntMS_le d l
    have h2:=cntM_le d m
    unfold wtS at *
    simp only [List.map_cons,List.sum_cons,List.length_cons]
    unfold cntMS at *
    omega
end Go.Proofs.YtkkabbfdjhcfcaaGreatDoor
