/-
  GraphSpecC ReachMath UnusMath ReachGo
-/
import Derived.Test.YtonpgdfpgpepiaaGreatDoorP40
set_option maxHeartbeats 16000000
set_option linter.unusedVariables false
set_option maxRecDepth 100000
namespace Go.Proofs.YtonpgdfpgpepiaaGreatDoor
open Go.ChangeShapes Go.WideShapes Go.ChangeAt Go.RowKit
def ftF (d:Nat) (m:Md) (f:Fn'):ByteArray × List ByteArray:=(nmT m.name f.name f.arity,sortS (cF m d (bodiesOf f.clauses)))
def ftM (d:Nat) (m:Md):List (ByteArray × List ByteArray):=m.funs.map (ftF d m)
theorem ftOf_eq (d:Nat) (ms:List Md):ftOf nmT d ms=ms.flatMap (ftM d):=rfl
theorem ftOf_len (d:Nat) (ms:List Md):(ms.flatMap (ftM d)).length≤wtS (wtMd d) ms:=flat_lenW (ftM d) (wtMd d) ms (fun m _=>by
  unfold ftM wtMd wtS;rw [List.length_map];omega)
theorem fnames_ok {w:World} {d:Nat} {v:Value} {ms:List Md} (h:Rows w All 3 (HMd w All d) v ms) (hw:wtS (wtMd d) ms≤1048576):∀ c ∈ (ms.flatMap (ftM d)).map Prod.fst,okS c:=by
  intro c hc
  obtain ⟨p,hp,rfl⟩:=List.mem_map.1 hc
  obtain ⟨m,hm,hp⟩:=List.mem_flatMap.1 hp
  obtain ⟨f,hf,rfl⟩:=List.mem_map.1 hp
  have h1:=wt_mem (wtMd d) hm
  have h2:=wt_mem (wtFn d) hf
  have h3:wtMd d m=m.name.size+wtS wtRf m.exports+wtS (wtFn d) m.funs:=rfl
  have h4:wtFn d f=f.name.size+wtS (wtCl (wtEx d)) f.clauses:=rfl
  exact okS_small (nameT_len _ _ _ (by omega) (by omega) (rows_arity h hm hf))
def tlE (ft:List (ByteArray × List ByteArray)) (n:ByteArray):List Edge:=ft.flatMap fun p=>if p.1=n then p.2.map fun t=>(n,t) else []
def tlP (n:ByteArray) (p:ByteArray × List ByteArray):List Edge:=if p.1=n then p.2.map fun t=>(n,t) else []
theorem tellE_eq (ft:List (ByteArray × List ByteArray)):tellE ft=(sortS (ft.map Prod.fst)).flatMap (tlE ft):=rfl
theorem tlE_eq (ft:List (ByteArray × List ByteArray)) (n:ByteArray):tlE ft n=ft.flatMap (tlP n):=rfl
def sumT (ft:List (ByteArray × List ByteArray)):Nat:=(ft.map fun p=>p.2.length).sum
theorem tlP_len (n:ByteArray) (p:ByteArray × List ByteArray):(tlP n p).length≤p.2.length:=by unfold tlP;split <;> simp
theorem tlF_len (n:ByteArray):∀ (ft:List (ByteArray × List ByteArray)),(ft.flatMap (tlP n)).length≤sumT ft
  | []=>by simp [sumT]
  | p :: ft=>by
    have h1:=tlF_len n ft
    have h2:=tlP_len n p
    unfold sumT at h1 ⊢
    simp only [List.flatMap_cons,List.length_append,List.map_cons,List.sum_cons]
    omega
theorem flat_mul {α β:Type} (f:α→List β) (K:Nat) (h:∀ x,(f x).length≤K):∀ (l:List α),(l.flatMap f).length≤l.length * K
  | []=>by simp
  | x :: l=>by
    have h1:=flat_mul f K h l
    have h2:=h x
    rw [List.flatMap_cons,List.length_append,List.length_cons,Nat.add_mul,Nat.one_mul]
    omega
theorem sumT_len (d:Nat) (ms:List Md):sumT (ms.flatMap (ftM d))≤wtS (wtMd d) ms:=by
  have key:∀ (m:Md),sumT (ftM d m)≤wtS (wtFn d) m.funs:=fun m=>by
    unfold sumT ftM
    rw [List.map_map]
    have:∀ (l:List Fn'),(l.map ((fun p:ByteArray × List ByteArray=>p.2.length) ∘ ftF d m)).sum≤wtS (wtFn d) l:=by
      intro l
      induction l with
      | nil=>simp [wtS]
      | cons f l ih =>
        have h1:((fun p:ByteArray × List ByteArray=>p.2.length) ∘ ftF d m) f≤wtFn d f:=by
          have e1:=sortS_len (cF m d (bodiesOf f.clauses)) (cF m d (bodiesOf f.clauses)).length
          rw [List.take_of_length_le (Nat.le_refl _)] at e1
          have e2:=cF_len m d (bodiesOf f.clauses)
          have e3:=sumB d f.clauses
          have e4:wtFn d f=f.name.size+wtS (wtCl (wtEx d)) f.clauses:=rfl
          show (sortS (cF m d (bodiesOf f.clauses))).length≤_
          omega
        unfold wtS at ih ⊢
        simp only [List.map_cons,List.sum_cons,List.length_cons]
        omega
    exact this m.funs
  induction ms with
  | nil=>simp [sumT,wtS]
  | cons m ms ih =>
    have h1:=key m
    have h2:sumT ((m :: ms).flatMap (ftM d))=sumT (ftM d m)+sumT (ms.flatMap (ftM d)):=by
      unfold sumT
      rw [List.flatMap_cons,List.map_append,List.sum_append]
    have h3:wtMd d m=m.name.size+wtS wtRf m.exports+wtS (wtFn d) m.funs:=rfl
    have h4:wtS (wtMd d) (m :: ms)=1+wtMd d m+wtS (wtMd d) ms:=by unfold wtS;simp only [List.map_cons,List.sum_cons,List.length_cons];omega
    omega
def graphL (d:Nat) (ms:List Md):List Edge:=if goodB d ms then tellE (ftOf nmT d ms) else []
theorem specGraph_any (d:Nat) (w:World) (v:Value) (ms:List Md) (h:Rows w All 3 (HMd w All d) v ms) (hw:wtS (wtMd d) ms≤1048576) :
    Calls Tryz.prog 35 #[v] w fun e w'=>∃ u,e=.returned u∧OwnE w' w.heap.size u (graphL d ms)∧Below w.heap.size w w':=by
  have HMS:Hid (∀ w',Below w.heap.size w w'→Rows w' All 3 (HMd w' All d) v ms):=fun w' hw=>h.mono (SameOn.of_below hw) (fun _ h=>h) (fun _ _ _ h=>h.mono (SameOn.of_below hw) (fun _ h=>h))
  have HG:Hid (∀ w',Below w.heap.size w w'→Calls Tryz.prog 14 #[v] w' fun e w''=>e=.returned (.bool (goodB d ms))∧Below w'.heap.size w' w''):=fun w' hb=>specGood_any d w' v ms (HMS.out w' hb) hw
  have B1:Hid (Below w.heap.size w (w.alloc (.cells #[] 70))):=(Below.refl _ _).alloc (Nat.le_refl _) _
  have O1:Hid (OwnE (w.alloc (.cells #[] 70)) w.heap.size (.slice (some ⟨w.heap.size,0,none⟩) 0 0) []):=OwnG.fresh
  cases hgd:goodB d ms with
  | false =>
    have HGL:Hid (graphL d ms = []):=by show _=_;unfold graphL;rw [hgd];rfl
    go_enter Tryz.func35,Tryz.ntmps35
    go_wp2_with fail
    refine (HG.out _ B1.out).mono ?_
    rintro e w2 ⟨rfl,hb2⟩
    rw [hgd]
    have O2:Hid (OwnE w2 w.heap.size (.slice (some ⟨w.heap.size,0,none⟩) 0 0) []):=O1.out.next hb2
    have B2:Hid (Below w.heap.size w w2):=B1.out.trans (hb2.mono B1.out.size)
    clear hb2
    go_wp2
    go_ret
    exact ⟨_,rfl,by rw [HGL.out];exact O2.out,B2.out⟩
  | true =>
    have HGL:Hid (graphL d ms=tellE (ms.flatMap (ftM d))):=by show _=_;unfold graphL;rw [hgd];rfl
    have HOK:Hid (∀ c ∈ (ms.flatMap (ftM d)).map Prod.fst,okS c):=fnames_ok h hw
    obtain ⟨p,cap,rfl,hcl,hcm,hx⟩:=h
    have HX:Hid (ms≠[]→∃ g off,p=some ⟨g,off,none⟩∧All g∧g<w.heap.size∧∀ i x,ms[i]?=some x→∃ cs,cs.length=3∧(∀ j,j<3→w.cell? ⟨g,off+i * 3+j,none⟩=cs[j]?)∧HMd w All d cs x):=hx
    have HLEN:Hid ((ms.flatMap (ftM d)).length≤1048576):=Nat.le_trans (ftOf_len d ms) hw
    have HWM:Hid (∀ k m,ms[k]?=some m→wtMd d m≤1048576):=fun k m hk=>Nat.le_trans (by
      have h2:=sum_take_succ (wtMd d) ms k m hk
      have h3:=sum_take_le (wtMd d) ms (k+1)
      unfold wtS
      omega) hw
    have HWS:Hid (sumT (ms.flatMap (ftM d))≤1048576):=Nat.le_trans (sumT_len d ms) hw
    have hnb:ms.length≤9223372036854775807:=by unfold maxLen at hcm;omega
    obtain ⟨i0,hi,hz0,hz1,hz2⟩:=info_parts info_str
    obtain ⟨j0,hj,hy0,hy1,hy2⟩:=info_parts info_ss
    generalize hn:ms.length=n at *
    have HN:Hid (ms.length=n):=hn
    clear hx hn hw
    go_enter Tryz.func35,Tryz.ntmps35
    go_wp2_with fail
    refine (HG.out _ B1.out).mono ?_
    rintro e w2 ⟨rfl,hb2⟩
    rw [hgd]
    have O2:Hid (OwnE w2 w.heap.size (.slice (some ⟨w.heap.size,0,none⟩) 0 0) []):=O1.out.next hb2
    have B2:Hid (Below w.heap.size w w2):=B1.out.trans (hb2.mono B1.out.size)
    have sF:(w2.alloc (.cells #[] 9)).heap.size=w2.heap.size+1:=alloc_hs _ _
    have bF1:Below w2.heap.size w2 (w2.alloc (.cells #[] 9)):=(Below.refl _ _).alloc (Nat.le_refl _) _
    have bF2:Below (w2.heap.size+1) (w2.alloc (.cells #[] 9)) ((w2.alloc (.cells #[] 9)).alloc (.cells #[] 24)):=(Below.refl _ _).alloc (by rw [sF];omega) _
    have B3:Hid (Below w.heap.size w ((w2.alloc (.cells #[] 9)).alloc (.cells #[] 24))):=(B2.out.trans (bF1.mono B2.out.size)).trans (bF2.mono (by have:=B2.out.size;omega))
    have O3:Hid (OwnE ((w2.alloc (.cells #[] 9)).alloc (.cells #[] 24)) w.heap.size (.slice (some ⟨w.heap.size,0,none⟩) 0 0) []):=(O2.out.next bF1).next (by show Below _ _ _;rw [sF];exact bF2)
    have F3:Hid (FT ((w2.alloc (.cells #[] 9)).alloc (.cells #[] 24)) w.heap.size (.slice (some ⟨w2.heap.size,0,none⟩) 0 0) [] (.slice (some ⟨w2.heap.size+1,0,none⟩) 0 0) []):=by
      refine FT.nil (OwnS.base ((OwnS.fresh (w:=w2)).next (by show Below _ _ _;rw [sF];exact bF2)) B2.out.size) ?_
      have:=owns_fresh (w:=w2.alloc (.cells #[] 9)) (e:=24) (c:=1)
      rw [sF] at this
      obtain ⟨t1,t2⟩:=this
      refine ⟨t1,?_⟩
      rcases t2 with hn | ⟨g,cp,cur,hv,hB,hr⟩
      · exact .inl hn
      · exact .inr ⟨g,cp,cur,hv,by have:=B2.out.size;omega,hr⟩
    clear hb2 O1 B1 sF bF1 bF2 O2 B2
    go_wp2_with fail
    go_loopw [4,5,6] (fun fv tv iv wx=>∃ a:Nat,a≤n∧iv=.int .i64 a∧Hid (FT wx w.heap.size fv (((ms.take a).flatMap (ftM d)).map Prod.fst) tv (((ms.take a).flatMap (ftM d)).map Prod.snd))∧Hid (OwnE wx w.heap.size (.slice (some ⟨w.heap.size,0,none⟩) 0 0) [])∧Hid (Below w.heap.size w wx)) (fun _ _ iv _=>n - (intOf iv).toNat)
    case atStart=>exact ⟨0,Nat.zero_le _,rfl,by show FT _ _ _ _ _ _;simpa using F3.out,O3,B3⟩
    case round =>
      obtain ⟨a,ha,rfl,ho,hoe,hb⟩:=hrel
      clear F3 O3 B3
      by_cases hlt:a<n
      · obtain ⟨m,hmk⟩:∃ m,ms[a]?=some m:=⟨ms[a]'(by rw [HN.out];exact hlt),List.getElem?_eq_getElem _⟩
        obtain ⟨g,off,rfl,-,hgl,hat⟩:=HX.out (by intro h;rw [h] at hmk;simp at hmk)
        obtain ⟨cs,hcsl,hcs,hm⟩:=hat a m hmk
        have HMM:Hid (∀ w',Below w.heap.size w w'→HMd w' All d cs m):=fun w' hw=>hm.mono (SameOn.of_below hw) (fun _ h=>h)
        obtain ⟨ev,fv,rfl,hms,he,hf⟩:=hm
        obtain ⟨pe,ce,rfl,hce,hcme,hxe⟩:=he
        obtain ⟨pf,cf,rfl,hcf,hcmf,hxf⟩:=hf
        have HXF:Hid (m.funs≠[]→∃ g off,pf=some ⟨g,off,none⟩∧All g∧g<w.heap.size∧∀ i x,m.funs[i]?=some x→∃ cs,cs.length=3∧(∀ j,j<3→w.cell? ⟨g,off+i * 3+j,none⟩=cs[j]?)∧HFn w All d cs x):=hxf
        have HWF:Hid (∀ k f,m.funs[k]?=some f→wtFn d f≤1048576):=fun k f hk=>Nat.le_trans (by
          have h2:=sum_take_succ (wtFn d) m.funs k f hk
          have h3:=sum_take_le (wtFn d) m.funs (k+1)
          unfold wtMd wtS
          omega) (HWM.out a m hmk)
        have hmn:m.name.size≤1048576:=by have:=HWM.out a m hmk;unfold wtMd at this;omega
        have HA0:Hid (w.cell? ⟨g,off+a * 3,none⟩=some (.string m.name)∧w.cell? ⟨g,off+a * 3+1,none⟩=some (.slice pe m.exports.length ce)∧w.cell? ⟨g,off+a * 3+2,none⟩=some (.slice pf m.funs.length cf)):=⟨hcs 0 (by omega),hcs 1 (by omega),hcs 2 (by omega)⟩
        have HGL':Hid (g<w.heap.size):=hgl
        have hki:(a:Int)<(n:Int):=by omega
        have hk0:(0:Int)≤(a:Int):=by omega
        have hnf:m.funs.length≤9223372036854775807:=by unfold maxLen at hcmf;omega
        obtain ⟨HJ,HL⟩:=flat_takeG (ftM d) ms a m hmk
        have HJJ:Hid ((ms.take (a+1)).flatMap (ftM d)=(ms.take a).flatMap (ftM d) ++ m.funs.map (ftF d m)):=HJ
        have HLL:Hid (((ms.take a).flatMap (ftM d)).length+m.funs.length≤1048576):=by
          have h1:=HLEN.out
          have h2:(ftM d m).length=m.funs.length:=by simp [ftM]
          show _≤_
          omega
        generalize hA0:(ms.take a).flatMap (ftM d)=A0 at *
        generalize hn1:m.exports.length=ne at *
        generalize hn2:m.funs.length=nf at *
        have HN2:Hid (m.funs.length=nf):=hn2
        clear hxe hxf hcs hcsl hat HJ HL hA0 hms hn1 hn2 hmk hcme hcmf hce hcf
        go_wp2_with fail
        go_loopw [4,5,7] (fun fv tv iv wx=>∃ b:Nat,b≤nf∧iv=.int .i64 b∧Hid (FT wx w.heap.size fv ((A0 ++ (m.funs.take b).map (ftF d m)).map Prod.fst) tv ((A0 ++ (m.funs.take b).map (ftF d m)).map Prod.snd))∧Hid (OwnE wx w.heap.size (.slice (some ⟨w.heap.size,0,none⟩) 0 0) [])∧Hid (Below w.heap.size w wx)) (fun _ _ iv _=>nf - (intOf iv).toNat)
        case atStart=>exact ⟨0,Nat.zero_le _,rfl,by show FT _ _ _ _ _ _;simpa using ho.out,hoe,hb⟩
        case round =>
          obtain ⟨b,hbn,rfl,hft,hoe2,hb2⟩:=hrel
          clear ho hoe hb
          have a0:=(hb2.out.cell (p:=⟨g,off+a * 3,none⟩) HGL'.out).trans HA0.out.1
          have a1:=(hb2.out.cell (p:=⟨g,off+a * 3+1,none⟩) HGL'.out).trans HA0.out.2.1
          have a2:=(hb2.out.cell (p:=⟨g,off+a * 3+2,none⟩) HGL'.out).trans HA0.out.2.2
          by_cases hlb:b<nf
          · obtain ⟨f,hfk⟩:∃ f,m.funs[b]?=some f:=⟨m.funs[b]'(by rw [HN2.out];exact hlb),List.getElem?_eq_getElem _⟩
            obtain ⟨g5,o5,rfl,-,hgl5,hat5⟩:=HXF.out (by intro h;rw [h] at hfk;simp at hfk)
            obtain ⟨cs5,hcsl5,hcs5,hf5⟩:=hat5 b f hfk
            have HFF:Hid (∀ w',Below w.heap.size w w'→HFn w' All d cs5 f):=fun w' hw=>hf5.mono (SameOn.of_below hw) (fun _ h=>h)
            obtain ⟨cv,rfl,hfs,hfa,pc,qc,rfl,-⟩:=hf5
            have b0:=hcs5 0 (by omega)
            have b1:=hcs5 1 (by omega)
            have b2:=hcs5 2 (by omega)
            rw [← hb2.out.cell (p:=⟨g5,_,none⟩) hgl5] at b0 b1 b2
            simp at b0 b1 b2
            have hbi:(b:Int)<(nf:Int):=by omega
            have hbi0:(0:Int)≤(b:Int):=by omega
            have hwf:=HWF.out b f hfk
            have hfn:f.name.size≤1048576:=by unfold wtFn at hwf;omega
            have CN:Hid (∀ w',Calls Tryz.prog 16 #[.string m.name,.string f.name,.int .i64 f.arity] w' fun e w''=>e=.returned (.string (nmT m.name f.name f.arity))∧Below w'.heap.size w' w''):=fun w'=>specName_any w' m.name f.name f.arity hmn hfn hfa
            have CO:Hid (∀ w',Below w.heap.size w w'→Calls Tryz.prog 59 #[.agg #[.string m.name,.slice pe ne ce,.slice (some ⟨g5,o5,none⟩) nf cf],.agg #[.string f.name,.int .i64 f.arity,.slice pc f.clauses.length qc]] w' fun e w''=>∃ u,e=.returned u∧OwnS w'' w'.heap.size u (sortS (cF m d (bodiesOf f.clauses)))∧Below w'.heap.size w' w''):=fun w' hw'=>l05Of_any d w' _ m _ f (HMM.out w' hw') (HFF.out w' hw') hwf hmn
            have HTK:Hid ((A0 ++ (m.funs.take (b+1)).map (ftF d m))=(A0 ++ (m.funs.take b).map (ftF d m)) ++ [(nmT m.name f.name f.arity,sortS (cF m d (bodiesOf f.clauses)))]):=by
              show _=_
              rw [List.take_add_one,hfk];simp [ftF]
            have HLB:Hid ((A0 ++ (m.funs.take b).map (ftF d m)).length+1≤1048576):=by
              have h1:=HLL.out
              show _≤_
              rw [List.length_append,List.length_map,List.length_take];omega
            generalize hP:A0 ++ (m.funs.take b).map (ftF d m)=P at *
            generalize hNN:nmT m.name f.name f.arity=NN at *
            generalize hTT:sortS (cF m d (bodiesOf f.clauses))=TT at *
            generalize hcn:f.clauses.length=nc at *
            obtain ⟨W5,hW5⟩:∃ W5,W5=wr.alloc (.cells #[.string f.name,.int .i64 f.arity,.slice pc nc qc] 46):=⟨_,rfl⟩
            obtain ⟨bf,hbf⟩:∃ bf,bf=wr.heap.size:=⟨_,rfl⟩
            have K5:Hid (Below wr.heap.size wr W5):=by show Below _ _ _;rw [hW5];exact (Below.refl _ _).alloc (Nat.le_refl _) _
            have F5:Hid (Blk W5 bf #[.string f.name,.int .i64 f.arity,.slice pc nc qc] 46):=by show Blk _ _ _ _;rw [hW5,hbf];exact Blk.new
            have HW5:Hid (W5=wr.alloc (.cells #[.string f.name,.int .i64 f.arity,.slice pc nc qc] 46)):=hW5
            have HBF:Hid (wr.heap.size=bf):=hbf.symm
            clear hcs5 hcsl5 hat5 hP hNN hTT hcn hW5 hbf hfk hwf
            go_wp2_with fail
            rw [← HW5.out,HBF.out]
            have HB5:Hid (Below w.heap.size w W5):=hb2.out.trans (K5.out.mono hb2.out.size)
            clear a0 a1 a2 b0 b1 b2
            have a0:=(HB5.out.cell (p:=⟨g,off+a * 3,none⟩) HGL'.out).trans HA0.out.1
            have x0:=F5.out.cell 0 _ rfl
            have x1:=F5.out.cell 1 _ rfl
            have x2:=F5.out.cell 2 _ rfl
            have FT5:Hid (FT W5 w.heap.size u4 (P.map Prod.fst) u5 (P.map Prod.snd)):=hft.out.next K5.out
            have OE5:Hid (OwnE W5 w.heap.size (.slice (some ⟨w.heap.size,0,none⟩) 0 0) []):=hoe2.out.next K5.out
            have HPL:Hid ((P.map Prod.fst).length+1≤1048576):=by show _≤_;rw [List.length_map];exact HLB.out
            have HPT:Hid ((P.map Prod.snd).length+1≤1048576):=by show _≤_;rw [List.length_map];exact HLB.out
            generalize hPF:P.map Prod.fst=PF at *
            generalize hPT:P.map Prod.snd=PT at *
            have HPF:Hid (P.map Prod.fst=PF):=hPF
            have HPS:Hid (P.map Prod.snd=PT):=hPT
            clear hPF hPT
            go_region_law
              (first
                | (refine step_append_lies _ (by rfl) _ _ _ (by rfl) w.heap.size 9 i0 (.string ⟨#[]⟩) 1 16 Tryz.underlying24 hi hz0 hz1 hz2 rfl (by decide) u4 PF.length (strs PF) (by rfl) (FT6.out.fr.next ((Below.refl _ _).alloc (Nat.le_refl _) _)).1 ⟨w6.heap.size,0,none⟩ 1 1 (strs [NN]) (by rfl) (by rfl) (one_str w6 NN _ rfl) (strs_oneCell _) (by omega) (by have:=HPL.out;unfold maxLen;omega) (by have:=HPL.out;omega) (by rw [alloc_hs];have:=FT6.out.fr.2;omega) (w6.heap.size+1) (by rw [alloc_hs]) ?_;intro g9 cap9 w9 ho9 hg9 hl9 hlt9)
                | (go_simp;go_at_call 16;refine (CN.out _).mono ?_;rintro e w6 ⟨rfl,hb6⟩;have K6:Hid (Below W5.heap.size W5 w6):=⟨hb6.os,hb6.tape,hb6.output,hb6.size,hb6.block⟩;have FT6:Hid (FT w6 w.heap.size u4 PF u5 PT):=FT5.out.next K6.out;clear hb6;dsimp only))
            all_goals
              have bA:Below w6.heap.size w6 (w6.alloc (.cells #[.string NN] 9)):=(Below.refl _ _).alloc (Nat.le_refl _) _
              have OA:=FT6.out.fr.next bA
              have AP9:ApartE 9 w6 w9:=(ApartE.of_below bA).trans (ApartE.of_grown OA.1 hg9)
              have S9:w6.heap.size≤w9.heap.size:=Nat.le_trans bA.size hg9.size
              have FT9:Hid (FT w9 w.heap.size (.slice (some ⟨g9,0,none⟩) (PF.length+1) cap9) (PF ++ [NN]) u5 PT):=FT6.out.pushF (OwnS.of ho9 (by simp) rfl (Nat.le_trans OA.2 hg9.size)) (hl9.imp id (fun e=>by omega)) (fun j hj hne=>(hg9.block j (by rw [alloc_hs];omega) hne).trans (bA.block j hj)) AP9 S9
              have OE9:Hid (OwnE w9 w.heap.size (.slice (some ⟨w.heap.size,0,none⟩) 0 0) []):=OwnE.apart (OE5.out.next K6.out) AP9 S9 (by decide)
              have F9:Hid (Blk w9 bf #[.string f.name,.int .i64 f.arity,.slice pc nc qc] 46):=AP9.blk (F5.out.next K6.out) (by decide)
              have B9:Hid (Below w.heap.size w w9):=((HB5.out.trans (K6.out.mono HB5.out.size)).trans (bA.mono (Nat.le_trans HB5.out.size K6.out.size))).trans (OA.below hg9)
              clear ho9 hg9 hl9 hlt9 bA OA AP9 S9 a0 x0 x1 x2 FT5 OE5
              have a0:=(B9.out.cell (p:=⟨g,off+a * 3,none⟩) HGL'.out).trans HA0.out.1
              have a1:=(B9.out.cell (p:=⟨g,off+a * 3+1,none⟩) HGL'.out).trans HA0.out.2.1
              have a2:=(B9.out.cell (p:=⟨g,off+a * 3+2,none⟩) HGL'.out).trans HA0.out.2.2
              have x0:=F9.out.cell 0 _ rfl
              have x1:=F9.out.cell 1 _ rfl
              have x2:=F9.out.cell 2 _ rfl
              go_wp2_with fail
              go_region_law
                (first
                  | (refine step_append_own _ (by rfl) _ _ _ (by rfl) w.heap.size 24 j0 (.slice none 0 0) 1 24 Tryz.underlying100 hj hy0 hy1 hy2 rfl (by decide) u5 PT.length us (by rfl) (owns_next US.out ((Below.refl _ _).alloc (Nat.le_refl _) _)) ⟨w10.heap.size,0,none⟩ 1 1 [.slice pt TT.length qt] (by rfl) (by rfl) (World.news_of_block (cs:=#[.slice pt TT.length qt]) (t:=24) (fr:=(0,0)) (heap_alloc_new w10 _)) OC.out (by have:=HPT.out;unfold maxLen;omega) (by have:=HPT.out;omega) (by rw [alloc_hs];have:=FT10.out.fr.2;omega) ?_;intro v12 w12 ho12 hg12 _)
                  | (go_simp;go_at_call 59;refine (CO.out _ (by exact B9.out.drew)).mono ?_;rintro e w10 ⟨ut,rfl,ot,hb10⟩;obtain ⟨pt,qt,rfl⟩:=OwnS.slice ot;have K10:Hid (Below w9.heap.size w9 w10):=⟨hb10.os,hb10.tape,hb10.output,hb10.size,hb10.block⟩;have OT:Hid (OwnS w10 w9.heap.size (.slice pt TT.length qt) TT):=ot;have FT10:Hid (FT w10 w.heap.size (.slice (some ⟨g9,0,none⟩) (PF.length+1) cap9) (PF ++ [NN]) u5 PT):=FT9.out.next K10.out;clear hb10 ot;obtain ⟨us,hus,-⟩:=FT10.out.to;have US:Hid (w10.ownsRow w.heap.size 24 1 u5 PT.length us):=hus;have OC:Hid (∀ u ∈ [Value.slice pt TT.length qt],u.oneCell'=true):=OwnS.oneC OT.out;clear hus;dsimp only))
              all_goals
                have bA:Below w10.heap.size w10 (w10.alloc (.cells #[.slice pt TT.length qt] 24)):=(Below.refl _ _).alloc (Nat.le_refl _) _
                have OA:=owns_next US.out bA
                have AP12:ApartE 24 w10 w12:=(ApartE.of_below bA).trans (ApartE.of_grown OA hg12)
                have S12:w10.heap.size≤w12.heap.size:=Nat.le_trans bA.size hg12.size
                have HUD:∀ gg,(Value.slice pt TT.length qt).ownBlock=some gg→(Value.slice (some ⟨g9,0,none⟩) (PF.length+1) cap9).ownBlock≠some gg:=fun gg hgg e=>by
                  have h1:=(OT.out.off hgg).1
                  have h2:=(FT9.out.fr.off e).2
                  omega
                have FT12:Hid (FT w12 w.heap.size (.slice (some ⟨g9,0,none⟩) (PF.length+1) cap9) (PF ++ [NN]) v12 (PT ++ [TT])):=FT10.out.pushT (OwnS.base OT.out B9.out.size) HUD (fun us' h'=>by
                  have e1:=owns_next h' bA
                  have e2:us'=us:=owns_same h' US.out
                  rw [e2];exact ho12) AP12 S12
                have OE12:Hid (OwnE w12 w.heap.size (.slice (some ⟨w.heap.size,0,none⟩) 0 0) []):=OwnE.apart (OE9.out.next K10.out) AP12 S12 (by decide)
                have B12:Hid (Below w.heap.size w w12):=((B9.out.trans (K10.out.mono B9.out.size)).trans (bA.mono (Nat.le_trans B9.out.size K10.out.size))).trans (owns_below OA hg12 (by rw [alloc_hs];have:=FT10.out.fr.2;omega))
                clear ho12 hg12 bA OA AP12 S12 HUD a0 a1 a2 x0 x1 x2 FT9 OE9 F9 B9
                go_wp2_with fail
                refine ⟨⟨b+1,by omega,by go_num,?_,OE12,B12⟩,by simp [intOf];omega⟩
                show FT _ _ _ _ _ _
                rw [HTK.out,List.map_append,List.map_append,HPF.out,HPS.out]
                exact FT12.out
          · have HFE:Hid (FT wr w.heap.size u4 (((ms.take (a+1)).flatMap (ftM d)).map Prod.fst) u5 (((ms.take (a+1)).flatMap (ftM d)).map Prod.snd)):=by
              have h1:=hft.out
              rw [List.take_of_length_le (by rw [HN2.out];omega),← HJJ.out] at h1
              exact h1
            go_wp2_with fail
            exact ⟨⟨a+1,by omega,by go_num,HFE,hoe2,hb2⟩,by simp [intOf];omega⟩
      · have HFE:Hid (FT wr w.heap.size u4 ((ms.flatMap (ftM d)).map Prod.fst) u5 ((ms.flatMap (ftM d)).map Prod.snd)):=by
          have h1:=ho.out
          rw [List.take_of_length_le (by rw [HN.out];omega)] at h1
          exact h1
        clear ho HX HWM HMS HG
        generalize hft:ms.flatMap (ftM d)=ft at *
        have HFL:Hid ((ft.map Prod.fst).length≤2097152):=by show _≤_;rw [List.length_map];exact Nat.le_trans HLEN.out (by omega)
        go_wp2_with fail
        refine (sorted_any _ _ _ (HFE.out.fr.strR HOK.out) HFL.out).mono ?_
        rintro e w3 ⟨un,rfl,on,hb3⟩
        obtain ⟨pn,qn,rfl⟩:=OwnS.slice on
        have FT3:Hid (FT w3 w.heap.size u4 (ft.map Prod.fst) u5 (ft.map Prod.snd)):=HFE.out.next hb3
        have OE3:Hid (OwnE w3 w.heap.size (.slice (some ⟨w.heap.size,0,none⟩) 0 0) []):=hoe.out.next hb3
        have ON3:Hid (OwnS w3 w.heap.size (.slice pn (sortS (ft.map Prod.fst)).length qn) (sortS (ft.map Prod.fst))):=OwnS.base on hb.out.size
        have B3:Hid (Below w.heap.size w w3):=hb.out.trans (hb3.mono hb.out.size)
        obtain ⟨pr,qr,rfl⟩:=OwnS.slice FT3.out.fr
        obtain ⟨pt,qt,rfl,hmt⟩:∃ p q,u5=.slice p (ft.map Prod.snd).length q∧(ft.map Prod.snd).length≤maxLen:=by
          obtain ⟨us,h1,_⟩:=FT3.out.to
          exact owns_slice h1
        have HTE:Hid (graphL d ms=(sortS (ft.map Prod.fst)).flatMap (tlE ft)):=HGL.out
        have hNL:(sortS (ft.map Prod.fst)).length≤1048576:=by
          have e1:=sortS_len (ft.map Prod.fst) (ft.map Prod.fst).length
          rw [List.take_of_length_le (Nat.le_refl _),List.length_map] at e1
          exact Nat.le_trans e1 HLEN.out
        generalize hNS:sortS (ft.map Prod.fst)=NS at *
        have hFR:(ft.map Prod.fst).length=ft.length:=List.length_map ..
        have hTS:(ft.map Prod.snd).length=ft.length:=List.length_map ..
        rw [hFR,hTS] at FT3
        rw [hFR,hTS]
        have hfl:ft.length≤1048576:=HLEN.out
        generalize hnf:ft.length=nf at *
        have HNF:Hid (ft.length=nf):=hnf
        generalize hnn:NS.length=nn at *
        have HNN:Hid (NS.length=nn):=hnn
        clear hlt hb3 on HFE hoe hb hft hNS hFR hTS hnf hnn hmt HGL HFL HLEN HOK
        go_wp2_with fail
        go_loopw [3,10] (fun ov iv wx=>∃ i:Nat,i≤nn∧iv=.int .i64 i∧Hid (OwnE wx w.heap.size ov ((NS.take i).flatMap (tlE ft)))∧Hid (FT wx w.heap.size (.slice pr nf qr) (ft.map Prod.fst) (.slice pt nf qt) (ft.map Prod.snd))∧Hid (OwnS wx w.heap.size (.slice pn nn qn) NS)∧Hid (Below w.heap.size w wx)) (fun _ iv _=>nn - (intOf iv).toNat)
        case atStart=>exact ⟨0,Nat.zero_le _,rfl,by show OwnE _ _ _ _;simpa using OE3.out,FT3,ON3,B3⟩
        case round =>
          obtain ⟨i,hin,rfl,oe,ft4,on4,b4⟩:=hrel
          clear OE3 FT3 ON3 B3
          by_cases hli:i<nn
          · obtain ⟨N,hNi⟩:∃ N,NS[i]?=some N:=⟨NS[i]'(by rw [HNN.out];exact hli),List.getElem?_eq_getElem _⟩
            have hii:(i:Int)<(nn:Int):=by omega
            have hi0:(0:Int)≤(i:Int):=by omega
            have HNI:Hid (NS[i]?=some N):=hNi
            have HT1:Hid ((NS.take (i+1)).flatMap (tlE ft)=(NS.take i).flatMap (tlE ft) ++ ft.flatMap (tlP N)):=by
              show _=_
              rw [List.take_add_one,hNi];simp [tlE_eq]
            have HLA:Hid (((NS.take i).flatMap (tlE ft)).length+1048576≤1048576 * 1048576+1048576):=by
              have h1:=flat_mul (tlE ft) (sumT ft) (fun x=>tlF_len x ft) (NS.take i)
              have h2:(NS.take i).length * sumT ft≤1048576 * 1048576:=Nat.mul_le_mul (by rw [List.length_take];omega) HWS.out
              show _≤_
              omega
            generalize hA:(NS.take i).flatMap (tlE ft)=A at *
            clear hA hNi
            go_wp2_with fail
            go_loopw [3,11] (fun ov iv wx=>∃ k:Nat,k≤nf∧iv=.int .i64 k∧Hid (OwnE wx w.heap.size ov (A ++ (ft.take k).flatMap (tlP N)))∧Hid (FT wx w.heap.size (.slice pr nf qr) (ft.map Prod.fst) (.slice pt nf qt) (ft.map Prod.snd))∧Hid (OwnS wx w.heap.size (.slice pn nn qn) NS)∧Hid (Below w.heap.size w wx)) (fun _ iv _=>nf - (intOf iv).toNat)
            case atStart=>exact ⟨0,Nat.zero_le _,rfl,by show OwnE _ _ _ _;simpa using oe.out,ft4,on4,b4⟩
            case round =>
              obtain ⟨k,hkn,rfl,oe5,ft5,on5,b5⟩:=hrel
              clear oe ft4 on4 b4
              by_cases hlk:k<nf
              · obtain ⟨P,hPk⟩:∃ P,ft[k]?=some P:=⟨ft[k]'(by rw [HNF.out];exact hlk),List.getElem?_eq_getElem _⟩
                obtain ⟨S,T⟩:=P
                have hkk:(k:Int)<(nf:Int):=by omega
                have hk0:(0:Int)≤(k:Int):=by omega
                have HS1:Hid ((ft.map Prod.fst)[k]?=some S):=by show _=_;rw [List.getElem?_map,hPk];rfl
                have HS2:Hid ((ft.map Prod.snd)[k]?=some T):=by show _=_;rw [List.getElem?_map,hPk];rfl
                have HT2:Hid (A ++ (ft.take (k+1)).flatMap (tlP N)=(A ++ (ft.take k).flatMap (tlP N)) ++ tlP N (S,T)):=by
                  show _=_
                  rw [List.take_add_one,hPk];simp
                have HLB:Hid ((A ++ (ft.take k).flatMap (tlP N)).length+T.length≤1048576 * 1048576+1048576):=by
                  have h1:=HLA.out
                  have h2:=tlF_len N (ft.take k)
                  have h3:=HWS.out
                  have h4:((ft.take (k+1)).map fun p=>p.2.length).sum=((ft.take k).map fun p=>p.2.length).sum+T.length:=sum_take_succ (fun p:ByteArray × List ByteArray=>p.2.length) ft k (S,T) hPk
                  have h5:=sum_take_le (fun p:ByteArray × List ByteArray=>p.2.length) ft (k+1)
                  unfold sumT at h2 h3
                  show _≤_
                  rw [List.length_append]
                  omega
                have HTL:Hid (T.length≤1048576):=by
                  have h3:=HWS.out
                  have h4:((ft.take (k+1)).map fun p=>p.2.length).sum=((ft.take k).map fun p=>p.2.length).sum+T.length:=sum_take_succ (fun p:ByteArray × List ByteArray=>p.2.length) ft k (S,T) hPk
                  have h5:=sum_take_le (fun p:ByteArray × List ByteArray=>p.2.length) ft (k+1)
                  unfold sumT at h3
                  show _≤_
                  omega
                generalize hA2:A ++ (ft.take k).flatMap (tlP N)=A2 at *
                clear hA2 hPk
                go_wp2_with fail
                go_loopw [3,12] (fun ov iv wx=>∃ j:Nat,j≤T.length∧iv=.int .i64 j∧Hid (OwnE wx w.heap.size ov (A2 ++ tlP N (S,T.take j)))∧Hid (FT wx w.heap.size (.slice pr nf qr) (ft.map Prod.fst) (.slice pt nf qt) (ft.map Prod.snd))∧Hid (OwnS wx w.heap.size (.slice pn nn qn) NS)∧Hid (Below w.heap.size w wx)) (fun _ iv _=>T.length - (intOf iv).toNat)
                case atStart=>exact ⟨0,Nat.zero_le _,rfl,by show OwnE _ _ _ _;simpa [tlP] using oe5.out,ft5,on5,b5⟩
                case round =>
                  obtain ⟨j,hjn,rfl,oe6,ft6,on6,b6⟩:=hrel
                  clear oe5 ft5 on5 b5
                  obtain ⟨us,hus,hto⟩:=ft6.out.to
                  obtain ⟨u,hu,ou,-⟩:=hto k T HS2.out
                  have hml:(ft.map Prod.snd).length=nf:=by rw [List.length_map];exact HNF.out
                  rw [hml] at hus
                  obtain ⟨gr,rfl,c1⟩:=ft6.out.fr.at HS1.out
                  obtain ⟨gt,rfl,c2⟩:=owns_at hus hu
                  obtain ⟨gn,rfl,c3⟩:=on6.out.at HNI.out
                  obtain ⟨pu,qu,rfl⟩:=OwnS.slice ou
                  have hT:=HTL.out
                  have OU:Hid (OwnS wr w.heap.size (.slice pu T.length qu) T):=ou
                  have USr:Hid (wr.ownsRow w.heap.size 24 1 (.slice (some ⟨gt,0,none⟩) nf qt) nf us):=hus
                  have HU:Hid (us[k]?=some (.slice pu T.length qu)):=hu
                  clear hus hto hu ou hml
                  by_cases hlj:j<T.length
                  · obtain ⟨t,htj⟩:∃ t,T[j]?=some t:=⟨T[j],List.getElem?_eq_getElem _⟩
                    have hji:(j:Int)<(T.length:Int):=by omega
                    have hj0:(0:Int)≤(j:Int):=by omega
                    by_cases hSN:S=N
                    · subst hSN
                      have hsb:(S.toList == S.toList)=true:=by simp
                      obtain ⟨gu,rfl,c4⟩:=OU.out.at htj
                      go_wp2_with fail
                      go_quiet (fail)
                      have KD:Hid (Below wr.heap.size wr (wr.drewN nq)):=⟨rfl,rfl,rfl,Nat.le_refl _,fun _ _=>rfl⟩
                      have FTq:Hid (FT (wr.drewN nq) w.heap.size (.slice (some ⟨gr,0,none⟩) nf qr) (ft.map Prod.fst) (.slice (some ⟨gt,0,none⟩) nf qt) (ft.map Prod.snd)):=ft6.out.next KD.out
                      have ONq:Hid (OwnS (wr.drewN nq) w.heap.size (.slice (some ⟨gn,0,none⟩) nn qn) NS):=on6.out.next KD.out
                      have OUq:Hid (OwnS (wr.drewN nq) w.heap.size (.slice (some ⟨gu,0,none⟩) T.length qu) T):=OU.out.next KD.out
                      have OEq:Hid (OwnE (wr.drewN nq) w.heap.size u3 (A2 ++ tlP S (S,T.take j))):=oe6.out.next KD.out
                      have Bq:Hid (Below w.heap.size w (wr.drewN nq)):=b6.out.trans (KD.out.mono b6.out.size)
                      generalize wr.drewN nq=wq at *
                      clear oe6 ft6 on6 b6 OU c1 c2 c3 c4
                      have USq:Hid (wq.ownsRow w.heap.size 24 1 (.slice (some ⟨gt,0,none⟩) nf qt) nf us):=owns_next USr.out KD.out
                      have CLS:Hid (∀ w9,ApartE 70 wq w9→w9.cell? ⟨gn,i,none⟩=some (.string S)∧w9.cell? ⟨gt,k,none⟩=some (.slice (some ⟨gu,0,none⟩) T.length qu)∧w9.cell? ⟨gu,j,none⟩=some (.string t)):=fun w9 ha=>by
                        have h1:w9.ownsRow w.heap.size 9 1 (.slice (some ⟨gn,0,none⟩) nn qn) NS.length (strs NS):=ha.owns ONq.out.1 (by decide)
                        have h2:w9.ownsRow w.heap.size 24 1 (.slice (some ⟨gt,0,none⟩) nf qt) nf us:=ha.owns USq.out (by decide)
                        have h3:w9.ownsRow w.heap.size 9 1 (.slice (some ⟨gu,0,none⟩) T.length qu) T.length (strs T):=ha.owns OUq.out.1 (by decide)
                        rw [HNN.out] at h1
                        refine ⟨(h1.cellAt i (by omega)).trans (by rw [strs,List.getElem?_map,HNI.out];rfl),(h2.cellAt k (by omega)).trans HU.out,(h3.cellAt j (by omega)).trans (by rw [strs,List.getElem?_map,htj];rfl)⟩
                      have bA:Below wq.heap.size wq (wq.alloc (.cells #[.string S,.string t] 70)).drew:=((Below.refl _ _).alloc (Nat.le_refl _) _).drew
                      have OA:Hid (OwnE (wq.alloc (.cells #[.string S,.string t] 70)).drew w.heap.size u3 (A2 ++ tlP S (S,T.take j))):=OEq.out.next bA
                      have HGA:Hid ((wq.alloc (.cells #[.string S,.string t] 70)).drew.heap[wq.heap.size]?=some (Obj.cells #[.string S,.string t] 70 (0,0))):=heap_alloc_new wq _
                      have AA:Hid (ApartE 70 wq (wq.alloc (.cells #[.string S,.string t] 70)).drew):=ApartE.of_below bA
                      have BA:Hid (Below w.heap.size w (wq.alloc (.cells #[.string S,.string t] 70)).drew):=Bq.out.trans (bA.mono Bq.out.size)
                      have HLJ:Hid ((A2 ++ tlP S (S,T.take j)).length+1≤2199023255552):=by
                        have h1:=HLB.out
                        have h2:=tlP_len S (S,T.take j)
                        have h3:(T.take j).length≤T.length:=by rw [List.length_take];omega
                        show _≤_
                        rw [List.length_append]
                        simp only at h2
                        omega
                      have HJJ:Hid (A2 ++ tlP S (S,T.take (j+1))=(A2 ++ tlP S (S,T.take j)) ++ [(S,t)]):=by
                        show _=_
                        unfold tlP
                        rw [if_pos rfl,if_pos rfl,List.take_add_one,htj]
                        simp
                      obtain ⟨y1,y2,y3⟩:=CLS.out wq (ApartE.refl _ _)
                      generalize hA3:A2 ++ tlP S (S,T.take j)=A3 at *
                      clear bA hA3 htj
                      go_wp2_with fail
                      go_region_held3 (fun w'=>w'.cell? ⟨gn,i,none⟩=some (.string S)∧w'.cell? ⟨gt,k,none⟩=some (.slice (some ⟨gu,0,none⟩) T.length qu)∧w'.cell? ⟨gu,j,none⟩=some (.string t))
                        (first | go_keep | (go_split_ands;refine ⟨?_,?_,?_⟩ <;> exact cell_next ((Below.refl _ _).alloc (Nat.le_refl _) _) (by assumption)) | exact nx9)
                        (first
                          | (refine step_append_pair (by rfl) _ _ (by rfl) OA.out wq.heap.size (S,t) HGA.out (by rfl) (by rfl) HLJ.out ?_;intro v9 w9 ho9 hb9 hap9;have nx9:=CLS.out w9 (AA.out.trans hap9)))
                      all_goals
                        have AP9:ApartE 70 wq w9:=AA.out.trans hap9
                        have S9:wq.heap.size≤w9.heap.size:=Nat.le_trans (by show _≤(wq.alloc _).heap.size;rw [alloc_hs];omega) hb9.size
                        have HO9:Hid (OwnE w9 w.heap.size v9 (A2 ++ tlP S (S,T.take (j+1)))):=by show OwnE _ _ _ _;rw [HJJ.out];exact ho9
                        have FT9:Hid (FT w9 w.heap.size (.slice (some ⟨gr,0,none⟩) nf qr) (ft.map Prod.fst) (.slice (some ⟨gt,0,none⟩) nf qt) (ft.map Prod.snd)):=FTq.out.apart AP9 S9 (by decide) (by decide)
                        have ON9:Hid (OwnS w9 w.heap.size (.slice (some ⟨gn,0,none⟩) nn qn) NS):=ONq.out.apart AP9 S9 (by decide)
                        have B9:Hid (Below w.heap.size w w9):=BA.out.trans hb9
                        clear ho9 hb9 hap9 AP9 S9
                        go_wp2_with fail
                        exact ⟨⟨j+1,by omega,by go_num,HO9,FT9,ON9,B9⟩,by simp [intOf];omega⟩
                    · have hsb:(S.toList == N.toList)=false:=by simpa using str_ne hSN
                      have HZ:Hid (A2 ++ tlP N (S,T.take j)=A2 ++ tlP N (S,T)):=by show _=_;unfold tlP;rw [if_neg hSN,if_neg hSN]
                      go_wp2_with fail
                      go_quiet (fail)
                      have KD:Hid (Below wr.heap.size wr (wr.drewN nq)):=⟨rfl,rfl,rfl,Nat.le_refl _,fun _ _=>rfl⟩
                      have FTq:Hid (FT (wr.drewN nq) w.heap.size (.slice (some ⟨gr,0,none⟩) nf qr) (ft.map Prod.fst) (.slice (some ⟨gt,0,none⟩) nf qt) (ft.map Prod.snd)):=ft6.out.next KD.out
                      have ONq:Hid (OwnS (wr.drewN nq) w.heap.size (.slice (some ⟨gn,0,none⟩) nn qn) NS):=on6.out.next KD.out
                      have OEq:Hid (OwnE (wr.drewN nq) w.heap.size u3 (A ++ (ft.take (k+1)).flatMap (tlP N))):=by show OwnE _ _ _ _;rw [HT2.out,← HZ.out];exact oe6.out.next KD.out
                      have Bq:Hid (Below w.heap.size w (wr.drewN nq)):=b6.out.trans (KD.out.mono b6.out.size)
                      generalize wr.drewN nq=wq at *
                      clear oe6 ft6 on6 b6 OU c1 c2 c3
                      go_wp2_with fail
                      exact ⟨⟨k+1,by omega,by go_num,OEq,FTq,ONq,Bq⟩,by simp [intOf];omega⟩
                  · have hji:¬ (j:Int)<(T.length:Int):=by omega
                    have HZ:Hid (A2 ++ tlP N (S,T.take j)=A2 ++ tlP N (S,T)):=by show _=_;rw [List.take_of_length_le (by omega)]
                    go_wp2_with fail
                    go_quiet (fail)
                    have KD:Hid (Below wr.heap.size wr (wr.drewN nq)):=⟨rfl,rfl,rfl,Nat.le_refl _,fun _ _=>rfl⟩
                    have FTq:Hid (FT (wr.drewN nq) w.heap.size (.slice (some ⟨gr,0,none⟩) nf qr) (ft.map Prod.fst) (.slice (some ⟨gt,0,none⟩) nf qt) (ft.map Prod.snd)):=ft6.out.next KD.out
                    have ONq:Hid (OwnS (wr.drewN nq) w.heap.size (.slice (some ⟨gn,0,none⟩) nn qn) NS):=on6.out.next KD.out
                    have OEq:Hid (OwnE (wr.drewN nq) w.heap.size u3 (A ++ (ft.take (k+1)).flatMap (tlP N))):=by show OwnE _ _ _ _;rw [HT2.out,← HZ.out];exact oe6.out.next KD.out
                    have Bq:Hid (Below w.heap.size w (wr.drewN nq)):=b6.out.trans (KD.out.mono b6.out.size)
                    generalize wr.drewN nq=wq at *
                    clear oe6 ft6 on6 b6 OU c1 c2 c3
                    go_wp2_with fail
                    exact ⟨⟨k+1,by omega,by go_num,OEq,FTq,ONq,Bq⟩,by simp [intOf];omega⟩
              · have OE9:Hid (OwnE wr w.heap.size u3 ((NS.take (i+1)).flatMap (tlE ft))):=by
                  have h1:=oe5.out
                  rw [List.take_of_length_le (by rw [HNF.out];omega),← HT1.out] at h1
                  exact h1
                go_wp2_with fail
                exact ⟨⟨i+1,by omega,by go_num,OE9,ft5,on5,b5⟩,by simp [intOf];omega⟩
          · have OE9:Hid (OwnE wr w.heap.size u3 (graphL d ms)):=by
              have h1:=oe.out
              rw [List.take_of_length_le (by rw [HNN.out];omega),← HTE.out] at h1
              exact h1
            go_wp2_with fail
            go_ret
            exact ⟨_,rfl,OE9.out,b4.out⟩
section
def Rch (E:List Edge) (X:List ByteArray) (y:ByteArray):Prop:=∀ S:ByteArray→Prop,(∀ x ∈ X,S x)→(∀ e ∈ E,S e.1→S e.2)→S y
section
variable {E:List Edge} {X N:List ByteArray}
theorem Rch.root {x:ByteArray} (h:x ∈ X):Rch E X x:=fun S h1 _=>h1 x h
theorem Rch.step {e:Edge} (h:Rch E X e.1) (he:e ∈ E):Rch E X e.2:=fun S h1 h2=>h2 e he (h S h1 h2)
theorem nodup_le:∀ (T N:List ByteArray),T.Nodup→(∀ y ∈ T,y ∈ N)→T.length≤N.length
  | [],_,_,_=>Nat.zero_le _
  | y :: T,N,hn,hs=>by
    obtain ⟨h1,h2⟩:=List.nodup_cons.1 hn
    obtain ⟨a,b,rfl⟩:=List.append_of_mem (hs y List.mem_cons_self)
    have ih:=nodup_le T (a ++ b) h2 (fun z hz=>by
      have h3:=hs z (List.mem_cons_of_mem _ hz)
      have hne:z≠y:=fun e=>h1 (by rw [← e];exact hz)
      simp only [List.mem_append,List.mem_cons] at h3 ⊢
      rcases h3 with h3 | h3 | h3
      · exact .inl h3
      · exact absurd h3 hne
      · exact .inr h3)
    simp only [List.length_append,List.length_cons] at ih ⊢
    omega
theorem hasS_iff (l:List ByteArray) (s:ByteArray):hasS l s=true ↔ s ∈ l:=by
  unfold hasS
  rw [List.any_eq_true]
  constructor
  · rintro ⟨x,hx,he⟩
    have e:x=s:=Classical.byContradiction fun hn=>str_ne hn (by simpa using he)
    exact e ▸ hx
  · intro h
    exact ⟨s,h,by simp⟩
theorem onceS_one (l:List ByteArray) (s:ByteArray):(s ∈ l∧onceS l [s]=l)∨(s ∉ l∧onceS l [s]=l ++ [s]):=by
  cases hh:hasS l s with
  | true=>exact .inl ⟨(hasS_iff l s).1 hh,by simp [onceS,hh]⟩
  | false=>exact .inr ⟨fun h=>(by rw [(hasS_iff l s).2 h] at hh;cases hh),by simp [onceS,hh]⟩
structure BfsI (E:List Edge) (X N:List ByteArray) (i k:Nat) (out:List ByteArray):Prop where
  tail:∃ T,out=X ++ T∧T.Nodup∧∀ y ∈ T,y ∈ N
  sound:∀ y ∈ out,Rch E X y
  shut:∀ j y,out[j]?=some y→∀ m e,E[m]?=some e→(j<i∨(j=i∧m<k))→e.1=y→e.2 ∈ out
theorem BfsI.start:BfsI E X N 0 0 X:=⟨⟨[],by simp,List.nodup_nil,fun y h=>by cases h⟩,fun y h=>Rch.root h,fun j y _ m e _ h=>by omega⟩
theorem BfsI.len {i k:Nat} {out:List ByteArray} (h:BfsI E X N i k out):out.length≤X.length+N.length:=by
  obtain ⟨T,rfl,h1,h2⟩:=h.tail
  have:=nodup_le T N h1 h2
  rw [List.length_append];omega
theorem BfsI.skip {i k:Nat} {out:List ByteArray} {e:Edge} {y:ByteArray} (h:BfsI E X N i k out) (he:E[k]?=some e) (hy:out[i]?=some y) (hne:e.1≠y):BfsI E X N i (k+1) out :=
  ⟨h.tail,h.sound,fun j z hz m e' he' hd heq=>by
    by_cases hjk:j=i∧m=k
    · obtain ⟨rfl,rfl⟩:=hjk
      rw [he] at he';cases he'
      rw [hy] at hz;cases hz
      exact absurd heq hne
    · exact h.shut j z hz m e' he' (by omega) heq⟩
theorem BfsI.take {i k:Nat} {out:List ByteArray} {e:Edge} {y:ByteArray} (h:BfsI E X N i k out) (he:E[k]?=some e) (hy:out[i]?=some y) (hq:e.1=y) (hN:e.2 ∈ N):BfsI E X N i (k+1) (onceS out [e.2]):=by
  have hi:=(List.getElem?_eq_some_iff.1 hy).1
  have hr:Rch E X e.2:=Rch.step (by rw [hq];exact h.sound y (List.mem_of_getElem? hy)) (List.mem_of_getElem? he)
  rcases onceS_one out e.2 with ⟨h1,h2⟩ | ⟨h1,h2⟩
  · rw [h2]
    exact ⟨h.tail,h.sound,fun j z hz m e' he' hd heq=>by
      by_cases hjk:j=i∧m=k
      · obtain ⟨rfl,rfl⟩:=hjk
        rw [he] at he';cases he'
        exact h1
      · exact h.shut j z hz m e' he' (by omega) heq⟩
  · rw [h2]
    obtain ⟨T,hT,t1,t2⟩:=h.tail
    refine ⟨⟨T ++ [e.2],by rw [hT,List.append_assoc],?_,fun z hz=>?_⟩,fun z hz=>?_,fun j z hz m e' he' hd heq=>?_⟩
    · rw [List.nodup_append]
      refine ⟨t1,by simp,fun a ha b hb=>?_⟩
      obtain rfl:=List.mem_singleton.1 hb
      intro e1
      exact h1 (by rw [hT,← e1];exact List.mem_append_right _ ha)
    · rcases List.mem_append.1 hz with hz | hz
      · exact t2 z hz
      · obtain rfl:=List.mem_singleton.1 hz;exact hN
    · rcases List.mem_append.1 hz with hz | hz
      · exact h.sound z hz
      · obtain rfl:=List.mem_singleton.1 hz;exact hr
    · have hjl:j<out.length:=by omega
      rw [List.getElem?_append_left hjl] at hz
      by_cases hjk:j=i∧m=k
      · obtain ⟨rfl,rfl⟩:=hjk
        rw [he] at he';cases he'
        exact List.mem_append_right _ (by simp)
      · exact List.mem_append_left _ (h.shut j z hz m e' he' (by omega) heq)
theorem BfsI.next {i:Nat} {out:List ByteArray} (h:BfsI E X N i E.length out):BfsI E X N (i+1) 0 out :=
  ⟨h.tail,h.sound,fun j z hz m e' he' hd heq=>h.shut j z hz m e' he' (by have:=(List.getElem?_eq_some_iff.1 he').1;omega) heq⟩
theorem BfsI.done {i k:Nat} {out:List ByteArray} (h:BfsI E X N i k out) (hi:out.length≤i) (y:ByteArray):y ∈ out ↔ Rch E X y:=by
  refine ⟨h.sound y,fun hr=>hr (fun z=>z ∈ out) (fun x hx=>?_) (fun e he hz=>?_)⟩
  · obtain ⟨T,rfl,_⟩:=h.tail
    exact List.mem_append_left _ hx
  · obtain ⟨j,hj⟩:=List.mem_iff_getElem?.1 hz
    obtain ⟨m,hm⟩:=List.mem_iff_getElem?.1 he
    have:=(List.getElem?_eq_some_iff.1 hj).1
    exact h.shut j _ hj m e hm (by omega) rfl
end
/-! The names of a program. -/
def namesL (d:Nat) (ms:List Md):List ByteArray:=(ftOf nmT d ms).map Prod.fst
def expF (m:Md) (r:Rf):ByteArray:=nmT m.name r.name r.arity
def expM (m:Md):List ByteArray:=m.exports.map (expF m)
def expL (ms:List Md):List ByteArray:=ms.flatMap expM
theorem names_mem {d:Nat} {ms:List Md} {m:Md} {f:Fn'} (hm:m ∈ ms) (hf:f ∈ m.funs):nmT m.name f.name f.arity ∈ namesL d ms:=by
  unfold namesL
  rw [ftOf_eq,List.map_flatMap]
  refine List.mem_flatMap.2 ⟨m,hm,?_⟩
  unfold ftM
  rw [List.map_map]
  exact List.mem_map.2 ⟨f,hf,rfl⟩
theorem str_eq {a b:ByteArray} (h:a.toList=b.toList):a=b:=Classical.byContradiction fun hn=>str_ne hn h
theorem hasF_name {d:Nat} {ms:List Md} {m:Md} (hm:m ∈ ms) {s:ByteArray} {n:Int} (h:hasF m s n=true):nmT m.name s n ∈ namesL d ms:=by
  unfold hasF at h
  obtain ⟨f,hf,hs⟩:=List.any_eq_true.1 h
  simp only [sameR,Bool.and_eq_true,beq_iff_eq] at hs
  have e1:f.name=s:=str_eq (by simp [hs.1])
  have e2:f.arity=n:=by simp [hs.2]
  rw [← e1,← e2]
  exact names_mem hm hf
theorem onceS_nil:∀ (C l:List ByteArray),onceS l C = []→l = []∧C = []
  | [],l,h=>⟨h,rfl⟩
  | y :: C,l,h=>by
    have h1:=(onceS_nil C _ h).1
    split at h1
    · rename_i hh
      subst h1
      simp [hasS] at hh
    · simp at h1
theorem flatMap_nil {α β:Type} {f:α→List β} {l:List α} (h:l.flatMap f = []):∀ x ∈ l,f x = []:=fun x hx=>by
  rw [List.flatMap_eq_nil_iff] at h
  exact h x hx
theorem good_mod {d:Nat} {ms:List Md} (h:goodB d ms=true) {m:Md} (hm:m ∈ ms):(∀ r ∈ m.exports,hasF m r.name r.arity=true)∧∀ f ∈ m.funs,∀ x ∈ bodiesOf f.clauses,codesX ms m d x = []:=by
  unfold goodB checkP at h
  simp only [Bool.and_eq_true,List.isEmpty_iff] at h
  rw [if_pos h.1] at h
  have h1:=flatMap_nil h.2 m hm
  unfold modP at h1
  obtain ⟨h2,h3⟩:=List.append_eq_nil_iff.1 h1
  refine ⟨fun r hr=>?_,fun f hf x hx=>?_⟩
  · have:=flatMap_nil h2 r hr
    unfold exportP at this
    split at this
    · assumption
    · cases this
  · have h4:=flatMap_nil h3 f hf
    unfold funP at h4
    have h5:=List.map_eq_nil_iff.1 h4
    unfold funC at h5
    rw [foldC_once] at h5
    exact flatMap_nil (onceS_nil _ _ h5).2 x hx
theorem calls_names {d0:Nat} {ms:List Md} {m:Md} (hm:m ∈ ms):∀ (d:Nat) (x:Ex),codesX ms m d x = []→∀ t ∈ callsX nmT m d x,t ∈ namesL d0 ms
  | 0,_,_,t,ht=>by cases ht
  | d+1,x,h,t,ht=>by
    unfold codesX at h
    obtain ⟨h1,h2⟩:=List.append_eq_nil_iff.1 h
    unfold callsX at ht
    rcases List.mem_append.1 ht with ht | ht
    · unfold toL at ht
      split at ht
      · rename_i hk
        unfold callL at h1
        rw [if_pos hk] at h1
        split at h1
        · rename_i hc
          unfold callC at hc
          split at ht
          · rename_i hmod
            split at ht
            · rename_i hF
              obtain rfl:=List.mem_singleton.1 ht
              exact hasF_name hm hF
            · cases ht
          · rename_i hmod
            rw [if_neg hmod] at hc
            obtain rfl:=List.mem_singleton.1 ht
            split at hc
            · rename_i hO
              unfold offersB at hO
              split at hO
              · cases hO
              · rename_i q hq
                simp only [Bool.and_eq_true] at hO
                have hqm:=List.mem_of_find?_eq_some hq
                have hqn:=List.find?_some hq
                have e1:q.name=x.mod:=str_eq (by simpa [named] using hqn)
                rw [← e1]
                exact hasF_name hqm hO.2
            · simp [cFar,ByteArray.toList_eq] at hc
        · cases h1
      · cases ht
    · obtain ⟨y,hy,ht⟩:=List.mem_flatMap.1 ht
      exact calls_names hm d y (flatMap_nil h2 y hy) t ht
theorem good_exp {d:Nat} {ms:List Md} (h:goodB d ms=true):∀ x ∈ expL ms,x ∈ namesL d ms:=by
  intro x hx
  obtain ⟨m,hm,hx⟩:=List.mem_flatMap.1 hx
  obtain ⟨r,hr,rfl⟩:=List.mem_map.1 hx
  exact hasF_name hm ((good_mod h hm).1 r hr)
theorem good_edge {d:Nat} {ms:List Md} (h:goodB d ms=true):∀ e ∈ graphL d ms,e.1 ∈ namesL d ms∧e.2 ∈ namesL d ms:=by
  intro e he
  unfold graphL at he
  rw [if_pos h] at he
  obtain ⟨p,hp,h1,h2⟩:=(tellE_mem _ _).1 he
  refine ⟨by rw [← h1];exact List.mem_map.2 ⟨p,hp,rfl⟩,?_⟩
  rw [ftOf_eq] at hp
  obtain ⟨m,hm,hp⟩:=List.mem_flatMap.1 hp
  obtain ⟨f,hf,rfl⟩:=List.mem_map.1 hp
  obtain ⟨x,hx,ht⟩:=List.mem_flatMap.1 ((sortS_iff _ _).1 h2)
  exact calls_names hm d x ((good_mod h hm).2 f hf x hx) _ ht
theorem rch_names {d:Nat} {ms:List Md} (h:goodB d ms=true) {y:ByteArray} (hr:Rch (graphL d ms) (expL ms) y):y ∈ namesL d ms :=
  hr (fun z=>z ∈ namesL d ms) (good_exp h) (fun e he _=>(good_edge h e he).2)
def IsReach (d:Nat) (ms:List Md) (l:List ByteArray):Prop:=l.Pairwise (fun a b=>cmpS a b<0)∧∀ x,x ∈ l ↔ (goodB d ms=true∧Rch (graphL d ms) (expL ms) x)
theorem asc_filter (P:ByteArray→Prop):∀ (l:List ByteArray),l.Pairwise (fun a b=>cmpS a b<0)→∃ r:List ByteArray,r.Pairwise (fun a b=>cmpS a b<0)∧r.length≤l.length∧∀ x,x ∈ r ↔ (x ∈ l∧P x)
  | [],_=>⟨[],List.Pairwise.nil,Nat.le_refl _,fun x=>by simp⟩
  | y :: l,h=>by
    obtain ⟨h1,h2⟩:=List.pairwise_cons.1 h
    obtain ⟨r,r1,r2,r3⟩:=asc_filter P l h2
    by_cases hP:P y
    · refine ⟨y :: r,List.pairwise_cons.2 ⟨fun z hz=>h1 z ((r3 z).1 hz).1,r1⟩,by simp only [List.length_cons];omega,fun x=>?_⟩
      rw [List.mem_cons,List.mem_cons,r3]
      constructor
      · rintro (rfl | ⟨h3,h4⟩)
        · exact ⟨.inl rfl,hP⟩
        · exact ⟨.inr h3,h4⟩
      · rintro ⟨rfl | h3,h4⟩
        · exact .inl rfl
        · exact .inr ⟨h3,h4⟩
    · refine ⟨r,r1,by simp only [List.length_cons];omega,fun x=>?_⟩
      rw [List.mem_cons,r3]
      constructor
      · rintro ⟨h3,h4⟩
        exact ⟨.inr h3,h4⟩
      · rintro ⟨rfl | h3,h4⟩
        · exact absurd h4 hP
        · exact ⟨h3,h4⟩
theorem reach_ex (d:Nat) (ms:List Md):∃ l,IsReach d ms l∧l.length≤(namesL d ms).length:=by
  cases hg:goodB d ms with
  | false=>exact ⟨[],⟨List.Pairwise.nil,fun x=>by simp [hg]⟩,Nat.zero_le _⟩
  | true =>
    obtain ⟨r,r1,r2,r3⟩:=asc_filter (Rch (graphL d ms) (expL ms)) (sortS (namesL d ms)) (sortS_asc _)
    have hl:=sortS_len (namesL d ms) (namesL d ms).length
    rw [List.take_of_length_le (Nat.le_refl _)] at hl
    refine ⟨r,⟨r1,fun x=>?_⟩,by omega⟩
    rw [r3,sortS_iff]
    exact ⟨fun h=>⟨hg,h.2⟩,fun h=>⟨rch_names hg h.2,h.2⟩⟩
end
def isUn (R:List ByteArray) (x:ByteArray):Bool:=!hasS R x
def fnN (m:Md):List ByteArray:=m.funs.map λf=>nmT m.name f.name f.arity
def unM (R:List ByteArray) (m:Md):List ByteArray:=(fnN m).filter (isUn R)
def unL (R:List ByteArray) (ms:List Md):List ByteArray:=ms.flatMap (unM R)
def unS (d:Nat) (R:List ByteArray) (ms:List Md):List ByteArray:=if goodB d ms then sortS (unL R ms) else []
theorem names_fn (d:Nat) (ms:List Md):namesL d ms=ms.flatMap fnN:=by
 unfold namesL ftOf;rw [List.map_flatMap]
 congr 1
 funext m
 rw [List.map_map]
 rfl
theorem unL_names (d:Nat) (R:List ByteArray) (ms:List Md):unL R ms=(namesL d ms).filter (isUn R):=by
 rw [names_fn,List.filter_flatMap]
 rfl
theorem unL_len (d:Nat) (R:List ByteArray) (ms:List Md):(unL R ms).length<=(namesL d ms).length:=by
 rw [unL_names d];exact List.length_filter_le _ _
theorem unL_mem (d:Nat) {R:List ByteArray} {ms:List Md} {x:ByteArray} (h:x ∈ unL R ms):x ∈ namesL d ms:=by
 rw [unL_names d] at h;exact (List.mem_filter.1 h).1
theorem unS_len (d:Nat) (R:List ByteArray) (ms:List Md):(unS d R ms).length<=(namesL d ms).length:=by
 unfold unS
 split
 . have h:=sortS_len (unL R ms) (unL R ms).length
   rw [List.take_length] at h;exact Nat.le_trans h (unL_len d R ms)
 . exact Nat.zero_le _
theorem filt_snoc (R l:List ByteArray) (x:ByteArray):(l ++ [x]).filter (isUn R)=if hasS R x then l.filter (isUn R) else l.filter (isUn R) ++ [x]:=by
 rw [List.filter_append]
 cases h:hasS R x <;> simp [isUn,h]
theorem nodup_at {N:List ByteArray} (hn:N.Nodup) {a b:Nat} {z:ByteArray} (ha:N[a]?=some z) (hb:N[b]?=some z):a=b:=by
  obtain ⟨a1,a2⟩:=List.getElem?_eq_some_iff.1 ha
  obtain ⟨b1,b2⟩:=List.getElem?_eq_some_iff.1 hb
  rcases Nat.lt_trichotomy a b with h | h | h
  · exact absurd (a2.trans b2.symm) (List.pairwise_iff_getElem.1 hn a b a1 b1 h)
  · exact h
  · exact absurd (b2.trans a2.symm) (List.pairwise_iff_getElem.1 hn b a b1 a1 h)
structure CalOf (N:List ByteArray) (E:List Edge) (cl:List (List Nat)):Prop where
  len:cl.length=N.length
  row:∀ (p:Nat) (y:ByteArray) (r:List Nat),N[p]?=some y→cl[p]?=some r→r.length≤E.length∧(∀ q ∈ r,∃ e ∈ E,e.1=y∧N[q]?=some e.2)∧∀ e ∈ E,e.1=y→∃ q ∈ r,N[q]?=some e.2
theorem CalOf.nil (N:List ByteArray):CalOf N [] (List.replicate N.length []):=⟨by simp,fun p y r hy hr=>by
  have:r = []:=by
    rw [List.getElem?_replicate] at hr
    split at hr
    · exact (Option.some.inj hr).symm
    · cases hr
  subst this
  exact ⟨Nat.zero_le _,fun q hq=>(by cases hq),fun e he=>(by cases he)⟩⟩
theorem CalOf.push {N:List ByteArray} {E:List Edge} {cl:List (List Nat)} (h:CalOf N E cl) (hn:N.Nodup) {e:Edge} {p q:Nat} {r:List Nat} (hp:N[p]?=some e.1) (hq:N[q]?=some e.2) (hr:cl[p]?=some r):CalOf N (E ++ [e]) (cl.set p (r ++ [q])):=by
  refine ⟨by rw [List.length_set];exact h.len,fun p' y r' hy hr'=>?_⟩
  by_cases hpp:p=p'
  · subst hpp
    obtain rfl:e.1=y:=Option.some.inj (hp.symm.trans hy)
    have hl:=(List.getElem?_eq_some_iff.1 hr).1
    rw [List.getElem?_set_self hl] at hr'
    obtain rfl:=Option.some.inj hr'
    obtain ⟨h1,h2,h3⟩:=h.row p _ r hy hr
    refine ⟨by simp only [List.length_append,List.length_cons,List.length_nil];omega,fun z hz=>?_,fun e' he' heq=>?_⟩
    · rcases List.mem_append.1 hz with hz | hz
      · obtain ⟨e',k1,k2⟩:=h2 z hz
        exact ⟨e',List.mem_append_left _ k1,k2⟩
      · obtain rfl:=List.mem_singleton.1 hz
        exact ⟨e,List.mem_append_right _ (by simp),rfl,hq⟩
    · rcases List.mem_append.1 he' with he' | he'
      · obtain ⟨z,k1,k2⟩:=h3 e' he' heq
        exact ⟨z,List.mem_append_left _ k1,k2⟩
      · obtain rfl:=List.mem_singleton.1 he'
        exact ⟨q,List.mem_append_right _ (by simp),hq⟩
  · rw [List.getElem?_set_ne hpp] at hr'
    obtain ⟨h1,h2,h3⟩:=h.row p' y r' hy hr'
    refine ⟨by simp only [List.length_append];omega,fun z hz=>?_,fun e' he' heq=>?_⟩
    · obtain ⟨e',k1,k2⟩:=h2 z hz
      exact ⟨e',List.mem_append_left _ k1,k2⟩
    · rcases List.mem_append.1 he' with he' | he'
      · exact h3 e' he' heq
      · obtain rfl:=List.mem_singleton.1 he'
        exact absurd (nodup_at hn hp (by rw [heq];exact hy)) hpp
structure MetI (n:Nat) (R:Nat→Prop) (met:List Bool) (W:List Nat):Prop where
  len:met.length=n
  wait:∀ p ∈ W,met[p]?=some true
  sound:∀ p,met[p]?=some true→R p
  cnt:W.length≤met.count true
def Met1 (met:List Bool) (W:List Nat) (p:Nat) (met':List Bool) (W':List Nat):Prop :=
  (met[p]?=some true∧met'=met∧W'=W)∨(met[p]?=some false∧met'=met.set p true∧W'.Perm (W ++ [p]))
theorem count_set {met:List Bool} {p:Nat} (h:met[p]?=some false):(met.set p true).count true=met.count true+1∧(met.set p true).count false+1=met.count false:=by
  induction met generalizing p with
  | nil=>simp at h
  | cons b l ih =>
    cases p with
    | zero =>
      simp at h
      subst h
      simp
    | succ p =>
      simp at h
      obtain ⟨h1,h2⟩:=ih h
      cases b <;> simp [h1] <;> omega
theorem Met1.has {met met':List Bool} {W W':List Nat} {p:Nat} (h:Met1 met W p met' W'):met'[p]?=some true:=by
  rcases h with ⟨h1,rfl,-⟩ | ⟨h1,rfl,-⟩
  · exact h1
  · rw [List.getElem?_set_self (List.getElem?_eq_some_iff.1 h1).1]
theorem Met1.keep {met met':List Bool} {W W':List Nat} {p:Nat} (h:Met1 met W p met' W') {q:Nat} (hq:met[q]?=some true):met'[q]?=some true:=by
  rcases h with ⟨h1,rfl,-⟩ | ⟨h1,rfl,-⟩
  · exact hq
  · by_cases e:p=q
    · subst e;rw [List.getElem?_set_self (List.getElem?_eq_some_iff.1 h1).1]
    · rw [List.getElem?_set_ne e];exact hq
theorem Met1.new {met met':List Bool} {W W':List Nat} {p:Nat} (h:Met1 met W p met' W') {q:Nat} (hq:met'[q]?=some true) (hw:q ∉ W'):met[q]?=some true∧q ∉ W:=by
  rcases h with ⟨h1,rfl,rfl⟩ | ⟨h1,rfl,h2⟩
  · exact ⟨hq,hw⟩
  · by_cases e:p=q
    · subst e;exact absurd (h2.mem_iff.2 (List.mem_append_right _ (by simp))) hw
    · rw [List.getElem?_set_ne e] at hq
      exact ⟨hq,fun hm=>hw (h2.mem_iff.2 (List.mem_append_left _ hm))⟩
theorem Met1.inv {n:Nat} {R:Nat→Prop} {met met':List Bool} {W W':List Nat} {p:Nat} (h:Met1 met W p met' W') (hi:MetI n R met W) (hR:R p):MetI n R met' W':=by
  have hk:=@Met1.keep _ _ _ _ _ h
  have hh:=h.has
  rcases id h with ⟨h1,rfl,rfl⟩ | ⟨h1,rfl,h2⟩
  · exact hi
  · refine ⟨by rw [List.length_set];exact hi.len,fun q hq=>?_,fun q hq=>?_,?_⟩
    · rcases List.mem_append.1 (h2.mem_iff.1 hq) with hq | hq
      · exact hk (hi.wait q hq)
      · obtain rfl:=List.mem_singleton.1 hq;exact hh
    · by_cases e:p=q
      · subst e;exact hR
      · rw [List.getElem?_set_ne e] at hq;exact hi.sound q hq
    · rw [h2.length_eq,(count_set h1).1,List.length_append,List.length_cons,List.length_nil]
      have:=hi.cnt
      omega
def msr (met:List Bool) (W:List Nat):Nat:=2 * met.count false+W.length
theorem Met1.msr {met met':List Bool} {W W':List Nat} {p:Nat} (h:Met1 met W p met' W'):Go.Proofs.YtonpgdfpgpepiaaGreatDoor.msr met' W'≤Go.Proofs.YtonpgdfpgpepiaaGreatDoor.msr met W:=by
  unfold Go.Proofs.YtonpgdfpgpepiaaGreatDoor.msr
  rcases h with ⟨h1,rfl,rfl⟩ | ⟨h1,rfl,h2⟩
  · exact Nat.le_refl _
  · rw [h2.length_eq,List.length_append,List.length_cons,List.length_nil]
    have:=(count_set h1).2
    omega
def ShutI (cl:List (List Nat)) (met:List Bool) (W:List Nat) (p0 j0:Nat):Prop :=
  ∀ p r j q,met[p]?=some true→p ∉ W→cl[p]?=some r→r[j]?=some q→(p=p0→j<j0)→met[q]?=some true
theorem ShutI.meet {cl:List (List Nat)} {met met':List Bool} {W W':List Nat} {p0 j0 q0:Nat} {r0:List Nat} (h:ShutI cl met W p0 j0) (hm:Met1 met W q0 met' W') (hr:cl[p0]?=some r0) (hq:r0[j0]?=some q0):ShutI cl met' W' p0 (j0+1):=by
  intro p r j q hp hw hr' hj hx
  by_cases hc:p=p0∧j=j0
  · obtain ⟨rfl,rfl⟩:=hc
    rw [hr] at hr'
    obtain rfl:=Option.some.inj hr'
    rw [hq] at hj
    obtain rfl:=Option.some.inj hj
    exact hm.has
  · obtain ⟨h1,h2⟩:=hm.new hp hw
    exact hm.keep (h p r j q h1 h2 hr' hj (fun e=>by have:=hx e;omega))
theorem ShutI.pop {cl:List (List Nat)} {met:List Bool} {W W':List Nat} {p0 j0 p1:Nat} (h:ShutI cl met W p0 j0) (hd:∀ r,cl[p0]?=some r→r.length≤j0) (hp:W.Perm (p1 :: W')):ShutI cl met W' p1 0:=by
  intro p r j q hm hw hr hj hx
  have hne:p≠p1:=fun e=>by have:=hx e;omega
  refine h p r j q hm (fun hin=>?_) hr hj (fun e=>?_)
  · rcases List.mem_cons.1 (hp.mem_iff.1 hin) with e | hin
    · exact hne e
    · exact hw hin
  · subst e
    have:=hd r hr
    have:=(List.getElem?_eq_some_iff.1 hj).1
    omega
theorem ShutI.start {cl:List (List Nat)} {met:List Bool} {W:List Nat} (hw:∀ p,met[p]?=some true→p ∈ W) (p0:Nat):ShutI cl met W p0 0:=fun p r j q hp hn _ _ _=>absurd (hw p hp) hn
theorem met_all {N:List ByteArray} {E:List Edge} {X:List ByteArray} {cl:List (List Nat)} {met:List Bool} {p0 j0:Nat} (hc:CalOf N E cl) (hi:MetI N.length (fun p=>∃ y,N[p]?=some y∧Rch E X y) met []) (hs:ShutI cl met [] p0 j0) (hd:∀ r,cl[p0]?=some r→r.length≤j0)
    (hn:N.Nodup) (hE:∀ e ∈ E,e.1 ∈ N∧e.2 ∈ N) (hX:∀ x ∈ X,∃ p:Nat,N[p]?=some x∧met[p]?=some true) {p:Nat} {y:ByteArray} (hp:N[p]?=some y):met[p]?=some true ↔ Rch E X y:=by
  have inj:∀ (a b:Nat) (z:ByteArray),N[a]?=some z→N[b]?=some z→a=b:=fun a b z ha hb=>nodup_at hn ha hb
  constructor
  · intro hm
    obtain ⟨z,h1,h2⟩:=hi.sound p hm
    rw [hp] at h1
    obtain rfl:=Option.some.inj h1
    exact h2
  · intro hr
    refine hr (fun z=>∀ a,N[a]?=some z→met[a]?=some true) (fun x hx a ha=>?_) (fun e he ih a ha=>?_) p hp
    · obtain ⟨b,h1,h2⟩:=hX x hx
      rw [inj a b x ha h1];exact h2
    · obtain ⟨b,hb⟩:=List.mem_iff_getElem?.1 (hE e he).1
      have hbl:b<cl.length:=by rw [hc.len];exact (List.getElem?_eq_some_iff.1 hb).1
      obtain ⟨k1,k2,k3⟩:=hc.row b _ _ hb (List.getElem?_eq_getElem hbl)
      obtain ⟨q,hq1,hq2⟩:=k3 e he rfl
      obtain ⟨j,hj⟩:=List.mem_iff_getElem?.1 hq1
      have:=hs b _ j q (ih b hb) (by simp) (List.getElem?_eq_getElem hbl) hj (fun e1=>by
        have h5:=hd _ (by rw [← e1];exact List.getElem?_eq_getElem hbl)
        have h6:=(List.getElem?_eq_some_iff.1 hj).1
        omega)
      rw [inj a q _ ha hq2];exact this
def fndL (N:List ByteArray) (met:List Bool):Nat→List ByteArray
  | 0=>[]
  | k+1=>if met[k]?=some true then fndL N met k ++ (N[k]?).toList else fndL N met k
theorem fndL_mem (N:List ByteArray) (met:List Bool):∀ (k:Nat) (x:ByteArray),x ∈ fndL N met k ↔ ∃ p,p<k∧N[p]?=some x∧met[p]?=some true
  | 0,x=>by simp [fndL]
  | k+1,x=>by
    have ih:=fndL_mem N met k x
    unfold fndL
    split
    · rename_i hm
      rw [List.mem_append,ih]
      constructor
      · rintro (⟨p,h1,h2⟩ | h)
        · exact ⟨p,by omega,h2⟩
        · exact ⟨k,by omega,by simpa using h,hm⟩
      · rintro ⟨p,h1,h2,h3⟩
        by_cases e:p=k
        · subst e;exact .inr (by simpa using h2)
        · exact .inl ⟨p,by omega,h2,h3⟩
    · rename_i hm
      rw [ih]
      constructor
      · rintro ⟨p,h1,h2⟩;exact ⟨p,by omega,h2⟩
      · rintro ⟨p,h1,h2,h3⟩
        refine ⟨p,?_,h2,h3⟩
        have:p≠k:=fun e=>hm (e ▸ h3)
        omega
theorem fndL_asc {N:List ByteArray} (met:List Bool) (hN:N.Pairwise (fun a b=>cmpS a b<0)):∀ k,(fndL N met k).Pairwise (fun a b=>cmpS a b<0)
  | 0=>List.Pairwise.nil
  | k+1=>by
    have ih:=fndL_asc met hN k
    unfold fndL
    split
    · rw [List.pairwise_append]
      refine ⟨ih,by cases N[k]? <;> simp,fun a ha b hb=>?_⟩
      obtain ⟨p,h1,h2,h3⟩:=(fndL_mem N met k a).1 ha
      have hb':N[k]?=some b:=by simpa using hb
      have e1:=List.getElem?_eq_some_iff.1 h2
      have e2:=List.getElem?_eq_some_iff.1 hb'
      rw [← e1.2,← e2.2]
      exact List.pairwise_iff_getElem.1 hN p k e1.1 e2.1 h1
    · exact ih
theorem fndL_len (N:List ByteArray) (met:List Bool):∀ k,(fndL N met k).length≤k
  | 0=>Nat.zero_le _
  | k+1=>by
    have ih:=fndL_len N met k
    unfold fndL
    split
    · rw [List.length_append]
      have:(N[k]?).toList.length≤1:=by cases N[k]? <;> simp
      omega
    · omega
theorem asc_nodup {l:List ByteArray} (h:l.Pairwise (fun a b=>cmpS a b<0)):l.Nodup:=h.imp (fun {a b} h e=>by
  subst e
  have:=(ord_text.eq a a trivial trivial).2 rfl
  omega)
end Go.Proofs.YtonpgdfpgpepiaaGreatDoor
