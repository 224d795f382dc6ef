/-
  GraphSpecC
-/
import Derived.Test.YtkkabbfdjhcfcaaGreatDoorP46
import Derived.Test.YtkkabbfdjhcfcaaGreatDoorP44
set_option maxHeartbeats 16000000
set_option linter.unusedVariables false
set_option maxRecDepth 100000
namespace Go.Proofs.YtkkabbfdjhcfcaaGreatDoor
open Go.ChangeShapes Go.WideShapes Go.ChangeAt Go.RowKit
def ftF (d:Nat) (m:Md) (f:Fn'):ByteArray × List ByteArray:=(nmT m.name f.name f.arity,sortS (cF m d (bodiesOf f.clauses)))
def ftM (d:Nat) (m:Md):List (ByteArray × List ByteArray):=m.funs.map (ftF d m)
theorem ftOf_eq (d:Nat) (ms:List Md):ftOf nmT d ms=ms.flatMap (ftM d):=rfl
theorem ftOf_len (d:Nat) (ms:List Md):(ms.flatMap (ftM d)).length≤wtS (wtMd d) ms:=flat_lenW (ftM d) (wtMd d) ms (fun m _=>by
  unfold ftM wtMd wtS;rw [List.length_map];omega)
theorem fnames_ok {w:World} {d:Nat} {v:Value} {ms:List Md} (h:Rows w All 3 (HMd w All d) v ms) (hw:wtS (wtMd d) ms≤1048576):∀ c ∈ (ms.flatMap (ftM d)).map Prod.fst,okS c:=by
  intro c hc
  obtain ⟨p,hp,rfl⟩:=List.mem_map.1 hc
  obtain ⟨m,hm,hp⟩:=List.mem_flatMap.1 hp
  obtain ⟨f,hf,rfl⟩:=List.mem_map.1 hp
  have h1:=wt_mem (wtMd d) hm
  have h2:=wt_mem (wtFn d) hf
  have h3:wtMd d m=m.name.size+wtS wtRf m.exports+wtS (wtFn d) m.funs:=rfl
  have h4:wtFn d f=f.name.size+wtS (wtCl (wtEx d)) f.clauses:=rfl
  exact okS_small (nameT_len _ _ _ (by omega) (by omega) (rows_arity h hm hf))
def tlE (ft:List (ByteArray × List ByteArray)) (n:ByteArray):List Edge:=ft.flatMap fun p=>if p.1=n then p.2.map fun t=>(n,t) else []
def tlP (n:ByteArray) (p:ByteArray × List ByteArray):List Edge:=if p.1=n then p.2.map fun t=>(n,t) else []
theorem tellE_eq (ft:List (ByteArray × List ByteArray)):tellE ft=(sortS (ft.map Prod.fst)).flatMap (tlE ft):=rfl
theorem tlE_eq (ft:List (ByteArray × List ByteArray)) (n:ByteArray):tlE ft n=ft.flatMap (tlP n):=rfl
def sumT (ft:List (ByteArray × List ByteArray)):Nat:=(ft.map fun p=>p.2.length).sum
theorem tlP_len (n:ByteArray) (p:ByteArray × List ByteArray):(tlP n p).length≤p.2.length:=by unfold tlP;split <;> simp
theorem tlF_len (n:ByteArray):∀ (ft:List (ByteArray × List ByteArray)),(ft.flatMap (tlP n)).length≤sumT ft
  | []=>by simp [sumT]
  | p :: ft=>by
    have h1:=tlF_len n ft
    have h2:=tlP_len n p
    unfold sumT at h1 ⊢
    simp only [List.flatMap_cons,List.length_append,List.map_cons,List.sum_cons]
    omega
theorem flat_mul {α β:Type} (f:α→List β) (K:Nat) (h:∀ x,(f x).length≤K):∀ (l:List α),(l.flatMap f).length≤l.length * K
  | []=>by simp
  | x :: l=>by
    have h1:=flat_mul f K h l
    have h2:=h x
    rw [List.flatMap_cons,List.length_append,List.length_cons,Nat.add_mul,Nat.one_mul]
    omega
theorem sumT_len (d:Nat) (ms:List Md):sumT (ms.flatMap (ftM d))≤wtS (wtMd d) ms:=by
  have key:∀ (m:Md),sumT (ftM d m)≤wtS (wtFn d) m.funs:=fun m=>by
    unfold sumT ftM
    rw [List.map_map]
    have:∀ (l:List Fn'),(l.map ((fun p:ByteArray × List ByteArray=>p.2.length) ∘ ftF d m)).sum≤wtS (wtFn d) l:=by
      intro l
      induction l with
      | nil=>simp [wtS]
      | cons f l ih =>
        have h1:((fun p:ByteArray × List ByteArray=>p.2.length) ∘ ftF d m) f≤wtFn d f:=by
          have e1:=sortS_len (cF m d (bodiesOf f.clauses)) (cF m d (bodiesOf f.clauses)).length
          rw [List.take_of_length_le (Nat.le_refl _)] at e1
          have e2:=cF_len m d (bodiesOf f.clauses)
          have e3:=sumB d f.clauses
          have e4:wtFn d f=f.name.size+wtS (wtCl (wtEx d)) f.clauses:=rfl
          show (sortS (cF m d (bodiesOf f.clauses))).length≤_
          omega
        unfold wtS at ih ⊢
        simp only [List.map_cons,List.sum_cons,List.length_cons]
        omega
    exact this m.funs
  induction ms with
  | nil=>simp [sumT,wtS]
  | cons m ms ih =>
    have h1:=key m
    have h2:sumT ((m :: ms).flatMap (ftM d))=sumT (ftM d m)+sumT (ms.flatMap (ftM d)):=by
      unfold sumT
      rw [List.flatMap_cons,List.map_append,List.sum_append]
    have h3:wtMd d m=m.name.size+wtS wtRf m.exports+wtS (wtFn d) m.funs:=rfl
    have h4:wtS (wtMd d) (m :: ms)=1+wtMd d m+wtS (wtMd d) ms:=by unfold wtS;simp only [List.map_cons,List.sum_cons,List.length_cons];omega
    omega
def graphL (d:Nat) (ms:List Md):List Edge:=if goodB d ms then tellE (ftOf nmT d ms) else []
theorem specGraph_any (d:Nat) (w:World) (v:Value) (ms:List Md) (h:Rows w All 3 (HMd w All d) v ms) (hw:wtS (wtMd d) ms≤1048576) :
    Calls Tryz.prog 5 #[v] w fun e w'=>∃ u,e=.returned u∧OwnE w' w.heap.size u (graphL d ms)∧Below w.heap.size w w':=by
  have HMS:Hid (∀ w',Below w.heap.size w w'→Rows w' All 3 (HMd w' All d) v ms):=fun w' hw=>h.mono (SameOn.of_below hw) (fun _ h=>h) (fun _ _ _ h=>h.mono (SameOn.of_below hw) (fun _ h=>h))
  have HG:Hid (∀ w',Below w.heap.size w w'→Calls Tryz.prog 14 #[v] w' fun e w''=>e=.returned (.bool (goodB d ms))∧Below w'.heap.size w' w''):=fun w' hb=>specGood_any d w' v ms (HMS.out w' hb) hw
  have B1:Hid (Below w.heap.size w (w.alloc (.cells #[] 51))):=(Below.refl _ _).alloc (Nat.le_refl _) _
  have O1:Hid (OwnE (w.alloc (.cells #[] 51)) w.heap.size (.slice (some ⟨w.heap.size,0,none⟩) 0 0) []):=OwnG.fresh
  cases hgd:goodB d ms with
  | false =>
    have HGL:Hid (graphL d ms = []):=by show _=_;unfold graphL;rw [hgd];rfl
    go_enter Tryz.func5,Tryz.ntmps5
    go_wp2_with fail
    refine (HG.out _ B1.out).mono ?_
    rintro e w2 ⟨rfl,hb2⟩
    rw [hgd]
    have O2:Hid (OwnE w2 w.heap.size (.slice (some ⟨w.heap.size,0,none⟩) 0 0) []):=O1.out.next hb2
    have B2:Hid (Below w.heap.size w w2):=B1.out.trans (hb2.mono B1.out.size)
    clear hb2
    go_wp2
    go_ret
    exact ⟨_,rfl,by rw [HGL.out];exact O2.out,B2.out⟩
  | true =>
    have HGL:Hid (graphL d ms=tellE (ms.flatMap (ftM d))):=by show _=_;unfold graphL;rw [hgd];rfl
    have HOK:Hid (∀ c ∈ (ms.flatMap (ftM d)).map Prod.fst,okS c):=fnames_ok h hw
    obtain ⟨p,cap,rfl,hcl,hcm,hx⟩:=h
    have HX:Hid (ms≠[]→∃ g off,p=some ⟨g,off,none⟩∧All g∧g<w.heap.size∧∀ i x,ms[i]?=some x→∃ cs,cs.length=3∧(∀ j,j<3→w.cell? ⟨g,off+i * 3+j,none⟩=cs[j]?)∧HMd w All d cs x):=hx
    have HLEN:Hid ((ms.flatMap (ftM d)).length≤1048576):=Nat.le_trans (ftOf_len d ms) hw
    have HWM:Hid (∀ k m,ms[k]?=some m→wtMd d m≤1048576):=fun k m hk=>Nat.le_trans (by
      have h2:=sum_take_succ (wtMd d) ms k m hk
      have h3:=sum_take_le (wtMd d) ms (k+1)
      unfold wtS
      omega) hw
    have HWS:Hid (sumT (ms.flatMap (ftM d))≤1048576):=Nat.le_trans (sumT_len d ms) hw
    have hnb:ms.length≤9223372036854775807:=by unfold maxLen at hcm;omega
    obtain ⟨i0,hi,hz0,hz1,hz2⟩:=info_parts info_str
    obtain ⟨j0,hj,hy0,hy1,hy2⟩:=info_parts info_ss
    generalize hn:ms.length=n at *
    have HN:Hid (ms.length=n):=hn
    clear hx hn hw
    go_enter Tryz.func5,Tryz.ntmps5
    go_wp2_with fail
    refine (HG.out _ B1.out).mono ?_
    rintro e w2 ⟨rfl,hb2⟩
    rw [hgd]
    have O2:Hid (OwnE w2 w.heap.size (.slice (some ⟨w.heap.size,0,none⟩) 0 0) []):=O1.out.next hb2
    have B2:Hid (Below w.heap.size w w2):=B1.out.trans (hb2.mono B1.out.size)
    have sF:(w2.alloc (.cells #[] 9)).heap.size=w2.heap.size+1:=alloc_hs _ _
    have bF1:Below w2.heap.size w2 (w2.alloc (.cells #[] 9)):=(Below.refl _ _).alloc (Nat.le_refl _) _
    have bF2:Below (w2.heap.size+1) (w2.alloc (.cells #[] 9)) ((w2.alloc (.cells #[] 9)).alloc (.cells #[] 39)):=(Below.refl _ _).alloc (by rw [sF];omega) _
    have B3:Hid (Below w.heap.size w ((w2.alloc (.cells #[] 9)).alloc (.cells #[] 39))):=(B2.out.trans (bF1.mono B2.out.size)).trans (bF2.mono (by have:=B2.out.size;omega))
    have O3:Hid (OwnE ((w2.alloc (.cells #[] 9)).alloc (.cells #[] 39)) w.heap.size (.slice (some ⟨w.heap.size,0,none⟩) 0 0) []):=(O2.out.next bF1).next (by rw [sF];exact bF2)
    have F3:Hid (FT ((w2.alloc (.cells #[] 9)).alloc (.cells #[] 39)) w.heap.size (.slice (some ⟨w2.heap.size,0,none⟩) 0 0) [] (.slice (some ⟨w2.heap.size+1,0,none⟩) 0 0) []):=by
      refine FT.nil (OwnS.base ((OwnS.fresh (w:=w2)).next (by rw [sF];exact bF2)) B2.out.size) ?_
      have:=owns_fresh (w:=w2.alloc (.cells #[] 9)) (e:=39) (c:=1)
      rw [sF] at this
      obtain ⟨t1,t2⟩:=this
      refine ⟨t1,?_⟩
      rcases t2 with hn | ⟨g,cp,cur,hv,hB,hr⟩
      · exact .inl hn
      · exact .inr ⟨g,cp,cur,hv,by have:=B2.out.size;omega,hr⟩
    clear hb2 O1 B1 sF bF1 bF2 O2 B2
    go_wp2_with fail
    go_loopw [4,5,6] (fun fv tv iv wx=>∃ a:Nat,a≤n∧iv=.int .i64 a∧Hid (FT wx w.heap.size fv (((ms.take a).flatMap (ftM d)).map Prod.fst) tv (((ms.take a).flatMap (ftM d)).map Prod.snd))∧Hid (OwnE wx w.heap.size (.slice (some ⟨w.heap.size,0,none⟩) 0 0) [])∧Hid (Below w.heap.size w wx)) (fun _ _ iv _=>n - (intOf iv).toNat)
    case atStart=>exact ⟨0,Nat.zero_le _,rfl,by show FT _ _ _ _ _ _;simpa using F3.out,O3,B3⟩
    case round =>
      obtain ⟨a,ha,rfl,ho,hoe,hb⟩:=hrel
      clear F3 O3 B3
      by_cases hlt:a<n
      · obtain ⟨m,hmk⟩:∃ m,ms[a]?=some m:=⟨ms[a]'(by rw [HN.out];exact hlt),List.getElem?_eq_getElem _⟩
        obtain ⟨g,off,rfl,-,hgl,hat⟩:=HX.out (by intro h;rw [h] at hmk;simp at hmk)
        obtain ⟨cs,hcsl,hcs,hm⟩:=hat a m hmk
        have HMM:Hid (∀ w',Below w.heap.size w w'→HMd w' All d cs m):=fun w' hw=>hm.mono (SameOn.of_below hw) (fun _ h=>h)
        obtain ⟨ev,fv,rfl,hms,he,hf⟩:=hm
        obtain ⟨pe,ce,rfl,hce,hcme,hxe⟩:=he
        obtain ⟨pf,cf,rfl,hcf,hcmf,hxf⟩:=hf
        have HXF:Hid (m.funs≠[]→∃ g off,pf=some ⟨g,off,none⟩∧All g∧g<w.heap.size∧∀ i x,m.funs[i]?=some x→∃ cs,cs.length=3∧(∀ j,j<3→w.cell? ⟨g,off+i * 3+j,none⟩=cs[j]?)∧HFn w All d cs x):=hxf
        have HWF:Hid (∀ k f,m.funs[k]?=some f→wtFn d f≤1048576):=fun k f hk=>Nat.le_trans (by
          have h2:=sum_take_succ (wtFn d) m.funs k f hk
          have h3:=sum_take_le (wtFn d) m.funs (k+1)
          unfold wtMd wtS
          omega) (HWM.out a m hmk)
        have hmn:m.name.size≤1048576:=by have:=HWM.out a m hmk;unfold wtMd at this;omega
        have HA0:Hid (w.cell? ⟨g,off+a * 3,none⟩=some (.string m.name)∧w.cell? ⟨g,off+a * 3+1,none⟩=some (.slice pe m.exports.length ce)∧w.cell? ⟨g,off+a * 3+2,none⟩=some (.slice pf m.funs.length cf)):=⟨hcs 0 (by omega),hcs 1 (by omega),hcs 2 (by omega)⟩
        have HGL':Hid (g<w.heap.size):=hgl
        have hki:(a:Int)<(n:Int):=by omega
        have hk0:(0:Int)≤(a:Int):=by omega
        have hnf:m.funs.length≤9223372036854775807:=by unfold maxLen at hcmf;omega
        obtain ⟨HJ,HL⟩:=flat_takeG (ftM d) ms a m hmk
        have HJJ:Hid ((ms.take (a+1)).flatMap (ftM d)=(ms.take a).flatMap (ftM d) ++ m.funs.map (ftF d m)):=HJ
        have HLL:Hid (((ms.take a).flatMap (ftM d)).length+m.funs.length≤1048576):=by
          have h1:=HLEN.out
          have h2:(ftM d m).length=m.funs.length:=by simp [ftM]
          show _≤_
          omega
        generalize hA0:(ms.take a).flatMap (ftM d)=A0 at *
        generalize hn1:m.exports.length=ne at *
        generalize hn2:m.funs.length=nf at *
        have HN2:Hid (m.funs.length=nf):=hn2
        clear hxe hxf hcs hcsl hat HJ HL hA0 hms hn1 hn2 hmk hcme hcmf hce hcf
        go_wp2_with fail
        go_loopw [4,5,7] (fun fv tv iv wx=>∃ b:Nat,b≤nf∧iv=.int .i64 b∧Hid (FT wx w.heap.size fv ((A0 ++ (m.funs.take b).map (ftF d m)).map Prod.fst) tv ((A0 ++ (m.funs.take b).map (ftF d m)).map Prod.snd))∧Hid (OwnE wx w.heap.size (.slice (some ⟨w.heap.size,0,none⟩) 0 0) [])∧Hid (Below w.heap.size w wx)) (fun _ _ iv _=>nf - (intOf iv).toNat)
        case atStart=>exact ⟨0,Nat.zero_le _,rfl,by show FT _ _ _ _ _ _;simpa using ho.out,hoe,hb⟩
        case round =>
          obtain ⟨b,hbn,rfl,hft,hoe2,hb2⟩:=hrel
          clear ho hoe hb
          have a0:=(hb2.out.cell (p:=⟨g,off+a * 3,none⟩) HGL'.out).trans HA0.out.1
          have a1:=(hb2.out.cell (p:=⟨g,off+a * 3+1,none⟩) HGL'.out).trans HA0.out.2.1
          have a2:=(hb2.out.cell (p:=⟨g,off+a * 3+2,none⟩) HGL'.out).trans HA0.out.2.2
          by_cases hlb:b<nf
          · obtain ⟨f,hfk⟩:∃ f,m.funs[b]?=some f:=⟨m.funs[b]'(by rw [HN2.out];exact hlb),List.getElem?_eq_getElem _⟩
            obtain ⟨g5,o5,rfl,-,hgl5,hat5⟩:=HXF.out (by intro h;rw [h] at hfk;simp at hfk)
            obtain ⟨cs5,hcsl5,hcs5,hf5⟩:=hat5 b f hfk
            have HFF:Hid (∀ w',Below w.heap.size w w'→HFn w' All d cs5 f):=fun w' hw=>hf5.mono (SameOn.of_below hw) (fun _ h=>h)
            obtain ⟨cv,rfl,hfs,hfa,pc,qc,rfl,-⟩:=hf5
            have b0:=hcs5 0 (by omega)
            have b1:=hcs5 1 (by omega)
            have b2:=hcs5 2 (by omega)
            rw [← hb2.out.cell (p:=⟨g5,_,none⟩) hgl5] at b0 b1 b2
            simp at b0 b1 b2
            have hbi:(b:Int)<(nf:Int):=by omega
            have hbi0:(0:Int)≤(b:Int):=by omega
            have hwf:=HWF.out b f hfk
            have hfn:f.name.size≤1048576:=by unfold wtFn at hwf;omega
            have CN:Hid (∀ w',Calls Tryz.prog 15 #[.string m.name,.string f.name,.int .i64 f.arity] w' fun e w''=>e=.returned (.string (nmT m.name f.name f.arity))∧Below w'.heap.size w' w''):=fun w'=>specName_any w' m.name f.name f.arity hmn hfn hfa
            have CO:Hid (∀ w',Below w.heap.size w w'→Calls Tryz.prog 16 #[.agg #[.string m.name,.slice pe ne ce,.slice (some ⟨g5,o5,none⟩) nf cf],.agg #[.string f.name,.int .i64 f.arity,.slice pc f.clauses.length qc]] w' fun e w''=>∃ u,e=.returned u∧OwnS w'' w'.heap.size u (sortS (cF m d (bodiesOf f.clauses)))∧Below w'.heap.size w' w''):=fun w' hw'=>l05Of_any d w' _ m _ f (HMM.out w' hw') (HFF.out w' hw') hwf hmn
            have HTK:Hid ((A0 ++ (m.funs.take (b+1)).map (ftF d m))=(A0 ++ (m.funs.take b).map (ftF d m)) ++ [(nmT m.name f.name f.arity,sortS (cF m d (bodiesOf f.clauses)))]):=by
              show _=_
              rw [List.take_add_one,hfk];simp [ftF]
            have HLB:Hid ((A0 ++ (m.funs.take b).map (ftF d m)).length+1≤1048576):=by
              have h1:=HLL.out
              show _≤_
              rw [List.length_append,List.length_map,List.length_take];omega
            generalize hP:A0 ++ (m.funs.take b).map (ftF d m)=P at *
            generalize hNN:nmT m.name f.name f.arity=NN at *
            generalize hTT:sortS (cF m d (bodiesOf f.clauses))=TT at *
            generalize hcn:f.clauses.length=nc at *
            obtain ⟨W5,hW5⟩:∃ W5,W5=wr.alloc (.cells #[.string f.name,.int .i64 f.arity,.slice pc nc qc] 47):=⟨_,rfl⟩
            obtain ⟨bf,hbf⟩:∃ bf,bf=wr.heap.size:=⟨_,rfl⟩
            have K5:Hid (Below wr.heap.size wr W5):=by show Below _ _ _;rw [hW5];exact (Below.refl _ _).alloc (Nat.le_refl _) _
            have F5:Hid (Blk W5 bf #[.string f.name,.int .i64 f.arity,.slice pc nc qc] 47):=by show Blk _ _ _ _;rw [hW5,hbf];exact Blk.new
            have HW5:Hid (W5=wr.alloc (.cells #[.string f.name,.int .i64 f.arity,.slice pc nc qc] 47)):=hW5
            have HBF:Hid (wr.heap.size=bf):=hbf.symm
            clear hcs5 hcsl5 hat5 hP hNN hTT hcn hW5 hbf hfk hwf
            go_wp2_with fail
            rw [← HW5.out,HBF.out]
            have HB5:Hid (Below w.heap.size w W5):=hb2.out.trans (K5.out.mono hb2.out.size)
            clear a0 a1 a2 b0 b1 b2
            have a0:=(HB5.out.cell (p:=⟨g,off+a * 3,none⟩) HGL'.out).trans HA0.out.1
            have x0:=F5.out.cell 0 _ rfl
            have x1:=F5.out.cell 1 _ rfl
            have x2:=F5.out.cell 2 _ rfl
            have FT5:Hid (FT W5 w.heap.size u4 (P.map Prod.fst) u5 (P.map Prod.snd)):=hft.out.next K5.out
            have OE5:Hid (OwnE W5 w.heap.size (.slice (some ⟨w.heap.size,0,none⟩) 0 0) []):=hoe2.out.next K5.out
            have HPL:Hid ((P.map Prod.fst).length+1≤1048576):=by show _≤_;rw [List.length_map];exact HLB.out
            have HPT:Hid ((P.map Prod.snd).length+1≤1048576):=by show _≤_;rw [List.length_map];exact HLB.out
            generalize hPF:P.map Prod.fst=PF at *
            generalize hPT:P.map Prod.snd=PT at *
            have HPF:Hid (P.map Prod.fst=PF):=hPF
            have HPS:Hid (P.map Prod.snd=PT):=hPT
            clear hPF hPT
            go_region_law
              (first
                | (refine step_append_lies _ (by rfl) _ _ _ (by rfl) w.heap.size 9 i0 (.string ⟨#[]⟩) 1 16 Tryz.underlying39 hi hz0 hz1 hz2 rfl (by decide) u4 PF.length (strs PF) (by rfl) (FT6.out.fr.next ((Below.refl _ _).alloc (Nat.le_refl _) _)).1 ⟨w6.heap.size,0,none⟩ 1 1 (strs [NN]) (by rfl) (by rfl) (one_str w6 NN _ rfl) (strs_oneCell _) (by omega) (by have:=HPL.out;unfold maxLen;omega) (by have:=HPL.out;omega) (by rw [alloc_hs];have:=FT6.out.fr.2;omega) (w6.heap.size+1) (by rw [alloc_hs]) ?_;intro g9 cap9 w9 ho9 hg9 hl9 hlt9)
                | (go_simp;go_at_call 15;refine (CN.out _).mono ?_;rintro e w6 ⟨rfl,hb6⟩;have K6:Hid (Below W5.heap.size W5 w6):=⟨hb6.os,hb6.tape,hb6.output,hb6.size,hb6.block⟩;have FT6:Hid (FT w6 w.heap.size u4 PF u5 PT):=FT5.out.next K6.out;clear hb6;dsimp only))
            all_goals
              have bA:Below w6.heap.size w6 (w6.alloc (.cells #[.string NN] 9)):=(Below.refl _ _).alloc (Nat.le_refl _) _
              have OA:=FT6.out.fr.next bA
              have AP9:ApartE 9 w6 w9:=(ApartE.of_below bA).trans (ApartE.of_grown OA.1 hg9)
              have S9:w6.heap.size≤w9.heap.size:=Nat.le_trans bA.size hg9.size
              have FT9:Hid (FT w9 w.heap.size (.slice (some ⟨g9,0,none⟩) (PF.length+1) cap9) (PF ++ [NN]) u5 PT):=FT6.out.pushF (OwnS.of ho9 (by simp) rfl (Nat.le_trans OA.2 hg9.size)) (hl9.imp id (fun e=>by omega)) (fun j hj hne=>(hg9.block j (by rw [alloc_hs];omega) hne).trans (bA.block j hj)) AP9 S9
              have OE9:Hid (OwnE w9 w.heap.size (.slice (some ⟨w.heap.size,0,none⟩) 0 0) []):=OwnE.apart (OE5.out.next K6.out) AP9 S9 (by decide)
              have F9:Hid (Blk w9 bf #[.string f.name,.int .i64 f.arity,.slice pc nc qc] 47):=AP9.blk (F5.out.next K6.out) (by decide)
              have B9:Hid (Below w.heap.size w w9):=((HB5.out.trans (K6.out.mono HB5.out.size)).trans (bA.mono (Nat.le_trans HB5.out.size K6.out.size))).trans (OA.below hg9)
              clear ho9 hg9 hl9 hlt9 bA OA AP9 S9 a0 x0 x1 x2 FT5 OE5
              have a0:=(B9.out.cell (p:=⟨g,off+a * 3,none⟩) HGL'.out).trans HA0.out.1
              have a1:=(B9.out.cell (p:=⟨g,off+a * 3+1,none⟩) HGL'.out).trans HA0.out.2.1
              have a2:=(B9.out.cell (p:=⟨g,off+a * 3+2,none⟩) HGL'.out).trans HA0.out.2.2
              have x0:=F9.out.cell 0 _ rfl
              have x1:=F9.out.cell 1 _ rfl
              have x2:=F9.out.cell 2 _ rfl
              go_wp2_with fail
              go_region_law
                (first
                  | (refine step_append_own _ (by rfl) _ _ _ (by rfl) w.heap.size 39 j0 (.slice none 0 0) 1 24 Tryz.underlying40 hj hy0 hy1 hy2 rfl (by decide) u5 PT.length us (by rfl) (owns_next US.out ((Below.refl _ _).alloc (Nat.le_refl _) _)) ⟨w10.heap.size,0,none⟩ 1 1 [.slice pt TT.length qt] (by rfl) (by rfl) (World.news_of_block (cs:=#[.slice pt TT.length qt]) (t:=39) (fr:=(0,0)) (heap_alloc_new w10 _)) OC.out (by have:=HPT.out;unfold maxLen;omega) (by have:=HPT.out;omega) (by rw [alloc_hs];have:=FT10.out.fr.2;omega) ?_;intro v12 w12 ho12 hg12 _)
                  | (go_simp;go_at_call 16;refine (CO.out _ (by exact B9.out.drew)).mono ?_;rintro e w10 ⟨ut,rfl,ot,hb10⟩;obtain ⟨pt,qt,rfl⟩:=OwnS.slice ot;have K10:Hid (Below w9.heap.size w9 w10):=⟨hb10.os,hb10.tape,hb10.output,hb10.size,hb10.block⟩;have OT:Hid (OwnS w10 w9.heap.size (.slice pt TT.length qt) TT):=ot;have FT10:Hid (FT w10 w.heap.size (.slice (some ⟨g9,0,none⟩) (PF.length+1) cap9) (PF ++ [NN]) u5 PT):=FT9.out.next K10.out;clear hb10 ot;obtain ⟨us,hus,-⟩:=FT10.out.to;have US:Hid (w10.ownsRow w.heap.size 39 1 u5 PT.length us):=hus;have OC:Hid (∀ u ∈ [Value.slice pt TT.length qt],u.oneCell'=true):=OwnS.oneC OT.out;clear hus;dsimp only))
              all_goals
                have bA:Below w10.heap.size w10 (w10.alloc (.cells #[.slice pt TT.length qt] 39)):=(Below.refl _ _).alloc (Nat.le_refl _) _
                have OA:=owns_next US.out bA
                have AP12:ApartE 39 w10 w12:=(ApartE.of_below bA).trans (ApartE.of_grown OA hg12)
                have S12:w10.heap.size≤w12.heap.size:=Nat.le_trans bA.size hg12.size
                have HUD:∀ gg,(Value.slice pt TT.length qt).ownBlock=some gg→(Value.slice (some ⟨g9,0,none⟩) (PF.length+1) cap9).ownBlock≠some gg:=fun gg hgg e=>by
                  have h1:=(OT.out.off hgg).1
                  have h2:=(FT9.out.fr.off e).2
                  omega
                have FT12:Hid (FT w12 w.heap.size (.slice (some ⟨g9,0,none⟩) (PF.length+1) cap9) (PF ++ [NN]) v12 (PT ++ [TT])):=FT10.out.pushT (OwnS.base OT.out B9.out.size) HUD (fun us' h'=>by
                  have e1:=owns_next h' bA
                  have e2:us'=us:=owns_same h' US.out
                  rw [e2];exact ho12) AP12 S12
                have OE12:Hid (OwnE w12 w.heap.size (.slice (some ⟨w.heap.size,0,none⟩) 0 0) []):=OwnE.apart (OE9.out.next K10.out) AP12 S12 (by decide)
                have B12:Hid (Below w.heap.size w w12):=((B9.out.trans (K10.out.mono B9.out.size)).trans (bA.mono (Nat.le_trans B9.out.size K10.out.size))).trans (owns_below OA hg12 (by rw [alloc_hs];have:=FT10.out.fr.2;omega))
                clear ho12 hg12 bA OA AP12 S12 HUD a0 a1 a2 x0 x1 x2 FT9 OE9 F9 B9
                go_wp2_with fail
                refine ⟨⟨b+1,by omega,by go_num,?_,OE12,B12⟩,by simp [intOf];omega⟩
                show FT _ _ _ _ _ _
                rw [HTK.out,List.map_append,List.map_append,HPF.out,HPS.out]
                exact FT12.out
          · have HFE:Hid (FT wr w.heap.size u4 (((ms.take (a+1)).flatMap (ftM d)).map Prod.fst) u5 (((ms.take (a+1)).flatMap (ftM d)).map Prod.snd)):=by
              have h1:=hft.out
              rw [List.take_of_length_le (by rw [HN2.out];omega),← HJJ.out] at h1
              exact h1
            go_wp2_with fail
            exact ⟨⟨a+1,by omega,by go_num,HFE,hoe2,hb2⟩,by simp [intOf];omega⟩
      · have HFE:Hid (FT wr w.heap.size u4 ((ms.flatMap (ftM d)).map Prod.fst) u5 ((ms.flatMap (ftM d)).map Prod.snd)):=by
          have h1:=ho.out
          rw [List.take_of_length_le (by rw [HN.out];omega)] at h1
          exact h1
        clear ho HX HWM HMS HG
        generalize hft:ms.flatMap (ftM d)=ft at *
        have HFL:Hid ((ft.map Prod.fst).length≤2097152):=by show _≤_;rw [List.length_map];exact Nat.le_trans HLEN.out (by omega)
        go_wp2_with fail
        refine (sorted_any _ _ _ (HFE.out.fr.strR HOK.out) HFL.out).mono ?_
        rintro e w3 ⟨un,rfl,on,hb3⟩
        obtain ⟨pn,qn,rfl⟩:=OwnS.slice on
        have FT3:Hid (FT w3 w.heap.size u4 (ft.map Prod.fst) u5 (ft.map Prod.snd)):=HFE.out.next hb3
        have OE3:Hid (OwnE w3 w.heap.size (.slice (some ⟨w.heap.size,0,none⟩) 0 0) []):=hoe.out.next hb3
        have ON3:Hid (OwnS w3 w.heap.size (.slice pn (sortS (ft.map Prod.fst)).length qn) (sortS (ft.map Prod.fst))):=OwnS.base on hb.out.size
        have B3:Hid (Below w.heap.size w w3):=hb.out.trans (hb3.mono hb.out.size)
        obtain ⟨pr,qr,rfl⟩:=OwnS.slice FT3.out.fr
        obtain ⟨pt,qt,rfl,hmt⟩:∃ p q,u5=.slice p (ft.map Prod.snd).length q∧(ft.map Prod.snd).length≤maxLen:=by
          obtain ⟨us,h1,_⟩:=FT3.out.to
          exact owns_slice h1
        have HTE:Hid (graphL d ms=(sortS (ft.map Prod.fst)).flatMap (tlE ft)):=HGL.out
        have hNL:(sortS (ft.map Prod.fst)).length≤1048576:=by
          have e1:=sortS_len (ft.map Prod.fst) (ft.map Prod.fst).length
          rw [List.take_of_length_le (Nat.le_refl _),List.length_map] at e1
          exact Nat.le_trans e1 HLEN.out
        generalize hNS:sortS (ft.map Prod.fst)=NS at *
        have hFR:(ft.map Prod.fst).length=ft.length:=List.length_map ..
        have hTS:(ft.map Prod.snd).length=ft.length:=List.length_map ..
        rw [hFR,hTS] at FT3
        rw [hFR,hTS]
        have hfl:ft.length≤1048576:=HLEN.out
        generalize hnf:ft.length=nf at *
        have HNF:Hid (ft.length=nf):=hnf
        generalize hnn:NS.length=nn at *
        have HNN:Hid (NS.length=nn):=hnn
        clear hlt hb3 on HFE hoe hb hft hNS hFR hTS hnf hnn hmt HGL HFL HLEN HOK
        go_wp2_with fail
        go_loopw [3,10] (fun ov iv wx=>∃ i:Nat,i≤nn∧iv=.int .i64 i∧Hid (OwnE wx w.heap.size ov ((NS.take i).flatMap (tlE ft)))∧Hid (FT wx w.heap.size (.slice pr nf qr) (ft.map Prod.fst) (.slice pt nf qt) (ft.map Prod.snd))∧Hid (OwnS wx w.heap.size (.slice pn nn qn) NS)∧Hid (Below w.heap.size w wx)) (fun _ iv _=>nn - (intOf iv).toNat)
        case atStart=>exact ⟨0,Nat.zero_le _,rfl,by show OwnE _ _ _ _;simpa using OE3.out,FT3,ON3,B3⟩
        case round =>
          obtain ⟨i,hin,rfl,oe,ft4,on4,b4⟩:=hrel
          clear OE3 FT3 ON3 B3
          by_cases hli:i<nn
          · obtain ⟨N,hNi⟩:∃ N,NS[i]?=some N:=⟨NS[i]'(by rw [HNN.out];exact hli),List.getElem?_eq_getElem _⟩
            have hii:(i:Int)<(nn:Int):=by omega
            have hi0:(0:Int)≤(i:Int):=by omega
            have HNI:Hid (NS[i]?=some N):=hNi
            have HT1:Hid ((NS.take (i+1)).flatMap (tlE ft)=(NS.take i).flatMap (tlE ft) ++ ft.flatMap (tlP N)):=by
              show _=_
              rw [List.take_add_one,hNi];simp [tlE_eq]
            have HLA:Hid (((NS.take i).flatMap (tlE ft)).length+1048576≤1048576 * 1048576+1048576):=by
              have h1:=flat_mul (tlE ft) (sumT ft) (fun x=>tlF_len x ft) (NS.take i)
              have h2:(NS.take i).length * sumT ft≤1048576 * 1048576:=Nat.mul_le_mul (by rw [List.length_take];omega) HWS.out
              show _≤_
              omega
            generalize hA:(NS.take i).flatMap (tlE ft)=A at *
            clear hA hNi
            go_wp2_with fail
            go_loopw [3,11] (fun ov iv wx=>∃ k:Nat,k≤nf∧iv=.int .i64 k∧Hid (OwnE wx w.heap.size ov (A ++ (ft.take k).flatMap (tlP N)))∧Hid (FT wx w.heap.size (.slice pr nf qr) (ft.map Prod.fst) (.slice pt nf qt) (ft.map Prod.snd))∧Hid (OwnS wx w.heap.size (.slice pn nn qn) NS)∧Hid (Below w.heap.size w wx)) (fun _ iv _=>nf - (intOf iv).toNat)
            case atStart=>exact ⟨0,Nat.zero_le _,rfl,by show OwnE _ _ _ _;simpa using oe.out,ft4,on4,b4⟩
            case round =>
              obtain ⟨k,hkn,rfl,oe5,ft5,on5,b5⟩:=hrel
              clear oe ft4 on4 b4
              by_cases hlk:k<nf
              · obtain ⟨P,hPk⟩:∃ P,ft[k]?=some P:=⟨ft[k]'(by rw [HNF.out];exact hlk),List.getElem?_eq_getElem _⟩
                obtain ⟨S,T⟩:=P
                have hkk:(k:Int)<(nf:Int):=by omega
                have hk0:(0:Int)≤(k:Int):=by omega
                have HS1:Hid ((ft.map Prod.fst)[k]?=some S):=by show _=_;rw [List.getElem?_map,hPk];rfl
                have HS2:Hid ((ft.map Prod.snd)[k]?=some T):=by show _=_;rw [List.getElem?_map,hPk];rfl
                have HT2:Hid (A ++ (ft.take (k+1)).flatMap (tlP N)=(A ++ (ft.take k).flatMap (tlP N)) ++ tlP N (S,T)):=by
                  show _=_
                  rw [List.take_add_one,hPk];simp
                have HLB:Hid ((A ++ (ft.take k).flatMap (tlP N)).length+T.length≤1048576 * 1048576+1048576):=by
                  have h1:=HLA.out
                  have h2:=tlF_len N (ft.take k)
                  have h3:=HWS.out
                  have h4:((ft.take (k+1)).map fun p=>p.2.length).sum=((ft.take k).map fun p=>p.2.length).sum+T.length:=sum_take_succ (fun p:ByteArray × List ByteArray=>p.2.length) ft k (S,T) hPk
                  have h5:=sum_take_le (fun p:ByteArray × List ByteArray=>p.2.length) ft (k+1)
                  unfold sumT at h2 h3
                  show _≤_
                  rw [List.length_append]
                  omega
                have HTL:Hid (T.length≤1048576):=by
                  have h3:=HWS.out
                  have h4:((ft.take (k+1)).map fun p=>p.2.length).sum=((ft.take k).map fun p=>p.2.length).sum+T.length:=sum_take_succ (fun p:ByteArray × List ByteArray=>p.2.length) ft k (S,T) hPk
                  have h5:=sum_take_le (fun p:ByteArray × List ByteArray=>p.2.length) ft (k+1)
                  unfold sumT at h3
                  show _≤_
                  omega
                generalize hA2:A ++ (ft.take k).flatMap (tlP N)=A2 at *
                clear hA2 hPk
                go_wp2_with fail
                go_loopw [3,12] (fun ov iv wx=>∃ j:Nat,j≤T.length∧iv=.int .i64 j∧Hid (OwnE wx w.heap.size ov (A2 ++ tlP N (S,T.take j)))∧Hid (FT wx w.heap.size (.slice pr nf qr) (ft.map Prod.fst) (.slice pt nf qt) (ft.map Prod.snd))∧Hid (OwnS wx w.heap.size (.slice pn nn qn) NS)∧Hid (Below w.heap.size w wx)) (fun _ iv _=>T.length - (intOf iv).toNat)
                case atStart=>exact ⟨0,Nat.zero_le _,rfl,by show OwnE _ _ _ _;simpa [tlP] using oe5.out,ft5,on5,b5⟩
                case round =>
                  obtain ⟨j,hjn,rfl,oe6,ft6,on6,b6⟩:=hrel
                  clear oe5 ft5 on5 b5
                  obtain ⟨us,hus,hto⟩:=ft6.out.to
                  obtain ⟨u,hu,ou,-⟩:=hto k T HS2.out
                  have hml:(ft.map Prod.snd).length=nf:=by rw [List.length_map];exact HNF.out
                  rw [hml] at hus
                  obtain ⟨gr,rfl,c1⟩:=ft6.out.fr.at HS1.out
                  obtain ⟨gt,rfl,c2⟩:=owns_at hus hu
                  obtain ⟨gn,rfl,c3⟩:=on6.out.at HNI.out
                  obtain ⟨pu,qu,rfl⟩:=OwnS.slice ou
                  have hT:=HTL.out
                  have OU:Hid (OwnS wr w.heap.size (.slice pu T.length qu) T):=ou
                  have USr:Hid (wr.ownsRow w.heap.size 39 1 (.slice (some ⟨gt,0,none⟩) nf qt) nf us):=hus
                  have HU:Hid (us[k]?=some (.slice pu T.length qu)):=hu
                  clear hus hto hu ou hml
                  by_cases hlj:j<T.length
                  · obtain ⟨t,htj⟩:∃ t,T[j]?=some t:=⟨T[j],List.getElem?_eq_getElem _⟩
                    have hji:(j:Int)<(T.length:Int):=by omega
                    have hj0:(0:Int)≤(j:Int):=by omega
                    by_cases hSN:S=N
                    · subst hSN
                      have hsb:(S.toList == S.toList)=true:=by simp
                      obtain ⟨gu,rfl,c4⟩:=OU.out.at htj
                      go_wp2_with fail
                      go_quiet (fail)
                      have KD:Hid (Below wr.heap.size wr (wr.drewN nq)):=⟨rfl,rfl,rfl,Nat.le_refl _,fun _ _=>rfl⟩
                      have FTq:Hid (FT (wr.drewN nq) w.heap.size (.slice (some ⟨gr,0,none⟩) nf qr) (ft.map Prod.fst) (.slice (some ⟨gt,0,none⟩) nf qt) (ft.map Prod.snd)):=ft6.out.next KD.out
                      have ONq:Hid (OwnS (wr.drewN nq) w.heap.size (.slice (some ⟨gn,0,none⟩) nn qn) NS):=on6.out.next KD.out
                      have OUq:Hid (OwnS (wr.drewN nq) w.heap.size (.slice (some ⟨gu,0,none⟩) T.length qu) T):=OU.out.next KD.out
                      have OEq:Hid (OwnE (wr.drewN nq) w.heap.size u3 (A2 ++ tlP S (S,T.take j))):=oe6.out.next KD.out
                      have Bq:Hid (Below w.heap.size w (wr.drewN nq)):=b6.out.trans (KD.out.mono b6.out.size)
                      generalize wr.drewN nq=wq at *
                      clear oe6 ft6 on6 b6 OU c1 c2 c3 c4
                      have USq:Hid (wq.ownsRow w.heap.size 39 1 (.slice (some ⟨gt,0,none⟩) nf qt) nf us):=owns_next USr.out KD.out
                      have CLS:Hid (∀ w9,ApartE 51 wq w9→w9.cell? ⟨gn,i,none⟩=some (.string S)∧w9.cell? ⟨gt,k,none⟩=some (.slice (some ⟨gu,0,none⟩) T.length qu)∧w9.cell? ⟨gu,j,none⟩=some (.string t)):=fun w9 ha=>by
                        have h1:w9.ownsRow w.heap.size 9 1 (.slice (some ⟨gn,0,none⟩) nn qn) NS.length (strs NS):=ha.owns ONq.out.1 (by decide)
                        have h2:w9.ownsRow w.heap.size 39 1 (.slice (some ⟨gt,0,none⟩) nf qt) nf us:=ha.owns USq.out (by decide)
                        have h3:w9.ownsRow w.heap.size 9 1 (.slice (some ⟨gu,0,none⟩) T.length qu) T.length (strs T):=ha.owns OUq.out.1 (by decide)
                        rw [HNN.out] at h1
                        refine ⟨(h1.cellAt i (by omega)).trans (by rw [strs,List.getElem?_map,HNI.out];rfl),(h2.cellAt k (by omega)).trans HU.out,(h3.cellAt j (by omega)).trans (by rw [strs,List.getElem?_map,htj];rfl)⟩
                      have bA:Below wq.heap.size wq (wq.alloc (.cells #[.string S,.string t] 51)).drew:=((Below.refl _ _).alloc (Nat.le_refl _) _).drew
                      have OA:Hid (OwnE (wq.alloc (.cells #[.string S,.string t] 51)).drew w.heap.size u3 (A2 ++ tlP S (S,T.take j))):=OEq.out.next bA
                      have HGA:Hid ((wq.alloc (.cells #[.string S,.string t] 51)).drew.heap[wq.heap.size]?=some (Obj.cells #[.string S,.string t] 51 (0,0))):=heap_alloc_new wq _
                      have AA:Hid (ApartE 51 wq (wq.alloc (.cells #[.string S,.string t] 51)).drew):=ApartE.of_below bA
                      have BA:Hid (Below w.heap.size w (wq.alloc (.cells #[.string S,.string t] 51)).drew):=Bq.out.trans (bA.mono Bq.out.size)
                      have HLJ:Hid ((A2 ++ tlP S (S,T.take j)).length+1≤2199023255552):=by
                        have h1:=HLB.out
                        have h2:=tlP_len S (S,T.take j)
                        have h3:(T.take j).length≤T.length:=by rw [List.length_take];omega
                        show _≤_
                        rw [List.length_append]
                        simp only at h2
                        omega
                      have HJJ:Hid (A2 ++ tlP S (S,T.take (j+1))=(A2 ++ tlP S (S,T.take j)) ++ [(S,t)]):=by
                        show _=_
                        unfold tlP
                        rw [if_pos rfl,if_pos rfl,List.take_add_one,htj]
                        simp
                      obtain ⟨y1,y2,y3⟩:=CLS.out wq (ApartE.refl _ _)
                      generalize hA3:A2 ++ tlP S (S,T.take j)=A3 at *
                      clear bA hA3 htj
                      go_wp2_with fail
                      go_region_held3 (fun w'=>w'.cell? ⟨gn,i,none⟩=some (.string S)∧w'.cell? ⟨gt,k,none⟩=some (.slice (some ⟨gu,0,none⟩) T.length qu)∧w'.cell? ⟨gu,j,none⟩=some (.string t))
                        (first | go_keep | (go_split_ands;refine ⟨?_,?_,?_⟩ <;> exact cell_next ((Below.refl _ _).alloc (Nat.le_refl _) _) (by assumption)) | exact nx9)
                        (first
                          | (refine step_append_pair (by rfl) _ _ (by rfl) OA.out wq.heap.size (S,t) HGA.out (by rfl) (by rfl) HLJ.out ?_;intro v9 w9 ho9 hb9 hap9;have nx9:=CLS.out w9 (AA.out.trans hap9)))
                      all_goals
                        have AP9:ApartE 51 wq w9:=AA.out.trans hap9
                        have S9:wq.heap.size≤w9.heap.size:=Nat.le_trans (by show _≤(wq.alloc _).heap.size;rw [alloc_hs];omega) hb9.size
                        have HO9:Hid (OwnE w9 w.heap.size v9 (A2 ++ tlP S (S,T.take (j+1)))):=by show OwnE _ _ _ _;rw [HJJ.out];exact ho9
                        have FT9:Hid (FT w9 w.heap.size (.slice (some ⟨gr,0,none⟩) nf qr) (ft.map Prod.fst) (.slice (some ⟨gt,0,none⟩) nf qt) (ft.map Prod.snd)):=FTq.out.apart AP9 S9 (by decide) (by decide)
                        have ON9:Hid (OwnS w9 w.heap.size (.slice (some ⟨gn,0,none⟩) nn qn) NS):=ONq.out.apart AP9 S9 (by decide)
                        have B9:Hid (Below w.heap.size w w9):=BA.out.trans hb9
                        clear ho9 hb9 hap9 AP9 S9
                        go_wp2_with fail
                        exact ⟨⟨j+1,by omega,by go_num,HO9,FT9,ON9,B9⟩,by simp [intOf];omega⟩
                    · have hsb:(S.toList == N.toList)=false:=by simpa using str_ne hSN
                      have HZ:Hid (A2 ++ tlP N (S,T.take j)=A2 ++ tlP N (S,T)):=by show _=_;unfold tlP;rw [if_neg hSN,if_neg hSN]
                      go_wp2_with fail
                      go_quiet (fail)
                      have KD:Hid (Below wr.heap.size wr (wr.drewN nq)):=⟨rfl,rfl,rfl,Nat.le_refl _,fun _ _=>rfl⟩
                      have FTq:Hid (FT (wr.drewN nq) w.heap.size (.slice (some ⟨gr,0,none⟩) nf qr) (ft.map Prod.fst) (.slice (some ⟨gt,0,none⟩) nf qt) (ft.map Prod.snd)):=ft6.out.next KD.out
                      have ONq:Hid (OwnS (wr.drewN nq) w.heap.size (.slice (some ⟨gn,0,none⟩) nn qn) NS):=on6.out.next KD.out
                      have OEq:Hid (OwnE (wr.drewN nq) w.heap.size u3 (A ++ (ft.take (k+1)).flatMap (tlP N))):=by show OwnE _ _ _ _;rw [HT2.out,← HZ.out];exact oe6.out.next KD.out
                      have Bq:Hid (Below w.heap.size w (wr.drewN nq)):=b6.out.trans (KD.out.mono b6.out.size)
                      generalize wr.drewN nq=wq at *
                      clear oe6 ft6 on6 b6 OU c1 c2 c3
                      go_wp2_with fail
                      exact ⟨⟨k+1,by omega,by go_num,OEq,FTq,ONq,Bq⟩,by simp [intOf];omega⟩
                  · have hji:¬ (j:Int)<(T.length:Int):=by omega
                    have HZ:Hid (A2 ++ tlP N (S,T.take j)=A2 ++ tlP N (S,T)):=by show _=_;rw [List.take_of_length_le (by omega)]
                    go_wp2_with fail
                    go_quiet (fail)
                    have KD:Hid (Below wr.heap.size wr (wr.drewN nq)):=⟨rfl,rfl,rfl,Nat.le_refl _,fun _ _=>rfl⟩
                    have FTq:Hid (FT (wr.drewN nq) w.heap.size (.slice (some ⟨gr,0,none⟩) nf qr) (ft.map Prod.fst) (.slice (some ⟨gt,0,none⟩) nf qt) (ft.map Prod.snd)):=ft6.out.next KD.out
                    have ONq:Hid (OwnS (wr.drewN nq) w.heap.size (.slice (some ⟨gn,0,none⟩) nn qn) NS):=on6.out.next KD.out
                    have OEq:Hid (OwnE (wr.drewN nq) w.heap.size u3 (A ++ (ft.take (k+1)).flatMap (tlP N))):=by show OwnE _ _ _ _;rw [HT2.out,← HZ.out];exact oe6.out.next KD.out
                    have Bq:Hid (Below w.heap.size w (wr.drewN nq)):=b6.out.trans (KD.out.mono b6.out.size)
                    generalize wr.drewN nq=wq at *
                    clear oe6 ft6 on6 b6 OU c1 c2 c3
                    go_wp2_with fail
                    exact ⟨⟨k+1,by omega,by go_num,OEq,FTq,ONq,Bq⟩,by simp [intOf];omega⟩
              · have OE9:Hid (OwnE wr w.heap.size u3 ((NS.take (i+1)).flatMap (tlE ft))):=by
                  have h1:=oe5.out
                  rw [List.take_of_length_le (by rw [HNF.out];omega),← HT1.out] at h1
                  exact h1
                go_wp2_with fail
                exact ⟨⟨i+1,by omega,by go_num,OE9,ft5,on5,b5⟩,by simp [intOf];omega⟩
          · have OE9:Hid (OwnE wr w.heap.size u3 (graphL d ms)):=by
              have h1:=oe.out
              rw [List.take_of_length_le (by rw [HNN.out];omega),← HTE.out] at h1
              exact h1
            go_wp2_with fail
            go_ret
            exact ⟨_,rfl,OE9.out,b4.out⟩
end Go.Proofs.YtkkabbfdjhcfcaaGreatDoor
