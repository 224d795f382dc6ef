/-
  ReachProg UnusImpl
-/
import Derived.Test.YtonpgdfpgpepiaaGreatDoorP43
import Derived.Test.YtonpgdfpgpepiaaGreatDoorP48
set_option maxHeartbeats 16000000
set_option linter.unusedVariables false
set_option maxRecDepth 100000
namespace Go.Proofs.YtonpgdfpgpepiaaGreatDoor
open Go.ChangeShapes Go.WideShapes Go.ChangeAt Go.RowKit
theorem fndL_succ (N:List ByteArray) (met:List Bool) (k:Nat):fndL N met (k+1)=if met[k]?=some true then fndL N met k ++ (N[k]?).toList else fndL N met k:=rfl
theorem found_any (w:World) (s gc gm nn B qn:Nat) (pn:Option Addr) (N:List ByteArray) (met:List Bool) (hv:Value) (hs:Blk w s #[.slice pn nn qn,.slice (some ⟨gc,0,none⟩) nn nn,.slice (some ⟨gm,0,none⟩) nn nn,hv] 114) (hm:Blk w gm (met.map Value.bool).toArray 4) (ho:OwnS w B (.slice pn nn qn) N) (hml:met.length=nn) (hnb:nn≤1048576) :
    Calls Tryz.prog 46 #[.pointer (some ⟨s,0,none⟩)] w fun e w'=>∃ u,e=.returned u∧OwnS w' w.heap.size u (fndL N met nn)∧Below w.heap.size w w':=by
  have hnn:nn=N.length:=by obtain ⟨p,c,e,_⟩:=owns_slice ho.1;cases e;rfl
  have HS:Hid (Blk w s #[.slice pn nn qn,.slice (some ⟨gc,0,none⟩) nn nn,.slice (some ⟨gm,0,none⟩) nn nn,hv] 114):=hs
  have HM:Hid (Blk w gm (met.map Value.bool).toArray 4):=hm
  have HO:Hid (OwnS w B (.slice pn nn qn) N):=ho
  have HNN:Hid (nn=N.length):=hnn
  have HML:Hid (met.length=nn):=hml
  obtain ⟨i0,hi,hz0,hz1,hz2⟩:=info_parts info_str
  have B1:Hid (Below w.heap.size w (w.alloc (.cells #[] 9))):=(Below.refl _ _).alloc (Nat.le_refl _) _
  have O1:Hid (OwnS (w.alloc (.cells #[] 9)) w.heap.size (.slice (some ⟨w.heap.size,0,none⟩) 0 0) []):=OwnS.fresh
  have c0:=(hs.next B1.out).cell 0 _ rfl
  clear hs hm ho hnn hml
  go_enter Tryz.func46,Tryz.ntmps46
  go_wp2_with fail
  go_loopw [3,4,5,12] (fun lv s4 s5 iv wx=>∃ i:Nat,i≤nn∧iv=.int .i64 i∧Hid (OwnS wx w.heap.size lv (fndL N met i))∧Hid (Below w.heap.size w wx)) (fun _ _ _ iv _=>nn - (intOf iv).toNat)
  case atStart=>exact ⟨0,Nat.zero_le _,rfl,O1,B1⟩
  case round =>
    obtain ⟨i,hin,rfl,oo,hb⟩:=hrel
    clear B1 O1 c0
    by_cases hlt:i<nn
    · obtain ⟨x,hx⟩:∃ x,N[i]?=some x:=⟨N[i]'(by rw [← HNN.out];exact hlt),List.getElem?_eq_getElem _⟩
      obtain ⟨b,hbm⟩:∃ b,met[i]?=some b:=⟨met[i]'(by rw [HML.out];exact hlt),List.getElem?_eq_getElem _⟩
      obtain ⟨gn,rfl,cn⟩:=(HO.out.next hb.out).at hx
      have c2:=(HS.out.next hb.out).cell 2 _ rfl
      have cm:wr.cell? ⟨gm,i,none⟩=some (.bool b):=(HM.out.next hb.out).cell i _ (by simp [hbm])
      have hii:(i:Int)<(nn:Int):=by omega
      have hi00:(0:Int)≤(i:Int):=by omega
      have hlen:=fndL_len N met i
      have HX:Hid (N[i]?=some x):=hx
      have HBM:Hid (met[i]?=some b):=hbm
      clear hx hbm
      cases b with
      | true =>
        have HF:Hid (fndL N met (i+1)=fndL N met i ++ [x]):=by show _=_;rw [fndL_succ,if_pos HBM.out,HX.out];rfl
        generalize fndL N met i=F at *
        have K1:Hid (Below wr.heap.size wr (wr.alloc (.cells #[.string x] 9))):=(Below.refl _ _).alloc (Nat.le_refl _) _
        have OA:Hid (OwnS (wr.alloc (.cells #[.string x] 9)) w.heap.size u3 F):=oo.out.next K1.out
        have NA:Hid (∀ j u,(strs [x])[j]?=some u→(wr.alloc (.cells #[.string x] 9)).cell? ((⟨wr.heap.size,0,none⟩:Addr).add j)=some u):=one_str wr x _ rfl
        go_wp2_with (at_builtin;refine wpList_append_own _ rfl _ _ 24 rfl w.heap.size 9 i0 (.string ⟨#[]⟩) 1 16 Tryz.underlying24 hi hz0 hz1 hz2 rfl (by decide) u3 _ _ rfl OA.out.1 _ 1 1 (strs [x]) rfl rfl NA.out (strs_oneCell _) (by unfold maxLen;omega) (by omega) OA.out.2 ?_;intro v9 w9 ho9 hg9 _;have O9:Hid (OwnS w9 w.heap.size v9 (F ++ [x])):=OwnS.of ho9 (by simp) rfl (Nat.le_trans OA.out.2 hg9.size);have B9:Hid (Below w.heap.size w w9):=(hb.out.trans (K1.out.mono hb.out.size)).trans (OA.out.below hg9);clear ho9 hg9 cn c2 cm)
        refine ⟨⟨i+1,by omega,by go_num,?_,B9⟩,by simp [intOf];omega⟩
        show OwnS _ _ _ _
        rw [HF.out]
        exact O9.out
      | false =>
        have HF:Hid (fndL N met (i+1)=fndL N met i):=by show _=_;rw [fndL_succ,if_neg (by rw [HBM.out];simp)]
        go_wp2_with fail
        refine ⟨⟨i+1,by omega,by go_num,?_,hb⟩,by simp [intOf];omega⟩
        show OwnS _ _ _ _
        rw [HF.out]
        exact oo.out
    · have HE:Hid (OwnS wr w.heap.size u3 (fndL N met nn)):=by
        have h1:=oo.out
        rw [show i=nn by omega] at h1
        exact h1
      go_wp2_with fail
      go_ret
      exact ⟨_,rfl,HE.out,hb.out⟩
theorem Met1.inL {met met':List Bool} {W W':List Nat} {p:Nat} (h:Met1 met W p met' W') (hw:∀ q:Nat,met[q]?=some true→q ∈ W):∀ q:Nat,met'[q]?=some true→q ∈ W':=fun q hq =>
  Classical.byContradiction fun hn=>by
    obtain ⟨h1,h2⟩:=h.new hq hn
    exact h2 (hw q h1)
theorem progReached_any (d:Nat) (w:World) (v:Value) (ms:List Md) (l:List ByteArray) (hl:IsReach d ms l) (h:Rows w All 3 (HMd w All d) v ms) (hw:wtS (wtMd d) ms≤1048576) (hp:PowAt w) (hg:goodB d ms=true) :
    Calls Tryz.prog 21 #[.agg #[v]] w fun e w'=>∃ u,e=.returned u∧OwnS w' w.heap.size u l∧Below w.heap.size w w':=by
  have HRT:Hid (Rows w (fun g=>g<w.heap.size) 3 (HMd w (fun g=>g<w.heap.size) d) v ms):=Rows.tight h (fun _ _ h=>md_tight h)
  have HPG:Hid (2<w.heap.size):=powAt_lt hp
  have HP:Hid (PowAt w):=hp
  have HMS:Hid (∀ w',Below w.heap.size w w'→Rows w' All 3 (HMd w' All d) v ms):=fun w' hw=>h.mono (SameOn.of_below hw) (fun _ h=>h) (fun _ _ _ h=>h.mono (SameOn.of_below hw) (fun _ h=>h))
  have HWS:Hid (wtS (wtMd d) ms≤1048576):=hw
  have HG:Hid (goodB d ms=true):=hg
  have HLR:Hid (∀ x,x ∈ l ↔ Rch (graphL d ms) (expL ms) x):=fun x=>(hl.2 x).trans ⟨fun h=>h.2,fun h=>⟨hg,h⟩⟩
  have HLA:Hid (l.Pairwise (fun a b=>cmpS a b<0)):=hl.1
  have HRF:Hid (∀ m ∈ ms,∀ r ∈ m.exports,okS r.name∧okI r.arity):=fun m hm r hr=>rows_arityX h hm hr
  have HWM:Hid (∀ (k:Nat) (m:Md),ms[k]?=some m→wtMd d m≤1048576):=fun k m hk=>Nat.le_trans (wt_mem (wtMd d) (List.mem_of_getElem? hk)) hw
  obtain ⟨p,cap,rfl,hcl,hcm,hx⟩:=HRT.out
  have HX:Hid (ms≠[]→∃ g off,p=some ⟨g,off,none⟩∧g<w.heap.size∧g<w.heap.size∧∀ i x,ms[i]?=some x→∃ cs,cs.length=3∧(∀ j,j<3→w.cell? ⟨g,off+i * 3+j,none⟩=cs[j]?)∧HMd w (fun g=>g<w.heap.size) d cs x):=hx
  have hnb:ms.length≤9223372036854775807:=by unfold maxLen at hcm;omega
  generalize hn:ms.length=n at *
  have HN:Hid (ms.length=n):=hn
  have B1:Hid (Below w.heap.size w (w.alloc (.cells #[.slice p n cap] 52))):=(Below.refl _ _).alloc (Nat.le_refl _) _
  have P1:Hid (Blk (w.alloc (.cells #[.slice p n cap] 52)) w.heap.size #[.slice p n cap] 52):=Blk.new
  have NS:Hid (∀ w',Below w.heap.size w w'→Calls Tryz.prog 42 #[.agg #[.slice p n cap]] w' fun e w''=>∃ (s gc gm:Nat) (pn:Option Addr) (qn:Nat) (cl:List (List Nat)),e=.returned (.pointer (some ⟨s,0,none⟩))∧Blk w'' s #[.slice pn (namesL d ms).length qn,.slice (some ⟨gc,0,none⟩) (namesL d ms).length (namesL d ms).length,.slice (some ⟨gm,0,none⟩) (namesL d ms).length (namesL d ms).length,.slice none 0 0] 114∧CalR w'' w'.heap.size gc cl∧CalOf (sortS (namesL d ms)) (graphL d ms) cl∧Blk w'' gm (Array.replicate (namesL d ms).length (.bool false)) 4∧OwnS w'' w'.heap.size (.slice pn (namesL d ms).length qn) (sortS (namesL d ms))∧(w'.heap.size≤s∧w'.heap.size≤gc∧w'.heap.size≤gm)∧Below w'.heap.size w' w''):=fun w' hb=>newSearch_any d w' _ ms (HMS.out w' hb) hw (powAt_low HP.out HPG.out (hb.block _ HPG.out)) hg
  clear hx hn hw hl h hp hg HRT
  go_enter Tryz.func21,Tryz.ntmps21
  have c0:=P1.out.cell 0 _ rfl
  go_wp2_with fail
  refine (NS.out _ B1.out).mono ?_
  rintro e w0 ⟨s,gc,gm,pn,qn,cl,rfl,hs0,hc0,hca,hm0,ho0,hge,hb0⟩
  obtain ⟨us,hcu⟩:=hc0
  have H0S:Hid (Blk w0 s #[.slice pn (namesL d ms).length qn,.slice (some ⟨gc,0,none⟩) (namesL d ms).length (namesL d ms).length,.slice (some ⟨gm,0,none⟩) (namesL d ms).length (namesL d ms).length,.slice none 0 0] 114):=hs0
  have H0M:Hid (Blk w0 gm (Array.replicate (namesL d ms).length (.bool false)) 4):=hm0
  have H0C:Hid (CalU w0 0 gc us cl):=⟨hcu.blk,hcu.len,fun i r hr=>by obtain ⟨u,h1,h2⟩:=hcu.row i r hr;exact ⟨u,h1,owns_base h2.1,Nat.zero_le _⟩,hcu.off⟩
  have H0O:Hid (OwnS w0 0 (.slice pn (namesL d ms).length qn) (sortS (namesL d ms))):=⟨owns_base ho0.1,Nat.zero_le _⟩
  have HCA:Hid (CalOf (sortS (namesL d ms)) (graphL d ms) cl):=hca
  have hB0:Below w.heap.size w w0:=B1.out.trans (hb0.mono B1.out.size)
  have HB0:Hid (Below w.heap.size w w0):=hB0
  have HGE:Hid (w.heap.size≤s∧w.heap.size≤gm):=by
    have:=B1.out.size
    obtain ⟨x1,x2,x3⟩:=hge
    show _∧_
    omega
  have HP0:Hid (Blk w0 w.heap.size #[.slice p n cap] 52):=P1.out.next hb0
  have HND:Hid ((namesL d ms).Nodup):=names_nodup (by have:=HG.out;unfold goodB at this;simp only [Bool.and_eq_true] at this;exact this.1)
  have HLS:Hid ((sortS (namesL d ms)).length=(namesL d ms).length):=by
    have:=congrArg List.length (sortKeys HND.out)
    rw [List.length_mergeSort,List.length_map,List.length_map] at this
    exact this.symm
  have hnn:(namesL d ms).length≤1048576:=Nat.le_trans (namesL_len d ms) HWS.out
  have HAS:Hid ((sortS (namesL d ms)).Pairwise (fun a b=>cmpS a b<0)):=sortS_asc _
  have HEX:Hid (∀ x ∈ expL ms,∃ i:Nat,(sortS (namesL d ms))[i]?=some x):=fun x hx=>List.mem_iff_getElem?.1 ((sortS_iff _ _).2 (good_exp HG.out x hx))
  have HED:Hid (∀ e ∈ graphL d ms,e.1 ∈ sortS (namesL d ms)∧e.2 ∈ sortS (namesL d ms)):=fun e he=>by
    obtain ⟨h1,h2⟩:=good_edge HG.out e he
    exact ⟨(sortS_iff _ _).2 h1,(sortS_iff _ _).2 h2⟩
  have HGLN:Hid ((graphL d ms).length≤1048576):=by
    show _≤_
    unfold graphL
    rw [HG.out,if_pos rfl,← graph_same (by have:=HG.out;unfold goodB at this;simp only [Bool.and_eq_true] at this;exact this.1)]
    have h1:=compactE_len (sortE (edgesOf nmT d ms))
    rw [(sortE_perm _).length_eq,edges_pairs] at h1
    have h2:=edK_len d (pairL ms)
    have h3:=pre_sum d ms
    have h4:=HWS.out
    rw [edges_pairs]
    omega
  generalize hNN:sortS (namesL d ms)=N at *
  have HNQ:Hid (sortS (namesL d ms)=N):=hNN
  generalize hnn':(namesL d ms).length=nn at *
  generalize hE:graphL d ms=E at *
  have HEE:Hid (graphL d ms=E):=hE
  have X0:Hid (Sx w0 w0 s gc gm nn (.slice pn nn qn) (List.replicate nn false) []):=⟨⟨⟨.slice none 0 0,H0S.out,⟨by simp [intC],.inl ⟨rfl,rfl⟩⟩,Nat.le_refl _⟩,by have:=H0M.out;simpa using this,H0M.out.lt,by simp⟩,FrM.refl _ _ _ _⟩
  have Z0:∀ q:Nat,(List.replicate nn false)[q]?=some true→False:=fun q hq=>by
    rw [List.getElem?_replicate] at hq
    split at hq <;> cases hq
  have I0:Hid (MetI nn (fun p=>∃ y,N[p]?=some y∧Rch E (expL ms) y) (List.replicate nn false) []):=⟨by simp,fun p hp=>(by cases hp),fun p hp=>(Z0 p hp).elim,Nat.zero_le _⟩
  have L0:Hid (∀ q:Nat,(List.replicate nn false)[q]?=some true→q ∈ ([]:List Nat)):=fun q hq=>(Z0 q hq).elim
  have CNT:Hid (∀ m:List Bool,m.length=nn→m.count true≤nn):=fun m hm=>by rw [← hm];exact List.count_le_length
  have c0:=HP0.out.cell 0 _ rfl
  clear Z0 hs0 hca hm0 ho0 hge hb0 hcu hNN hnn' hE hB0 NS P1
  go_wp2_with fail
  go_loopw [13] (fun iv wr=>∃ (a:Nat) (met:List Bool) (L:List Nat),a≤n∧iv=.int .i64 a∧Hid (Sx w0 wr s gc gm nn (.slice pn nn qn) met L)∧Hid (MetI nn (fun p=>∃ y,N[p]?=some y∧Rch E (expL ms) y) met L)∧Hid (∀ q:Nat,met[q]?=some true→q ∈ L)∧Hid (∀ x ∈ (ms.take a).flatMap expM,∃ i:Nat,N[i]?=some x∧met[i]?=some true)) (fun iv _=>n - (intOf iv).toNat)
  case atStart=>exact ⟨0,_,[],Nat.zero_le _,rfl,X0,I0,L0,fun x hx=>by simp at hx⟩
  case round =>
    obtain ⟨a,met,L,ha,rfl,hx,hi,hl,hr⟩:=hrel
    clear X0 I0 L0 c0
    by_cases hlt:a<n
    · obtain ⟨m,hmk⟩:∃ m,ms[a]?=some m:=⟨ms[a]'(by rw [HN.out];exact hlt),List.getElem?_eq_getElem _⟩
      obtain ⟨g,off,rfl,hgl,-,hat⟩:=HX.out (by intro h;rw [h] at hmk;simp at hmk)
      obtain ⟨cs,hcsl,hcs,hm⟩:=hat a m hmk
      obtain ⟨ev,fv,rfl,hms,he,hf⟩:=hm
      obtain ⟨pe,ce,rfl,hce,hcme,hxe⟩:=he
      obtain ⟨pf,cf,rfl,-⟩:=hf
      have HXE:Hid (m.exports≠[]→∃ g off,pe=some ⟨g,off,none⟩∧g<w.heap.size∧g<w.heap.size∧∀ i x,m.exports[i]?=some x→∃ cs,cs.length=2∧(∀ j,j<2→w.cell? ⟨g,off+i * 2+j,none⟩=cs[j]?)∧HRf cs x):=hxe
      have hmn:m.name.size≤1048576:=by have:=HWM.out a m hmk;unfold wtMd at this;omega
      have HWR:Hid (∀ (k:Nat) (r:Rf),m.exports[k]?=some r→r.name.size≤1048576):=fun k r hk=>by
        have h1:=HWM.out a m hmk
        have h2:=wt_mem wtRf (List.mem_of_getElem? hk)
        have h3:wtMd d m=m.name.size+wtS wtRf m.exports+wtS (wtFn d) m.funs:=rfl
        have h4:wtRf r=r.name.size:=rfl
        show _≤_
        omega
      have HAR:Hid (∀ (k:Nat) (r:Rf),m.exports[k]?=some r→okI r.arity):=fun k r hk=>(HRF.out m (List.mem_of_getElem? hmk) r (List.mem_of_getElem? hk)).2
      have HIN:Hid (∀ (k:Nat) (r:Rf),m.exports[k]?=some r→expF m r ∈ expL ms):=fun k r hk=>List.mem_flatMap.2 ⟨m,List.mem_of_getElem? hmk,List.mem_map.2 ⟨r,List.mem_of_getElem? hk,rfl⟩⟩
      have HTK:Hid ((ms.take (a+1)).flatMap expM=(ms.take a).flatMap expM ++ m.exports.map (expF m)):=by
        show _=_
        rw [List.take_add_one,hmk];simp [expM]
      have hbW:Below w.heap.size w wr:=HB0.out.trans (hx.out.fr.below HB0.out.size HGE.out.1 HGE.out.2 HB0.out.size)
      have a0:=(hbW.cell (p:=⟨g,off+a * 3+0,none⟩) hgl).trans (hcs 0 (by omega))
      have a1:=(hbW.cell (p:=⟨g,off+a * 3+1,none⟩) hgl).trans (hcs 1 (by omega))
      have a2:=(hbW.cell (p:=⟨g,off+a * 3+2,none⟩) hgl).trans (hcs 2 (by omega))
      simp at a0 a1 a2
      have hai:(a:Int)<(n:Int):=by omega
      have ha0:(0:Int)≤(a:Int):=by omega
      have hne:m.exports.length≤9223372036854775807:=by unfold maxLen at hcme;omega
      generalize hn1:m.exports.length=ne at *
      generalize m.funs.length=nf at *
      have HN1:Hid (m.exports.length=ne):=hn1
      obtain ⟨bm,hbm⟩:∃ bm,bm=wr.heap.size:=⟨_,rfl⟩
      have HBM:Hid (wr.heap.size=bm):=hbm.symm
      have KM:Hid (Below wr.heap.size wr (wr.alloc (.cells #[.string m.name,.slice pe ne ce,.slice pf nf cf] 42))):=(Below.refl _ _).alloc (Nat.le_refl _) _
      have M1:Hid (Blk (wr.alloc (.cells #[.string m.name,.slice pe ne ce,.slice pf nf cf] 42)) bm #[.string m.name,.slice pe ne ce,.slice pf nf cf] 42):=by show Blk _ _ _ _;rw [hbm];exact Blk.new
      have X1:Hid (Sx w0 (wr.alloc (.cells #[.string m.name,.slice pe ne ce,.slice pf nf cf] 42)) s gc gm nn (.slice pn nn qn) met L):=hx.out.next KM.out
      clear hxe hcs hcsl hat hms hn1 hmk hcme hce hbW hbm
      go_wp2_with fail
      rw [HBM.out]
      clear a0 a1 a2 hx
      go_loopw [20] (fun jv wx=>∃ (b:Nat) (met:List Bool) (L:List Nat),b≤ne∧jv=.int .i64 b∧Hid (Sx w0 wx s gc gm nn (.slice pn nn qn) met L)∧Hid (MetI nn (fun p=>∃ y,N[p]?=some y∧Rch E (expL ms) y) met L)∧Hid (∀ q:Nat,met[q]?=some true→q ∈ L)∧Hid (∀ x ∈ (ms.take a).flatMap expM ++ (m.exports.take b).map (expF m),∃ i:Nat,N[i]?=some x∧met[i]?=some true)∧Hid (Blk wx bm #[.string m.name,.slice pe ne ce,.slice pf nf cf] 42)) (fun jv _=>ne - (intOf jv).toNat)
      case atStart=>exact ⟨0,met,L,Nat.zero_le _,rfl,X1,hi,hl,fun x hx=>hr.out x (by simpa using hx),M1⟩
      case round =>
        obtain ⟨b,met,L,hbn,rfl,hx,hi,hl,hr,hbmB⟩:=hrel
        clear X1 M1
        by_cases hlb:b<ne
        · obtain ⟨r,hrk⟩:∃ r,m.exports[b]?=some r:=⟨m.exports[b]'(by rw [HN1.out];exact hlb),List.getElem?_eq_getElem _⟩
          obtain ⟨g5,o5,rfl,hgl5,-,hat5⟩:=HXE.out (by intro h;rw [h] at hrk;simp at hrk)
          obtain ⟨cs5,hcsl5,hcs5,rfl,hrs,hra⟩:=hat5 b r hrk
          have hbW:Below w.heap.size w wr:=HB0.out.trans (hx.out.fr.below HB0.out.size HGE.out.1 HGE.out.2 HB0.out.size)
          have b0:=(hbW.cell (p:=⟨g5,o5+b * 2+0,none⟩) hgl5).trans (hcs5 0 (by omega))
          have b1:=(hbW.cell (p:=⟨g5,o5+b * 2+1,none⟩) hgl5).trans (hcs5 1 (by omega))
          simp at b0 b1
          have hbi:(b:Int)<(ne:Int):=by omega
          have hb0:(0:Int)≤(b:Int):=by omega
          have KR:Hid (Below wr.heap.size wr (wr.alloc (.cells #[.string r.name,.int .i64 r.arity] 57))):=(Below.refl _ _).alloc (Nat.le_refl _) _
          have MB:Hid (Blk (wr.alloc (.cells #[.string r.name,.int .i64 r.arity] 57)) bm #[.string m.name,.slice (some ⟨g5,o5,none⟩) ne ce,.slice pf nf cf] 42):=hbmB.out.next KR.out
          have m0:=MB.out.cell 0 _ rfl
          have FN:Hid (Calls Tryz.prog 23 #[.string m.name,.agg #[.string r.name,.int .i64 r.arity]] (wr.alloc (.cells #[.string r.name,.int .i64 r.arity] 57)) fun e w''=>e=.returned (.string (expF m r))∧Below (wr.alloc (.cells #[.string r.name,.int .i64 r.arity] 57)).heap.size (wr.alloc (.cells #[.string r.name,.int .i64 r.arity] 57)) w''):=fullName_any _ m.name r.name r.arity hmn (HWR.out b r hrk) (HAR.out b r hrk) (powAt_low HP.out HPG.out ((hbW.trans (KR.out.mono hbW.size)).block _ HPG.out))
          obtain ⟨q,hq⟩:=HEX.out (expF m r) (HIN.out b r hrk)
          have HQ:Hid (N[q]?=some (expF m r)):=hq
          have HRQ:Hid (∃ y,N[q]?=some y∧Rch E (expL ms) y):=⟨_,hq,Rch.root (HIN.out b r hrk)⟩
          have hqn:q<nn:=by rw [← HLS.out];exact (List.getElem?_eq_some_iff.1 hq).1
          have hLb:L.length≤1048576:=Nat.le_trans (Nat.le_trans hi.out.cnt (CNT.out _ hi.out.len)) hnn
          have HTB:Hid ((m.exports.take (b+1)).map (expF m)=(m.exports.take b).map (expF m) ++ [expF m r]):=by
            show _=_
            rw [List.take_add_one,hrk];simp
          generalize expF m r=xn at *
          clear hcs5 hcsl5 hat5 hrs hra hrk hq hbW
          go_wp2_with fail
          refine FN.out.mono ?_
          rintro e w4 ⟨rfl,hb4⟩
          have K4:Hid (Below wr.heap.size wr w4):=KR.out.trans (hb4.mono KR.out.size)
          have X4:Hid (Sx w0 w4 s gc gm nn (.slice pn nn qn) met L):=hx.out.next K4.out
          have MB4:Hid (Blk w4 bm #[.string m.name,.slice (some ⟨g5,o5,none⟩) ne ce,.slice pf nf cf] 42):=hbmB.out.next K4.out
          have O4:Hid (OwnS w4 0 (.slice pn nn qn) N):=⟨X4.out.fr.owns H0S.out H0M.out (cs1:=[]) (cs2:=[]) (by decide) (by decide) H0O.out.1,Nat.zero_le _⟩
          obtain ⟨gn,rfl,-⟩:=O4.out.at HQ.out
          obtain ⟨v4,hbs4,-⟩:=X4.out.se.hp
          have PL:Hid (Calls Tryz.prog 44 #[.pointer (some ⟨s,0,none⟩),.string xn] w4 fun e w'=>e=.returned (.int .i64 (q:Int))∧Below w4.heap.size w4 w'):=place_any w4 s 0 gn nn qn _ _ _ N hbs4 O4.out HAS.out (by rw [HLS.out];exact hnn) xn q HQ.out
          clear hb4 hbs4 b0 b1 m0 FN
          go_wp2_with fail
          refine PL.out.mono ?_
          rintro e w5 ⟨rfl,hb5⟩
          have X5:Hid (Sx w0 w5 s gc gm nn (.slice (some ⟨gn,0,none⟩) nn qn) met L):=X4.out.next hb5
          have MB5:Hid (Blk w5 bm #[.string m.name,.slice (some ⟨g5,o5,none⟩) ne ce,.slice pf nf cf] 42):=MB4.out.next hb5
          have ME:Hid (Calls Tryz.prog 43 #[.pointer (some ⟨s,0,none⟩),.int .i64 (q:Int)] w5 fun e w'=>e=.returned (.tuple #[])∧∃ met' L',Met1 met L q met' L'∧Se w' w0.heap.size s gm nn (.slice (some ⟨gn,0,none⟩) nn qn) (.slice (some ⟨gc,0,none⟩) nn nn) met' L'∧FrM w0.heap.size s gm w5 w'):=meet_any w5 w0.heap.size s gm nn _ _ met L X5.out.se q hqn (by omega)
          clear hb5 PL
          go_wp2_with fail
          refine ME.out.mono ?_
          rintro e w6 ⟨rfl,m6,L6,h1,h2,h3⟩
          have X6:Hid (Sx w0 w6 s gc gm nn (.slice (some ⟨gn,0,none⟩) nn qn) m6 L6):=X5.out.meet h2 h3
          have I6:Hid (MetI nn (fun p=>∃ y,N[p]?=some y∧Rch E (expL ms) y) m6 L6):=h1.inv hi.out HRQ.out
          have LL6:Hid (∀ q:Nat,m6[q]?=some true→q ∈ L6):=h1.inL hl.out
          have MB6:Hid (Blk w6 bm #[.string m.name,.slice (some ⟨g5,o5,none⟩) ne ce,.slice pf nf cf] 42):=by
            obtain ⟨v5,hbs5,-⟩:=X5.out.se.hp
            exact h3.blk MB5.out (MB5.out.apartT hbs5 (by decide)) (MB5.out.apartT X5.out.se.mb (by decide)) (by decide)
          have R6:Hid (∀ x ∈ (ms.take a).flatMap expM ++ (m.exports.take (b+1)).map (expF m),∃ i:Nat,N[i]?=some x∧m6[i]?=some true):=fun x hx=>by
            rw [HTB.out,← List.append_assoc] at hx
            rcases List.mem_append.1 hx with hx | hx
            · obtain ⟨i,e1,e2⟩:=hr.out x hx
              exact ⟨i,e1,h1.keep e2⟩
            · rw [List.mem_singleton.1 hx]
              exact ⟨q,HQ.out,h1.has⟩
          clear h1 h2 h3 ME
          go_wp2_with fail
          exact ⟨⟨b+1,m6,L6,by omega,by go_num,X6,I6,LL6,R6,MB6⟩,by simp [intOf];omega⟩
        · have RE:Hid (∀ x ∈ (ms.take (a+1)).flatMap expM,∃ i:Nat,N[i]?=some x∧met[i]?=some true):=fun x hx=>by
            rw [HTK.out] at hx
            refine hr.out x ?_
            have e1:m.exports.take b=m.exports:=List.take_of_length_le (by rw [HN1.out];omega)
            rw [e1]
            exact hx
          go_wp2_with fail
          exact ⟨⟨a+1,met,L,by omega,by go_num,hx,hi,hl,RE⟩,by simp [intOf];omega⟩
    · have RE:Hid (∀ x ∈ expL ms,∃ i:Nat,N[i]?=some x∧met[i]?=some true):=fun x hx=>by
        refine hr.out x ?_
        rw [List.take_of_length_le (by rw [HN.out];omega)]
        exact hx
      have GO:Hid (Calls Tryz.prog 45 #[.pointer (some ⟨s,0,none⟩)] wr fun e w'=>e=.returned (.tuple #[])∧∃ met',Sx w0 w' s gc gm nn (.slice pn nn qn) met' []∧MetI nn (fun p=>∃ y,N[p]?=some y∧Rch E (expL ms) y) met' []∧(∀ p:Nat,met[p]?=some true→met'[p]?=some true)∧∃ p0 j0,ShutI cl met' [] p0 j0∧∀ r,cl[p0]?=some r→r.length≤j0):=goOn_any w0 s gc gm nn _ N (expL ms) E cl met L H0S.out H0M.out H0C.out HCA.out HLS.out hnn HGLN.out wr hx.out hi.out hl.out
      go_wp2_with fail
      refine GO.out.mono ?_
      rintro e w3 ⟨rfl,m3,x3,i3,k3,p0,j0,s3,d3⟩
      have X3:Hid (Sx w0 w3 s gc gm nn (.slice pn nn qn) m3 []):=x3
      have B3:Hid (Below w.heap.size w w3):=HB0.out.trans (x3.fr.below HB0.out.size HGE.out.1 HGE.out.2 HB0.out.size)
      have HRES:Hid (fndL N m3 nn=l):=by
        refine asc_ext ord_text _ _ (fndL_asc m3 HAS.out nn) HLA.out (fun x=>?_)
        rw [fndL_mem,HLR.out]
        have key:∀ {p:Nat} {y:ByteArray},N[p]?=some y→(m3[p]?=some true ↔ Rch E (expL ms) y):=fun {p y} hpy=>met_all HCA.out (by rw [HLS.out];exact i3) s3 d3 (asc_nodup HAS.out) HED.out (fun x hx=>by
          obtain ⟨i,e1,e2⟩:=RE.out x hx
          exact ⟨i,e1,k3 i e2⟩) hpy
        constructor
        · rintro ⟨p,h1,h2,h3⟩
          exact (key h2).1 h3
        · intro hrx
          obtain ⟨i,hi⟩:=List.mem_iff_getElem?.1 ((sortS_iff _ _).2 (rch_names HG.out (HEE.out ▸ hrx)))
          rw [HNQ.out] at hi
          exact ⟨i,by rw [← HLS.out];exact (List.getElem?_eq_some_iff.1 hi).1,hi,(key hi).2 hrx⟩
      have FD:Hid (Calls Tryz.prog 46 #[.pointer (some ⟨s,0,none⟩)] w3 fun e w'=>∃ u,e=.returned u∧OwnS w' w3.heap.size u (fndL N m3 nn)∧Below w3.heap.size w3 w'):=by
        obtain ⟨v3,hbs3,-⟩:=x3.se.hp
        exact found_any w3 s gc gm nn 0 qn pn N m3 v3 hbs3 x3.se.mb ⟨x3.fr.owns H0S.out H0M.out (cs1:=[]) (cs2:=[]) (by decide) (by decide) H0O.out.1,Nat.zero_le _⟩ x3.se.len hnn
      rw [HRES.out] at FD
      clear x3 i3 k3 s3 d3 GO
      go_wp2_with fail
      refine FD.out.mono ?_
      rintro e w4 ⟨u4,rfl,o4,b4⟩
      have FIN:Hid (OwnS w4 w.heap.size u4 l∧Below w.heap.size w w4):=⟨OwnS.base o4 B3.out.size,B3.out.trans (b4.mono B3.out.size)⟩
      clear o4 b4 FD
      go_wp2_with fail
      go_ret
      exact ⟨_,rfl,FIN.out⟩
section
open Go.Maps Go.WideMaps Go.Shelf Go.Proofs.Tryz
attribute [local go_sem] Oper.semAt_some
structure UnI (w:World) (B bl br:Nat) (u:Value) (R:List ByteArray) (W:World) (s:List ByteArray):Prop where
 ex:∃ v,Blk W bl #[v] 24/\OwnS W B v s/\∀ g,u.ownBlock=some g->v.ownBlock≠some g
 rb:Blk W br #[u] 24
 ro:OwnS W B u R
 low:Bz w W
theorem OwnS.put {A:World} {B l:Nat} {v:Value} {s:List ByteArray} {o:Obj} {r:Loop} (h:OwnS A B v s) (ho:A.heap[l]?=some (.loop r)):OwnS (A.putObj l o) B v s:=by
 obtain ⟨g1,g3⟩:=h;have hs:A.heap.size<=(A.putObj l o).heap.size:=(by simp);refine ⟨⟨g1.1,?_⟩,Nat.le_trans g3 hs⟩
 rcases g1.2 with hn | ⟨g,cap,cur,hv,hB,hg,hr⟩
 . exact .inl hn
 . refine .inr ⟨g,cap,cur,hv,hB,(World.putObj_heap_other (λe=>?_)).trans hg,hr⟩
   subst e;rw [hg] at ho
   cases ho
theorem blk_put {A:World} {b l:Nat} {cs:Array Value} {t:TypeId} {o:Obj} {r:Loop} (h:Blk A b cs t) (ho:A.heap[l]?=some (.loop r)):Blk (A.putObj l o) b cs t:=(World.putObj_heap_other (λe=>by
 subst e;rw [show A.heap[b]?=_ from h] at ho
 cases ho)).trans h
theorem UnI.next {w:World} {B bl br:Nat} {u:Value} {R:List ByteArray} {A C:World} {s:List ByteArray} (h:UnI w B bl br u R A s) (hb:Bz A C):UnI w B bl br u R C s:=by
 obtain ⟨v,h1,h2,h3⟩:=h.ex;exact ⟨⟨v,h1.next hb,h2.next hb,h3⟩,h.rb.next hb,h.ro.next hb,h.low.trans (hb.mono h.low.size)⟩
theorem UnI.put {w:World} {B bl br:Nat} {u:Value} {R:List ByteArray} {A:World} {s:List ByteArray} {l:Nat} {o:Obj} {r:Loop} (h:UnI w B bl br u R A s) (hl:w.heap.size<=l) (ho:A.heap[l]?=some (.loop r)):UnI w B bl br u R (A.putObj l o) s:=by
 obtain ⟨v,h1,h2,h3⟩:=h.ex;exact ⟨⟨v,blk_put h1 ho,h2.put ho,h3⟩,blk_put h.rb ho,h.ro.put ho,h.low.trans (below_put o hl)⟩
def unP (R:List ByteArray) (ms:List Md) (k:Nat):List ByteArray:=(((pairL ms).take k).map nmP).filter (isUn R)
theorem pair_unL (R:List ByteArray) (ms:List Md):((pairL ms).map nmP).filter (isUn R)=unL R ms:=by
 rw [unL_names 0,names_pairs]
theorem unI_push {w W2 V w9:World} {bl br:Nat} {u v v9:Value} {R PL:List ByteArray} {NM:ByteArray} (hv:Blk V bl #[v] 24) (ho:OwnS V w.heap.size v PL) (hd:∀ g,u.ownBlock=some g->v.ownBlock≠some g) (rb:Blk V br #[u] 24) (ro:OwnS V w.heap.size u R) (low:Bz w V) (kv:Bz W2 V) (hw:w.heap.size<=W2.heap.size) (hbl:w.heap.size<=bl) (hbr:br≠bl)
 (h9:w9.ownsRow w.heap.size 9 1 v9 (PL.length+1) (strs PL ++ strs [NM])) (hg:(V.alloc (.cells #[.string NM] 9)).grownBy w9 v.ownBlock) (hat:v9.ownBlock=v.ownBlock\/v9.ownBlock=some (V.alloc (.cells #[.string NM] 9)).heap.size) :
 (w9.cell? ⟨bl,0,none⟩=some v/\w9.frozen? ⟨bl,0,none⟩=false)/\UnI w w.heap.size bl br u R (w9.setCell ⟨bl,0,none⟩ v9) (PL ++ [NM])/\KG [9,24] w.heap.size W2 (w9.setCell ⟨bl,0,none⟩ v9):=by
 have K1:Bz V (V.alloc (.cells #[.string NM] 9)):=(sqN _ _);have OX:=ho.next K1;have RX:=ro.next K1;have HX:=hv.next K1;have BX:=rb.next K1;generalize V.alloc (.cells #[.string NM] 9)=X at *;have AP:ApartE 9 X w9:=ApartE.of_grown OX.1 hg;have L9:=AP.blk HX (by decide);have O9:OwnS w9 w.heap.size v9 (PL ++ [NM]):=OwnS.of h9 (by simp) rfl (Nat.le_trans OX.2 hg.size);have R9:OwnS w9 w.heap.size u R:=RX.grown hg hd;have B9:=AP.blk BX (by decide);have hlow:Below w.heap.size X w9:=OX.below hg;have hlowV:Below w.heap.size V (w9.setCell ⟨bl,0,none⟩ v9):=((K1.mono low.size).trans hlow).setCell (by show _<=bl;exact hbl) _;refine ⟨⟨L9.cell 0 _ rfl,L9.frozen 0⟩,⟨⟨_,L9.same rfl,O9.setO L9 (by decide),λg hg' e=>?_⟩,B9.other hbr,R9.setO L9 (by decide),low.trans hlowV⟩,(KG.of_below kv hw).trans ⟨hlowV,λb o hob hn=>?_⟩⟩
 . rcases hat with h1 | h1
   . rw [h1] at e;exact hd g hg' e
   . rw [h1] at e
     have h2:=(RX.off hg').2;have h3:=Option.some.inj e;omega
 . have hbl':=(Array.getElem?_eq_some_iff.1 hob).1
   have hX':X.heap[b]?=some o:=(K1.block b hbl').trans hob
   have hne:b≠bl:=λe=>by
    rw [e,show V.heap[bl]?=_ from hv] at hob;exact hn _ _ _ (Option.some.inj hob).symm (by simp)
   refine (Below.heap_setCell _ _ _ _ hne).trans ((hg.block b (Array.getElem?_eq_some_iff.1 hX').1 (λe=>?_)).trans hX')
   rcases OX.1.2 with ⟨hv,_⟩ | ⟨g',cap',cur,hv,_,hg',_⟩
   . rw [hv] at e;simp [Value.ownBlock] at e
   . rw [hv] at e
     have e':b=g':=(by simpa [Value.ownBlock] using e);subst e';rw [hX'] at hg';exact hn _ _ _ (Option.some.inj hg') (by simp)
theorem implUnused_any (d:Nat) (w:World) (v:Value) (ms:List Md) (R:List ByteArray) (hR:IsReach d ms R) (hT:Tabs w) (hp:PowAt w) (h:Rows w All 3 (HMd w All d) v ms) (hw:wtS (wtMd d) ms<=1048576) :
 Calls prog 7 #[v] w λe w'=>∃ u,e=.returned u/\OwnS w' w.heap.size u (unS d R ms)/\Bz w w':=by
 have HMS:Hid (∀ w',Bz w w'->Rows w' All 3 (HMd w' All d) v ms):=λw' hw=>h.mono (sqO hw) sqj (λ_ _ _ h=>h.mono (sqO hw) sqj);have HG:Hid (∀ w',Bz w w'->Calls prog 20 #[v] w' λe w''=>e=.returned (.bool (goodB d ms))/\Below w'.heap.size w' w''):=λw' hb=>implGood_any d w' v ms (hT.below hb) (HMS.out w' hb) hw;have HPN:Hid (∀ w',Bz w w'->PowAt w'):=λw' hb=>powAt_below hp hb;have HWS:=hid hw;have B1:Hid (Bz w ((w.alloc (.cells #[] 9)).alloc (.cells #[.slice (some ⟨w.heap.size,0,none⟩) 0 0] 24))):=((sqN _ _)).alloc (by simp only [alloc_hs];omega) _
 have L1:Hid (Blk ((w.alloc (.cells #[] 9)).alloc (.cells #[.slice (some ⟨w.heap.size,0,none⟩) 0 0] 24)) (w.heap.size+1) #[.slice (some ⟨w.heap.size,0,none⟩) 0 0] 24):=by
  have:=Blk.new (w:=w.alloc (.cells #[] 9)) (cs:=#[.slice (some ⟨w.heap.size,0,none⟩) 0 0]) (t:=24);simp only [alloc_hs] at this;exact this
 have O1:Hid (OwnS ((w.alloc (.cells #[] 9)).alloc (.cells #[.slice (some ⟨w.heap.size,0,none⟩) 0 0] 24)) w.heap.size (.slice (some ⟨w.heap.size,0,none⟩) 0 0) []):=by
  have h1:=OwnS.fresh (w:=w);exact h1.next ((sqN _ _))
 unfold unS
 cases hgd:goodB d ms with
 | false =>
  clear HMS HPN HWS h hT hp hw hR;go_enter func7,ntmps7;go_wp2_with fail;refine (HG.out _ B1.out).mono ?_;rintro e w2 ⟨rfl,hb2⟩;rw [hgd];have L2:=(L1.out.next hb2).cell 0 _ rfl;have O2:=hid (O1.out.next hb2);have B2:=hid (B1.out.trans (hb2.mono B1.out.size));clear hb2;go_wp2;go_ret;exact ⟨_,rfl,by simpa using O2.out,B2.out⟩
 | true =>
  have HRK:Hid (∀ x ∈ R,okS x):=λx hx=>fnames_ok h hw x (rch_names hgd ((hR.2 x).1 hx).2);have HGD:=hid hgd;have HIR:=hid hR;have hrT:Rows w (λg=>g<w.heap.size) 3 (HMd w (λg=>g<w.heap.size) d) v ms:=Rows.tight h (λ_ _ h=>md_tight h);obtain ⟨C,hC⟩:=fcells_at hrT;have HPG:=hid (powAt_lt hp);have HP:=hid hp;have HRT:=hid hrT;have HCC:=hid hC;obtain ⟨p,cap,rfl,-⟩:=id h;generalize hn:ms.length=n at *;clear h hT hp hw hR hrT hC hn hgd;have hfG:(Fence.wide).fn 20:=trivial;have hfR:(Fence.wide).fn 21:=trivial;refine (callsIn_wide (n:=7)).1 ?_;refine callsIn_of_wp_marks func7 rfl trivial ?_ rfl;simp only [ntmps7,List.size_toArray,List.length_cons,List.length_nil,Nat.reduceAdd,Nat.reduceSub,Array.replicate_succ,Array.replicate_zero,List.push_toArray,List.append_toArray,List.nil_append,List.cons_append]
  gi_wp2_with (gi_at_call 20;refine ((callsIn_wide (n:=6)).2 (HG.out _ B1.out)).mono ?_;rintro e w2 ⟨rfl,hb2⟩;rw [HGD.out];have L2:=hid (L1.out.next hb2);have O2:=hid (O1.out.next hb2);have B2:=hid (B1.out.trans (hb2.mono B1.out.size));clear hb2)
  have BA:Bz w (w2.alloc (.cells #[.slice p n cap] 52)):=B2.out.alloc B2.out.size _;refine ((callsIn_wide (n:=6)).2 (progReached_any d (w2.alloc (.cells #[.slice p n cap] 52)) _ ms R HIR.out (HMS.out _ BA) HWS.out (HPN.out _ BA) HGD.out)).mono ?_;rintro e w3 ⟨u3,rfl,o3,b3⟩;obtain ⟨p3,q3,rfl,-⟩:=owns_slice o3.1;have K2:Bz w2 (w2.alloc (.cells #[.slice p n cap] 52)):=(sqN _ _);have P3:Hid (Blk w3 w2.heap.size #[.slice p n cap] 52):=(Blk.new (w:=w2)).next b3;have L3:Hid (Blk w3 (w.heap.size+1) #[.slice (some ⟨w.heap.size,0,none⟩) 0 0] 24):=(L2.out.next K2).next b3;have O3:Hid (OwnS w3 w.heap.size (.slice (some ⟨w.heap.size,0,none⟩) 0 0) []):=(O2.out.next K2).next b3;have R3:Hid (OwnS w3 (w2.heap.size+1) (.slice p3 R.length q3) R):=(by show OwnS _ _ _ _;simpa only [alloc_hs] using o3);have B3:=hid (BA.trans (b3.mono BA.size));have c3:(w3.alloc (.cells #[.slice p3 R.length q3] 24)).cell? ⟨w2.heap.size,0,none⟩=some (.slice p n cap):=(P3.out.next ((sqN _ _))).cell 0 _ rfl;have S2:Hid (w.heap.size+1<w2.heap.size):=(Array.getElem?_eq_some_iff.1 L2.out).1;clear o3 b3 BA K2
  gi_wp2
  have KA:Bz w3 (w3.alloc (.cells #[.slice p3 R.length q3] 24)):=(sqN _ _);have BW:Bz w (w3.alloc (.cells #[.slice p3 R.length q3] 24)):=B3.out.trans (KA.mono B3.out.size)
  have U0:UnI w w.heap.size (w.heap.size+1) w3.heap.size (.slice p3 R.length q3) R (w3.alloc (.cells #[.slice p3 R.length q3] 24)) []:=by
   refine ⟨⟨_,L3.out.next KA,O3.out.next KA,λg hg e=>?_⟩,Blk.new,OwnS.base (R3.out.next KA) (by have:=S2.out;omega),BW⟩;have h1:=(R3.out.off hg).1;have h2:w.heap.size=g:=(by simpa [Value.ownBlock] using e);have h3:=S2.out;omega
  have S3:Hid (w2.heap.size<w3.heap.size):=(Array.getElem?_eq_some_iff.1 P3.out).1;have hw0:=BW.size;have hsz:(w3.alloc (.cells #[.slice p3 R.length q3] 24)).heap.size=w3.heap.size+1:=(by simp only [alloc_hs]);generalize hWW:w3.alloc (.cells #[.slice p3 R.length q3] 24)=w0 at *;clear hWW KA c3 B3 R3 O3 L3 P3 B2 O2 L2 HG HMS HIR B1 L1 O1
  refine range_kg (ts:=[9,24]) rfl (by omega) (gf:=22) (bs:=#[.slice p n cap]) rfl trivial (enters_of func22 (by kernel_rfl) rfl)
   (encs:=λk=>#[.agg (C k).1.toArray,.agg (C k).2.toArray]) (λ_=>rfl) (offs ms ms.length) w.heap.size BW.size
   (λl J W hW hJb hY h0=>by
    have hb:Bz w W:=BW.trans (hW.mono BW.size);have hs:SameOn (λg=>g<w.heap.size) w W:=⟨hb.size,λg hg _=>hb.block g hg⟩
    exact funcs_in (by show _ ∉ _;decide) l w.heap.size d _ ms C W (HRT.out.mono hs sqj (λ_ _ _ h=>h.mono hs sqj)) (HCC.out.mono hb) hb.size J hJb hY h0)
   (λk W=>UnI w w.heap.size (w.heap.size+1) w3.heap.size (.slice p3 R.length q3) R W (unP R ms k))
   (λk A B h hb=>h.next hb) (λk A l o r h hl ho=>h.put (by omega) ho)
   (show UnI w w.heap.size (w.heap.size+1) w3.heap.size (.slice p3 R.length q3) R w0 (unP R ms 0) from U0) ?round ?done
  case round =>
   rintro l k W hI hsW hk hl;have HI:=hid hI;obtain ⟨P,hP⟩:∃ P,(pairL ms)[k]?=some P:=⟨(pairL ms)[k]'(by rw [pairL_len];exact hk),List.getElem?_eq_getElem _⟩;obtain ⟨a,b,hma,hfb,hab⟩:=pairL_at ms k P hP;obtain ⟨m,f⟩:=P;obtain ⟨g,off,n',cap',e1,e2,e3,e4,e5,e6,fv,g5,o5,n5,c5,e7,e8,e9,e10,e11,e12,e13⟩:=HCC.out a m hma b f hfb;rw [hab] at e4 e5 e6 e7 e11 e12 e13;obtain ⟨ev,fv',hc1,hms,⟨pe,ce,rfl,-⟩,⟨pf,cf,rfl,-⟩⟩:=e6;obtain ⟨cv,hc2,hfs,hfa,hcl⟩:=e13;obtain ⟨pc,cc,rfl,-⟩:=id hcl;obtain ⟨hnm,hwf⟩:=pair_wt (d:=d) (List.mem_of_getElem? hP);rw [hc1,hc2];have HFA:=hid hfa;simp only at hnm hwf;have hnm':m.name.size<=1048576:=Nat.le_trans hnm HWS.out;have hwf':wtFn d f<=1048576:=Nat.le_trans hwf HWS.out;have hfn':f.name.size<=1048576:=(by unfold wtFn at hwf';omega)
   have HLN:Hid ((unP R ms k).length+1<=1048576):=by
    have h1:=namesL_len d ms;rw [names_pairs,List.length_map] at h1;have h2:=(List.getElem?_eq_some_iff.1 hP).1;have h3:=HWS.out;have h4:=List.length_filter_le (isUn R) (((pairL ms).take k).map nmP);rw [List.length_map,List.length_take] at h4;show (unP R ms k).length+1<=_;unfold unP;omega
   have HTK:Hid (unP R ms (k+1)=if hasS R (nmT m.name f.name f.arity) then unP R ms k else unP R ms k ++ [nmT m.name f.name f.arity]):=by
    show _=_;unfold unP;rw [List.take_add_one,hP,List.map_append];exact filt_snoc R _ _
   generalize hPL:unP R ms k=PL at *;clear hI hma hfb hab e1 e2 e3 e4 e5 e7 e8 e9 e10 e11 e12 hc1 hc2 hms hfs hfa hcl hnm hwf hP fv g5 o5 n5 c5 g off n' cap' a b hPL;generalize m.exports.length=ne at *;generalize m.funs.length=nf at *;generalize f.clauses.length=nc at *
   gi_wp2
   refine ⟨((sqN _ _)).alloc (by simp only [alloc_hs];omega) _,λr o' hl'=>?_⟩;have bM:=(Blk.new (w:=W) (cs:=#[.string m.name,.slice pe ne ce,.slice pf nf cf]) (t:=42)).alloc (o:=.cells #[.string f.name,.int .i64 f.arity,.slice pc nc cc] 46);have bF:=Blk.new (w:=W.alloc (.cells #[.string m.name,.slice pe ne ce,.slice pf nf cf] 42)) (cs:=#[.string f.name,.int .i64 f.arity,.slice pc nc cc]) (t:=46);simp only [alloc_hs] at bF;have BA:Bz W ((W.alloc (.cells #[.string m.name,.slice pe ne ce,.slice pf nf cf] 42)).alloc (.cells #[.string f.name,.int .i64 f.arity,.slice pc nc cc] 46)):=((sqN _ _)).alloc (by simp only [alloc_hs];omega) _;have I1:=HI.out.next BA;generalize (W.alloc (.cells #[.string m.name,.slice pe ne ce,.slice pf nf cf] 42)).alloc (.cells #[.string f.name,.int .i64 f.arity,.slice pc nc cc] 46)=W' at *;have I2:Hid (UnI w w.heap.size (w.heap.size+1) w3.heap.size (.slice p3 R.length q3) R (W'.putObj l o') PL):=I1.put (by omega) hl';have bM2:Hid (Blk (W'.putObj l o') W.heap.size #[.string m.name,.slice pe ne ce,.slice pf nf cf] 42):=blk_put bM hl';have bF2:Hid (Blk (W'.putObj l o') (W.heap.size+1) #[.string f.name,.int .i64 f.arity,.slice pc nc cc] 46):=blk_put bF hl';generalize W'.putObj l o'=W2 at *;clear bM bF BA I1 hl';have m0:=bM2.out.cell 0 _ rfl;obtain ⟨f0,f1,f2⟩:=sqB3 bF2.out;obtain ⟨NM,hNM⟩:∃ NM,NM=nmT m.name f.name f.arity:=⟨_,rfl⟩;have CEL:Hid (∀ w',Bz W2 w'->(λw'=>w'.cell? ⟨W.heap.size,0,none⟩=some (.string m.name)/\w'.cell? ⟨W.heap.size+1,0,none⟩=some (.string f.name)/\w'.cell? ⟨W.heap.size+1,1,none⟩=some (.int .i64 f.arity)/\w'.cell? ⟨W.heap.size+1,2,none⟩=some (.slice pc nc cc)) w'):=λw' hb=>⟨cell_next hb m0,cell_next hb f0,cell_next hb f1,cell_next hb f2⟩;have HPW:Hid (∀ w',Bz W2 w'->PowAt w'):=λw' hb=>powAt_low HP.out HPG.out ((I2.out.low.trans (hb.mono I2.out.low.size)).block _ HPG.out)
   have CF:Hid (∀ w',Bz W2 w'->Calls prog 23 #[.string m.name,.agg #[.string f.name,.int .i64 f.arity]] w' λe w''=>e=.returned (.string NM)/\Below w'.heap.size w' w''):=λw' hb=>by rw [hNM];exact fullName_any w' m.name f.name f.arity hnm' hfn' HFA.out (HPW.out w' hb)
   have HNM:=hid hNM;rw [<-HNM.out] at HTK;clear hNM
   gi_wp2
   refine wpIn_mono (Q:=Exit.then (λa' w'=>Hid (Bz W2 w'/\a'=⟨#[.slice p n cap,undef,.slice none 0 0,.pointer (some ⟨w.heap.size+1,0,none⟩),.pointer (some ⟨w2.heap.size,0,none⟩),.pointer (some ⟨w3.heap.size,0,none⟩),.pointer (some ⟨W.heap.size,0,none⟩),.pointer (some ⟨W.heap.size+1,0,none⟩),.string NM,.slice (some ⟨w.heap.size,0,none⟩) 0 0,.slice p n cap,.bool true,.bool false,undef,.slice p n cap,.agg #[.slice p n cap],.agg #[.slice p n cap],.slice p3 R.length q3,.pointer (some ⟨w2.heap.size,0,none⟩),.slice p n cap,.func (.func 22) #[.slice p n cap] #[],.agg #[.string m.name,.slice pe ne ce,.slice pf nf cf],.agg #[.string f.name,.int .i64 f.arity,.slice pc nc cc],.pointer (some ⟨W.heap.size,0,none⟩),.string m.name,.agg #[.string f.name,.int .i64 f.arity,.slice pc nc cc],.agg #[.string f.name,.int .i64 f.arity],.string NM,undef,undef,undef,undef,undef,undef,undef,undef,undef,undef,undef],[]⟩)) (λ_ _ _=>False)) ?reg ?rest
   case reg =>
    refine wpIn_region_held_drew (S:=(λw'=>w'.cell? ⟨W.heap.size,0,none⟩=some (.string m.name)/\w'.cell? ⟨W.heap.size+1,0,none⟩=some (.string f.name)/\w'.cell? ⟨W.heap.size+1,1,none⟩=some (.int .i64 f.arity)/\w'.cell? ⟨W.heap.size+1,2,none⟩=some (.slice pc nc cc))) (by kernel_rfl) ?nd ?lo ⟨m0,f0,f1,f2⟩ (λhHeld=>?_)
    case nd =>
     intro i o ho c e
     match i,ho with
     | 0,ho=>cases ho;cases e
     | 1,ho=>cases ho;cases e
     | 2,ho=>cases ho;cases e
     | 3,ho=>cases ho;cases e
     | 4,ho=>cases ho;cases e
     | 5,ho=>cases ho;cases e
     | i+6,ho=>simp at ho
    case lo =>
     rintro ⟨a,w,h⟩;exact h
    refine tkH 0 (v:=.pointer (some ⟨W.heap.size,0,none⟩)) rfl (by rfl) (λw' hS=>by go_simp) hHeld ?_
    try simp only [sqP]
    refine tkH 1 (v:=.string m.name) rfl (by rfl) (λw' hS=>by obtain ⟨h0,h1,h2,h3⟩:=hS;go_simp) hHeld ?_
    try simp only [sqP]
    refine tkH 2 (v:=.agg #[.string f.name,.int .i64 f.arity,.slice pc nc cc]) rfl (by rfl) (λw' hS=>by obtain ⟨h0,h1,h2,h3⟩:=hS;go_simp) hHeld ?_
    try simp only [sqP]
    refine oneH 3 rfl (λK hK=>?_)
    go_simp
    go_at_call 24
    refine (refOf_any f.name f.arity pc nc cc _).mono ?_;rintro e w4 ⟨rfl,hb4⟩;have K4:Hid (Bz W2 w4):=⟨hb4.os,hb4.tape,hb4.output,hb4.size,hb4.block⟩;clear hb4;refine hK.out _ _ (CEL.out _ K4.out) (λhHeld4=>?_);clear hK K
    try simp only [sqP]
    refine oneH 4 rfl (λK hK=>?_)
    go_simp
    go_at_call 23
    refine (CF.out _ K4.out).mono ?_;rintro e w5 ⟨rfl,hb5⟩;have K5:=hid (K4.out.trans (hb5.mono K4.out.size));clear hb5;refine hK.out _ _ (CEL.out _ K5.out) (λhHeld5=>?_);clear hK K
    try simp only [sqP]
    refine oneH 5 rfl (λK hK=>?_)
    go_simp
    refine hK.out _ _ (CEL.out _ K5.out) (λhHeld6=>?_);clear hK K
    try simp only [sqP]
    refine wpAnyH_done (by kernel_rfl) ?_ _;exact ⟨K5.out,rfl⟩
   case rest =>
    rintro e a' V hp
    cases e with
    | normal =>
     obtain ⟨hKV,rfl⟩:=hp.out;have KV:=hid hKV;have I3:=I2.out.next hKV;obtain ⟨v,hlv,hov,hdj⟩:=I3.ex;obtain ⟨pv,qv,rfl,-⟩:=owns_slice hov.1;have HLV:=hid hlv;have HOV:=hid hov;have HDJ:=hid hdj;have HRB:=hid I3.rb;have HRO:=hid I3.ro;have HLW:=hid I3.low;have CT:=hid (containsS_any V _ R NM (HRO.out.strR HRK.out));rw [hasT_S] at CT;have r0:=HRB.out.cell 0 _ rfl;have l0:=HLV.out.cell 0 _ rfl;have lf:=HLV.out.frozen 0;have hfC:(Fence.wide).fn 25:=trivial;obtain ⟨i0,hi,hz0,hz1,hz2⟩:=info_parts info_str;clear hp hKV I3 hlv hov hdj m0 f0 f1 f2 CEL CF HPW
     cases hh:hasS R NM with
     | true =>
      rw [hh] at CT HTK;have FIN:Hid (UnI w w.heap.size (w.heap.size+1) w3.heap.size (.slice p3 R.length q3) R V PL/\KG [9,24] w.heap.size W2 V):=⟨⟨⟨_,HLV.out,HOV.out,HDJ.out⟩,HRB.out,HRO.out,HLW.out⟩,KG.of_below KV.out I2.out.low.size⟩
      gi_wp2_with (gi_at_call 25;refine (CallsIn.inRound l ((callsIn_wide (n:=7 - 1 - 1 - 1)).2 CT.out)).mono ?_;rintro e w9 ⟨rfl,rfl⟩)
      exact ⟨by rw [HTK.out];exact FIN.out.1,FIN.out.2⟩
     | false =>
      rw [hh] at CT HTK;have K1:Hid (Bz V (V.alloc (.cells #[.string NM] 9))):=(sqN _ _);have OA:=hid (HOV.out.next K1.out);have NA:=hid (one_str V NM _ rfl)
      gi_wp2_with (first
       | (gi_at_call 25;refine (CallsIn.inRound l ((callsIn_wide (n:=7 - 1 - 1 - 1)).2 CT.out)).mono ?_;rintro e w9 ⟨rfl,rfl⟩)
       | (gi_at_builtin;refine wpListIn_append_own_at _ rfl _ _ 24 rfl w.heap.size 9 i0 (.string ⟨#[]⟩) 1 16 underlying24 hi hz0 hz1 hz2 rfl (by decide) (.slice pv PL.length qv) _ _ rfl OA.out.1 _ 1 1 (strs [NM]) rfl rfl NA.out (strs_oneCell _) (by have:=HLN.out;unfold maxLen;omega) (by have:=HLN.out;omega) OA.out.2 ?_;intro v9 w9 ho9 hg9 _ hat9;obtain ⟨p9,q9,rfl,-⟩:=owns_slice ho9;have A9:Hid _:=unI_push HLV.out HOV.out HDJ.out HRB.out HRO.out HLW.out KV.out I2.out.low.size (Nat.le_succ _) (by have:=S2.out;have:=S3.out;omega) ho9 hg9 hat9;have lc9:=A9.out.1.1;have lz9:=A9.out.1.2;clear ho9 hg9 hat9))
      exact ⟨by rw [HTK.out];exact A9.out.2.1,A9.out.2.2⟩
    | _=>exact hp.elim
  case done =>
   intro D W hD hI hK
   have hnl:unP R ms (offs ms ms.length)=unL R ms:=by
    unfold unP;rw [List.take_of_length_le (by rw [pairL_len];exact Nat.le_refl _),pair_unL]
   rw [hnl] at hI;obtain ⟨v,hlv,hov,-⟩:=hI.ex;obtain ⟨pv,qv,rfl,-⟩:=owns_slice hov.1;have HLN:=hid (Nat.le_trans (unL_len d R ms) (Nat.le_trans (namesL_len d ms) HWS.out))
   have HND:Hid ((unL R ms).Nodup):=by
    have h1:(namesL d ms).Nodup:=names_nodup (by have:=HGD.out;unfold goodB at this;simp only [Bool.and_eq_true] at this;exact this.1);show List.Nodup _;rw [unL_names d];exact h1.filter _
   have HOV:=hid hov;have HLV:=hid hlv;have HLO:=hid hI.low;have HDD:=hid hK;have HDW:=hid (Nat.le_trans BW.size hD);refine ‹∀ (a:Act) (w:World),Code.wpIn Fence.wide 7 prog _ _ a w->_› _ _ (wpIn_wide.2 ?_);dsimp only;have l0:=hlv.cell 0 _ rfl;generalize hun:unL R ms=UN at *;have HUN:=hid hun;clear hnl hI hov hlv hK hun;go_wp2_with fail;refine (sortNames_any W w.heap.size (.slice pv UN.length qv) _ HOV.out HND.out HLN.out).mono ?_;rintro e w5 ⟨rfl,o5,b5,ap5,hf5⟩;have hDl:=(Array.getElem?_eq_some_iff.1 HDD.out).1
   have hDv:(Value.slice pv UN.length qv).ownBlock≠some D:=λe=>by
    rcases HOV.out.1.2 with ⟨hv,_⟩ | ⟨g',cap',cur,hv,_,hg,_⟩
    . rw [hv] at e;simp [Value.ownBlock] at e
    . rw [hv] at e
      have e':g'=D:=(by simpa [Value.ownBlock] using e);subst e';rw [HDD.out] at hg
      cases hg
   have HD5:Hid (w5.heap[D]?=some (.deferred (some []))):=(hf5 D hDl hDv).trans HDD.out;have l5:=(ap5.blk HLV.out (by decide)).cell 0 _ rfl;have FIN:Hid (OwnS w5 w.heap.size (.slice pv UN.length qv) (sortS UN)/\Bz w w5):=⟨o5,HLO.out.trans b5⟩;clear o5 b5 ap5 hf5 hDl hDv l0;go_wp2_with fail;have KC:=keepC_put HD5.out (.deferred none);refine ⟨by simp,.inl ⟨_,_,rfl,run_takeDeferred HD5.out,?_⟩⟩;refine ⟨_,results_tmp rfl _ _ _,?_⟩;have h6:OwnS (w5.putObj D (.deferred none)) w.heap.size (.slice pv UN.length qv) (sortS UN):=⟨KC.owns FIN.out.1.1,Nat.le_trans FIN.out.1.2 KC.1⟩;exact ⟨_,rfl,by rw [HUN.out];exact h6,FIN.out.2.trans (below_put _ HDW.out)⟩
end
end Go.Proofs.YtonpgdfpgpepiaaGreatDoor
