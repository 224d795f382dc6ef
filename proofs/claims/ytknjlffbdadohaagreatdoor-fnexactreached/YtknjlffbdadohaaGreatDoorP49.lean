/-
  ReachTop
-/
import Derived.Test.YtknjlffbdadohaaGreatDoorP43
import Derived.Test.YtknjlffbdadohaaGreatDoorP48
set_option maxHeartbeats 16000000
set_option linter.unusedVariables false
set_option maxRecDepth 100000
namespace Go.Proofs.YtknjlffbdadohaaGreatDoor
open Go.ChangeShapes Go.WideShapes Go.ChangeAt Go.RowKit
theorem fndL_succ (N:List ByteArray) (met:List Bool) (k:Nat):fndL N met (k+1)=if met[k]?=some true then fndL N met k ++ (N[k]?).toList else fndL N met k:=rfl
theorem found_any (w:World) (s gc gm nn B qn:Nat) (pn:Option Addr) (N:List ByteArray) (met:List Bool) (hv:Value) (hs:Blk w s #[.slice pn nn qn,.slice (some ⟨gc,0,none⟩) nn nn,.slice (some ⟨gm,0,none⟩) nn nn,hv] 114) (hm:Blk w gm (met.map Value.bool).toArray 4) (ho:OwnS w B (.slice pn nn qn) N) (hml:met.length=nn) (hnb:nn≤1048576) :
    Calls Tryz.prog 42 #[.pointer (some ⟨s,0,none⟩)] w fun e w'=>∃ u,e=.returned u∧OwnS w' w.heap.size u (fndL N met nn)∧Below w.heap.size w w':=by
  have hnn:nn=N.length:=by obtain ⟨p,c,e,_⟩:=owns_slice ho.1;cases e;rfl
  have HS:Hid (Blk w s #[.slice pn nn qn,.slice (some ⟨gc,0,none⟩) nn nn,.slice (some ⟨gm,0,none⟩) nn nn,hv] 114):=hs
  have HM:Hid (Blk w gm (met.map Value.bool).toArray 4):=hm
  have HO:Hid (OwnS w B (.slice pn nn qn) N):=ho
  have HNN:Hid (nn=N.length):=hnn
  have HML:Hid (met.length=nn):=hml
  obtain ⟨i0,hi,hz0,hz1,hz2⟩:=info_parts info_str
  have B1:Hid (Below w.heap.size w (w.alloc (.cells #[] 9))):=(Below.refl _ _).alloc (Nat.le_refl _) _
  have O1:Hid (OwnS (w.alloc (.cells #[] 9)) w.heap.size (.slice (some ⟨w.heap.size,0,none⟩) 0 0) []):=OwnS.fresh
  have c0:=(hs.next B1.out).cell 0 _ rfl
  clear hs hm ho hnn hml
  go_enter Tryz.func42,Tryz.ntmps42
  go_wp2_with fail
  go_loopw [3,4,5,12] (fun lv s4 s5 iv wx=>∃ i:Nat,i≤nn∧iv=.int .i64 i∧Hid (OwnS wx w.heap.size lv (fndL N met i))∧Hid (Below w.heap.size w wx)) (fun _ _ _ iv _=>nn - (intOf iv).toNat)
  case atStart=>exact ⟨0,Nat.zero_le _,rfl,O1,B1⟩
  case round =>
    obtain ⟨i,hin,rfl,oo,hb⟩:=hrel
    clear B1 O1 c0
    by_cases hlt:i<nn
    · obtain ⟨x,hx⟩:∃ x,N[i]?=some x:=⟨N[i]'(by rw [← HNN.out];exact hlt),List.getElem?_eq_getElem _⟩
      obtain ⟨b,hbm⟩:∃ b,met[i]?=some b:=⟨met[i]'(by rw [HML.out];exact hlt),List.getElem?_eq_getElem _⟩
      obtain ⟨gn,rfl,cn⟩:=(HO.out.next hb.out).at hx
      have c2:=(HS.out.next hb.out).cell 2 _ rfl
      have cm:wr.cell? ⟨gm,i,none⟩=some (.bool b):=(HM.out.next hb.out).cell i _ (by simp [hbm])
      have hii:(i:Int)<(nn:Int):=by omega
      have hi00:(0:Int)≤(i:Int):=by omega
      have hlen:=fndL_len N met i
      have HX:Hid (N[i]?=some x):=hx
      have HBM:Hid (met[i]?=some b):=hbm
      clear hx hbm
      cases b with
      | true =>
        have HF:Hid (fndL N met (i+1)=fndL N met i ++ [x]):=by show _=_;rw [fndL_succ,if_pos HBM.out,HX.out];rfl
        generalize fndL N met i=F at *
        have K1:Hid (Below wr.heap.size wr (wr.alloc (.cells #[.string x] 9))):=(Below.refl _ _).alloc (Nat.le_refl _) _
        have OA:Hid (OwnS (wr.alloc (.cells #[.string x] 9)) w.heap.size u3 F):=oo.out.next K1.out
        have NA:Hid (∀ j u,(strs [x])[j]?=some u→(wr.alloc (.cells #[.string x] 9)).cell? ((⟨wr.heap.size,0,none⟩:Addr).add j)=some u):=one_str wr x _ rfl
        go_wp2_with (at_builtin;refine wpList_append_own _ rfl _ _ 24 rfl w.heap.size 9 i0 (.string ⟨#[]⟩) 1 16 Tryz.underlying24 hi hz0 hz1 hz2 rfl (by decide) u3 _ _ rfl OA.out.1 _ 1 1 (strs [x]) rfl rfl NA.out (strs_oneCell _) (by unfold maxLen;omega) (by omega) OA.out.2 ?_;intro v9 w9 ho9 hg9 _;have O9:Hid (OwnS w9 w.heap.size v9 (F ++ [x])):=OwnS.of ho9 (by simp) rfl (Nat.le_trans OA.out.2 hg9.size);have B9:Hid (Below w.heap.size w w9):=(hb.out.trans (K1.out.mono hb.out.size)).trans (OA.out.below hg9);clear ho9 hg9 cn c2 cm)
        refine ⟨⟨i+1,by omega,by go_num,?_,B9⟩,by simp [intOf];omega⟩
        show OwnS _ _ _ _
        rw [HF.out]
        exact O9.out
      | false =>
        have HF:Hid (fndL N met (i+1)=fndL N met i):=by show _=_;rw [fndL_succ,if_neg (by rw [HBM.out];simp)]
        go_wp2_with fail
        refine ⟨⟨i+1,by omega,by go_num,?_,hb⟩,by simp [intOf];omega⟩
        show OwnS _ _ _ _
        rw [HF.out]
        exact oo.out
    · have HE:Hid (OwnS wr w.heap.size u3 (fndL N met nn)):=by
        have h1:=oo.out
        rw [show i=nn by omega] at h1
        exact h1
      go_wp2_with fail
      go_ret
      exact ⟨_,rfl,HE.out,hb.out⟩
theorem Met1.inL {met met':List Bool} {W W':List Nat} {p:Nat} (h:Met1 met W p met' W') (hw:∀ q:Nat,met[q]?=some true→q ∈ W):∀ q:Nat,met'[q]?=some true→q ∈ W':=fun q hq =>
  Classical.byContradiction fun hn=>by
    obtain ⟨h1,h2⟩:=h.new hq hn
    exact h2 (hw q h1)
theorem progReached_any (d:Nat) (w:World) (v:Value) (ms:List Md) (l:List ByteArray) (hl:IsReach d ms l) (h:Rows w All 3 (HMd w All d) v ms) (hw:wtS (wtMd d) ms≤1048576) (hp:PowAt w) (hg:goodB d ms=true) :
    Calls Tryz.prog 21 #[.agg #[v]] w fun e w'=>∃ u,e=.returned u∧OwnS w' w.heap.size u l∧Below w.heap.size w w':=by
  have HRT:Hid (Rows w (fun g=>g<w.heap.size) 3 (HMd w (fun g=>g<w.heap.size) d) v ms):=Rows.tight h (fun _ _ h=>md_tight h)
  have HPG:Hid (2<w.heap.size):=powAt_lt hp
  have HP:Hid (PowAt w):=hp
  have HMS:Hid (∀ w',Below w.heap.size w w'→Rows w' All 3 (HMd w' All d) v ms):=fun w' hw=>h.mono (SameOn.of_below hw) (fun _ h=>h) (fun _ _ _ h=>h.mono (SameOn.of_below hw) (fun _ h=>h))
  have HWS:Hid (wtS (wtMd d) ms≤1048576):=hw
  have HG:Hid (goodB d ms=true):=hg
  have HLR:Hid (∀ x,x ∈ l ↔ Rch (graphL d ms) (expL ms) x):=fun x=>(hl.2 x).trans ⟨fun h=>h.2,fun h=>⟨hg,h⟩⟩
  have HLA:Hid (l.Pairwise (fun a b=>cmpS a b<0)):=hl.1
  have HRF:Hid (∀ m ∈ ms,∀ r ∈ m.exports,okS r.name∧okI r.arity):=fun m hm r hr=>rows_arityX h hm hr
  have HWM:Hid (∀ (k:Nat) (m:Md),ms[k]?=some m→wtMd d m≤1048576):=fun k m hk=>Nat.le_trans (wt_mem (wtMd d) (List.mem_of_getElem? hk)) hw
  obtain ⟨p,cap,rfl,hcl,hcm,hx⟩:=HRT.out
  have HX:Hid (ms≠[]→∃ g off,p=some ⟨g,off,none⟩∧g<w.heap.size∧g<w.heap.size∧∀ i x,ms[i]?=some x→∃ cs,cs.length=3∧(∀ j,j<3→w.cell? ⟨g,off+i * 3+j,none⟩=cs[j]?)∧HMd w (fun g=>g<w.heap.size) d cs x):=hx
  have hnb:ms.length≤9223372036854775807:=by unfold maxLen at hcm;omega
  generalize hn:ms.length=n at *
  have HN:Hid (ms.length=n):=hn
  have B1:Hid (Below w.heap.size w (w.alloc (.cells #[.slice p n cap] 54))):=(Below.refl _ _).alloc (Nat.le_refl _) _
  have P1:Hid (Blk (w.alloc (.cells #[.slice p n cap] 54)) w.heap.size #[.slice p n cap] 54):=Blk.new
  have NS:Hid (∀ w',Below w.heap.size w w'→Calls Tryz.prog 37 #[.agg #[.slice p n cap]] w' fun e w''=>∃ (s gc gm:Nat) (pn:Option Addr) (qn:Nat) (cl:List (List Nat)),e=.returned (.pointer (some ⟨s,0,none⟩))∧Blk w'' s #[.slice pn (namesL d ms).length qn,.slice (some ⟨gc,0,none⟩) (namesL d ms).length (namesL d ms).length,.slice (some ⟨gm,0,none⟩) (namesL d ms).length (namesL d ms).length,.slice none 0 0] 114∧CalR w'' w'.heap.size gc cl∧CalOf (sortS (namesL d ms)) (graphL d ms) cl∧Blk w'' gm (Array.replicate (namesL d ms).length (.bool false)) 4∧OwnS w'' w'.heap.size (.slice pn (namesL d ms).length qn) (sortS (namesL d ms))∧(w'.heap.size≤s∧w'.heap.size≤gc∧w'.heap.size≤gm)∧Below w'.heap.size w' w''):=fun w' hb=>newSearch_any d w' _ ms (HMS.out w' hb) hw (powAt_low HP.out HPG.out (hb.block _ HPG.out)) hg
  clear hx hn hw hl h hp hg HRT
  go_enter Tryz.func21,Tryz.ntmps21
  have c0:=P1.out.cell 0 _ rfl
  go_wp2_with fail
  refine (NS.out _ B1.out).mono ?_
  rintro e w0 ⟨s,gc,gm,pn,qn,cl,rfl,hs0,hc0,hca,hm0,ho0,hge,hb0⟩
  obtain ⟨us,hcu⟩:=hc0
  have H0S:Hid (Blk w0 s #[.slice pn (namesL d ms).length qn,.slice (some ⟨gc,0,none⟩) (namesL d ms).length (namesL d ms).length,.slice (some ⟨gm,0,none⟩) (namesL d ms).length (namesL d ms).length,.slice none 0 0] 114):=hs0
  have H0M:Hid (Blk w0 gm (Array.replicate (namesL d ms).length (.bool false)) 4):=hm0
  have H0C:Hid (CalU w0 0 gc us cl):=⟨hcu.blk,hcu.len,fun i r hr=>by obtain ⟨u,h1,h2⟩:=hcu.row i r hr;exact ⟨u,h1,owns_base h2.1,Nat.zero_le _⟩,hcu.off⟩
  have H0O:Hid (OwnS w0 0 (.slice pn (namesL d ms).length qn) (sortS (namesL d ms))):=⟨owns_base ho0.1,Nat.zero_le _⟩
  have HCA:Hid (CalOf (sortS (namesL d ms)) (graphL d ms) cl):=hca
  have hB0:Below w.heap.size w w0:=B1.out.trans (hb0.mono B1.out.size)
  have HB0:Hid (Below w.heap.size w w0):=hB0
  have HGE:Hid (w.heap.size≤s∧w.heap.size≤gm):=by
    have:=B1.out.size
    obtain ⟨x1,x2,x3⟩:=hge
    show _∧_
    omega
  have HP0:Hid (Blk w0 w.heap.size #[.slice p n cap] 54):=P1.out.next hb0
  have HND:Hid ((namesL d ms).Nodup):=names_nodup (by have:=HG.out;unfold goodB at this;simp only [Bool.and_eq_true] at this;exact this.1)
  have HLS:Hid ((sortS (namesL d ms)).length=(namesL d ms).length):=by
    have:=congrArg List.length (sortKeys HND.out)
    rw [List.length_mergeSort,List.length_map,List.length_map] at this
    exact this.symm
  have hnn:(namesL d ms).length≤1048576:=Nat.le_trans (namesL_len d ms) HWS.out
  have HAS:Hid ((sortS (namesL d ms)).Pairwise (fun a b=>cmpS a b<0)):=sortS_asc _
  have HEX:Hid (∀ x ∈ expL ms,∃ i:Nat,(sortS (namesL d ms))[i]?=some x):=fun x hx=>List.mem_iff_getElem?.1 ((sortS_iff _ _).2 (good_exp HG.out x hx))
  have HED:Hid (∀ e ∈ graphL d ms,e.1 ∈ sortS (namesL d ms)∧e.2 ∈ sortS (namesL d ms)):=fun e he=>by
    obtain ⟨h1,h2⟩:=good_edge HG.out e he
    exact ⟨(sortS_iff _ _).2 h1,(sortS_iff _ _).2 h2⟩
  have HGLN:Hid ((graphL d ms).length≤1048576):=by
    show _≤_
    unfold graphL
    rw [HG.out,if_pos rfl,← graph_same (by have:=HG.out;unfold goodB at this;simp only [Bool.and_eq_true] at this;exact this.1)]
    have h1:=compactE_len (sortE (edgesOf nmT d ms))
    rw [(sortE_perm _).length_eq,edges_pairs] at h1
    have h2:=edK_len d (pairL ms)
    have h3:=pre_sum d ms
    have h4:=HWS.out
    rw [edges_pairs]
    omega
  generalize hNN:sortS (namesL d ms)=N at *
  have HNQ:Hid (sortS (namesL d ms)=N):=hNN
  generalize hnn':(namesL d ms).length=nn at *
  generalize hE:graphL d ms=E at *
  have HEE:Hid (graphL d ms=E):=hE
  have X0:Hid (Sx w0 w0 s gc gm nn (.slice pn nn qn) (List.replicate nn false) []):=⟨⟨⟨.slice none 0 0,H0S.out,⟨by simp [intC],.inl ⟨rfl,rfl⟩⟩,Nat.le_refl _⟩,by have:=H0M.out;simpa using this,H0M.out.lt,by simp⟩,FrM.refl _ _ _ _⟩
  have Z0:∀ q:Nat,(List.replicate nn false)[q]?=some true→False:=fun q hq=>by
    rw [List.getElem?_replicate] at hq
    split at hq <;> cases hq
  have I0:Hid (MetI nn (fun p=>∃ y,N[p]?=some y∧Rch E (expL ms) y) (List.replicate nn false) []):=⟨by simp,fun p hp=>(by cases hp),fun p hp=>(Z0 p hp).elim,Nat.zero_le _⟩
  have L0:Hid (∀ q:Nat,(List.replicate nn false)[q]?=some true→q ∈ ([]:List Nat)):=fun q hq=>(Z0 q hq).elim
  have CNT:Hid (∀ m:List Bool,m.length=nn→m.count true≤nn):=fun m hm=>by rw [← hm];exact List.count_le_length
  have c0:=HP0.out.cell 0 _ rfl
  clear Z0 hs0 hca hm0 ho0 hge hb0 hcu hNN hnn' hE hB0 NS P1
  go_wp2_with fail
  go_loopw [13] (fun iv wr=>∃ (a:Nat) (met:List Bool) (L:List Nat),a≤n∧iv=.int .i64 a∧Hid (Sx w0 wr s gc gm nn (.slice pn nn qn) met L)∧Hid (MetI nn (fun p=>∃ y,N[p]?=some y∧Rch E (expL ms) y) met L)∧Hid (∀ q:Nat,met[q]?=some true→q ∈ L)∧Hid (∀ x ∈ (ms.take a).flatMap expM,∃ i:Nat,N[i]?=some x∧met[i]?=some true)) (fun iv _=>n - (intOf iv).toNat)
  case atStart=>exact ⟨0,_,[],Nat.zero_le _,rfl,X0,I0,L0,fun x hx=>by simp at hx⟩
  case round =>
    obtain ⟨a,met,L,ha,rfl,hx,hi,hl,hr⟩:=hrel
    clear X0 I0 L0 c0
    by_cases hlt:a<n
    · obtain ⟨m,hmk⟩:∃ m,ms[a]?=some m:=⟨ms[a]'(by rw [HN.out];exact hlt),List.getElem?_eq_getElem _⟩
      obtain ⟨g,off,rfl,hgl,-,hat⟩:=HX.out (by intro h;rw [h] at hmk;simp at hmk)
      obtain ⟨cs,hcsl,hcs,hm⟩:=hat a m hmk
      obtain ⟨ev,fv,rfl,hms,he,hf⟩:=hm
      obtain ⟨pe,ce,rfl,hce,hcme,hxe⟩:=he
      obtain ⟨pf,cf,rfl,-⟩:=hf
      have HXE:Hid (m.exports≠[]→∃ g off,pe=some ⟨g,off,none⟩∧g<w.heap.size∧g<w.heap.size∧∀ i x,m.exports[i]?=some x→∃ cs,cs.length=2∧(∀ j,j<2→w.cell? ⟨g,off+i * 2+j,none⟩=cs[j]?)∧HRf cs x):=hxe
      have hmn:m.name.size≤1048576:=by have:=HWM.out a m hmk;unfold wtMd at this;omega
      have HWR:Hid (∀ (k:Nat) (r:Rf),m.exports[k]?=some r→r.name.size≤1048576):=fun k r hk=>by
        have h1:=HWM.out a m hmk
        have h2:=wt_mem wtRf (List.mem_of_getElem? hk)
        have h3:wtMd d m=m.name.size+wtS wtRf m.exports+wtS (wtFn d) m.funs:=rfl
        have h4:wtRf r=r.name.size:=rfl
        show _≤_
        omega
      have HAR:Hid (∀ (k:Nat) (r:Rf),m.exports[k]?=some r→okI r.arity):=fun k r hk=>(HRF.out m (List.mem_of_getElem? hmk) r (List.mem_of_getElem? hk)).2
      have HIN:Hid (∀ (k:Nat) (r:Rf),m.exports[k]?=some r→expF m r ∈ expL ms):=fun k r hk=>List.mem_flatMap.2 ⟨m,List.mem_of_getElem? hmk,List.mem_map.2 ⟨r,List.mem_of_getElem? hk,rfl⟩⟩
      have HTK:Hid ((ms.take (a+1)).flatMap expM=(ms.take a).flatMap expM ++ m.exports.map (expF m)):=by
        show _=_
        rw [List.take_add_one,hmk];simp [expM]
      have hbW:Below w.heap.size w wr:=HB0.out.trans (hx.out.fr.below HB0.out.size HGE.out.1 HGE.out.2 HB0.out.size)
      have a0:=(hbW.cell (p:=⟨g,off+a * 3+0,none⟩) hgl).trans (hcs 0 (by omega))
      have a1:=(hbW.cell (p:=⟨g,off+a * 3+1,none⟩) hgl).trans (hcs 1 (by omega))
      have a2:=(hbW.cell (p:=⟨g,off+a * 3+2,none⟩) hgl).trans (hcs 2 (by omega))
      simp at a0 a1 a2
      have hai:(a:Int)<(n:Int):=by omega
      have ha0:(0:Int)≤(a:Int):=by omega
      have hne:m.exports.length≤9223372036854775807:=by unfold maxLen at hcme;omega
      generalize hn1:m.exports.length=ne at *
      generalize m.funs.length=nf at *
      have HN1:Hid (m.exports.length=ne):=hn1
      obtain ⟨bm,hbm⟩:∃ bm,bm=wr.heap.size:=⟨_,rfl⟩
      have HBM:Hid (wr.heap.size=bm):=hbm.symm
      have KM:Hid (Below wr.heap.size wr (wr.alloc (.cells #[.string m.name,.slice pe ne ce,.slice pf nf cf] 42))):=(Below.refl _ _).alloc (Nat.le_refl _) _
      have M1:Hid (Blk (wr.alloc (.cells #[.string m.name,.slice pe ne ce,.slice pf nf cf] 42)) bm #[.string m.name,.slice pe ne ce,.slice pf nf cf] 42):=by show Blk _ _ _ _;rw [hbm];exact Blk.new
      have X1:Hid (Sx w0 (wr.alloc (.cells #[.string m.name,.slice pe ne ce,.slice pf nf cf] 42)) s gc gm nn (.slice pn nn qn) met L):=hx.out.next KM.out
      clear hxe hcs hcsl hat hms hn1 hmk hcme hce hbW hbm
      go_wp2_with fail
      rw [HBM.out]
      clear a0 a1 a2 hx
      go_loopw [20] (fun jv wx=>∃ (b:Nat) (met:List Bool) (L:List Nat),b≤ne∧jv=.int .i64 b∧Hid (Sx w0 wx s gc gm nn (.slice pn nn qn) met L)∧Hid (MetI nn (fun p=>∃ y,N[p]?=some y∧Rch E (expL ms) y) met L)∧Hid (∀ q:Nat,met[q]?=some true→q ∈ L)∧Hid (∀ x ∈ (ms.take a).flatMap expM ++ (m.exports.take b).map (expF m),∃ i:Nat,N[i]?=some x∧met[i]?=some true)∧Hid (Blk wx bm #[.string m.name,.slice pe ne ce,.slice pf nf cf] 42)) (fun jv _=>ne - (intOf jv).toNat)
      case atStart=>exact ⟨0,met,L,Nat.zero_le _,rfl,X1,hi,hl,fun x hx=>hr.out x (by simpa using hx),M1⟩
      case round =>
        obtain ⟨b,met,L,hbn,rfl,hx,hi,hl,hr,hbmB⟩:=hrel
        clear X1 M1
        by_cases hlb:b<ne
        · obtain ⟨r,hrk⟩:∃ r,m.exports[b]?=some r:=⟨m.exports[b]'(by rw [HN1.out];exact hlb),List.getElem?_eq_getElem _⟩
          obtain ⟨g5,o5,rfl,hgl5,-,hat5⟩:=HXE.out (by intro h;rw [h] at hrk;simp at hrk)
          obtain ⟨cs5,hcsl5,hcs5,rfl,hrs,hra⟩:=hat5 b r hrk
          have hbW:Below w.heap.size w wr:=HB0.out.trans (hx.out.fr.below HB0.out.size HGE.out.1 HGE.out.2 HB0.out.size)
          have b0:=(hbW.cell (p:=⟨g5,o5+b * 2+0,none⟩) hgl5).trans (hcs5 0 (by omega))
          have b1:=(hbW.cell (p:=⟨g5,o5+b * 2+1,none⟩) hgl5).trans (hcs5 1 (by omega))
          simp at b0 b1
          have hbi:(b:Int)<(ne:Int):=by omega
          have hb0:(0:Int)≤(b:Int):=by omega
          have KR:Hid (Below wr.heap.size wr (wr.alloc (.cells #[.string r.name,.int .i64 r.arity] 45))):=(Below.refl _ _).alloc (Nat.le_refl _) _
          have MB:Hid (Blk (wr.alloc (.cells #[.string r.name,.int .i64 r.arity] 45)) bm #[.string m.name,.slice (some ⟨g5,o5,none⟩) ne ce,.slice pf nf cf] 42):=hbmB.out.next KR.out
          have m0:=MB.out.cell 0 _ rfl
          have FN:Hid (Calls Tryz.prog 40 #[.string m.name,.agg #[.string r.name,.int .i64 r.arity]] (wr.alloc (.cells #[.string r.name,.int .i64 r.arity] 45)) fun e w''=>e=.returned (.string (expF m r))∧Below (wr.alloc (.cells #[.string r.name,.int .i64 r.arity] 45)).heap.size (wr.alloc (.cells #[.string r.name,.int .i64 r.arity] 45)) w''):=fullName_any _ m.name r.name r.arity hmn (HWR.out b r hrk) (HAR.out b r hrk) (powAt_low HP.out HPG.out ((hbW.trans (KR.out.mono hbW.size)).block _ HPG.out))
          obtain ⟨q,hq⟩:=HEX.out (expF m r) (HIN.out b r hrk)
          have HQ:Hid (N[q]?=some (expF m r)):=hq
          have HRQ:Hid (∃ y,N[q]?=some y∧Rch E (expL ms) y):=⟨_,hq,Rch.root (HIN.out b r hrk)⟩
          have hqn:q<nn:=by rw [← HLS.out];exact (List.getElem?_eq_some_iff.1 hq).1
          have hLb:L.length≤1048576:=Nat.le_trans (Nat.le_trans hi.out.cnt (CNT.out _ hi.out.len)) hnn
          have HTB:Hid ((m.exports.take (b+1)).map (expF m)=(m.exports.take b).map (expF m) ++ [expF m r]):=by
            show _=_
            rw [List.take_add_one,hrk];simp
          generalize expF m r=xn at *
          clear hcs5 hcsl5 hat5 hrs hra hrk hq hbW
          go_wp2_with fail
          refine FN.out.mono ?_
          rintro e w4 ⟨rfl,hb4⟩
          have K4:Hid (Below wr.heap.size wr w4):=KR.out.trans (hb4.mono KR.out.size)
          have X4:Hid (Sx w0 w4 s gc gm nn (.slice pn nn qn) met L):=hx.out.next K4.out
          have MB4:Hid (Blk w4 bm #[.string m.name,.slice (some ⟨g5,o5,none⟩) ne ce,.slice pf nf cf] 42):=hbmB.out.next K4.out
          have O4:Hid (OwnS w4 0 (.slice pn nn qn) N):=⟨X4.out.fr.owns H0S.out H0M.out (cs1:=[]) (cs2:=[]) (by decide) (by decide) H0O.out.1,Nat.zero_le _⟩
          obtain ⟨gn,rfl,-⟩:=O4.out.at HQ.out
          obtain ⟨v4,hbs4,-⟩:=X4.out.se.hp
          have PL:Hid (Calls Tryz.prog 39 #[.pointer (some ⟨s,0,none⟩),.string xn] w4 fun e w'=>e=.returned (.int .i64 (q:Int))∧Below w4.heap.size w4 w'):=place_any w4 s 0 gn nn qn _ _ _ N hbs4 O4.out HAS.out (by rw [HLS.out];exact hnn) xn q HQ.out
          clear hb4 hbs4 b0 b1 m0 FN
          go_wp2_with fail
          refine PL.out.mono ?_
          rintro e w5 ⟨rfl,hb5⟩
          have X5:Hid (Sx w0 w5 s gc gm nn (.slice (some ⟨gn,0,none⟩) nn qn) met L):=X4.out.next hb5
          have MB5:Hid (Blk w5 bm #[.string m.name,.slice (some ⟨g5,o5,none⟩) ne ce,.slice pf nf cf] 42):=MB4.out.next hb5
          have ME:Hid (Calls Tryz.prog 38 #[.pointer (some ⟨s,0,none⟩),.int .i64 (q:Int)] w5 fun e w'=>e=.returned (.tuple #[])∧∃ met' L',Met1 met L q met' L'∧Se w' w0.heap.size s gm nn (.slice (some ⟨gn,0,none⟩) nn qn) (.slice (some ⟨gc,0,none⟩) nn nn) met' L'∧FrM w0.heap.size s gm w5 w'):=meet_any w5 w0.heap.size s gm nn _ _ met L X5.out.se q hqn (by omega)
          clear hb5 PL
          go_wp2_with fail
          refine ME.out.mono ?_
          rintro e w6 ⟨rfl,m6,L6,h1,h2,h3⟩
          have X6:Hid (Sx w0 w6 s gc gm nn (.slice (some ⟨gn,0,none⟩) nn qn) m6 L6):=X5.out.meet h2 h3
          have I6:Hid (MetI nn (fun p=>∃ y,N[p]?=some y∧Rch E (expL ms) y) m6 L6):=h1.inv hi.out HRQ.out
          have LL6:Hid (∀ q:Nat,m6[q]?=some true→q ∈ L6):=h1.inL hl.out
          have MB6:Hid (Blk w6 bm #[.string m.name,.slice (some ⟨g5,o5,none⟩) ne ce,.slice pf nf cf] 42):=by
            obtain ⟨v5,hbs5,-⟩:=X5.out.se.hp
            exact h3.blk MB5.out (MB5.out.apartT hbs5 (by decide)) (MB5.out.apartT X5.out.se.mb (by decide)) (by decide)
          have R6:Hid (∀ x ∈ (ms.take a).flatMap expM ++ (m.exports.take (b+1)).map (expF m),∃ i:Nat,N[i]?=some x∧m6[i]?=some true):=fun x hx=>by
            rw [HTB.out,← List.append_assoc] at hx
            rcases List.mem_append.1 hx with hx | hx
            · obtain ⟨i,e1,e2⟩:=hr.out x hx
              exact ⟨i,e1,h1.keep e2⟩
            · rw [List.mem_singleton.1 hx]
              exact ⟨q,HQ.out,h1.has⟩
          clear h1 h2 h3 ME
          go_wp2_with fail
          exact ⟨⟨b+1,m6,L6,by omega,by go_num,X6,I6,LL6,R6,MB6⟩,by simp [intOf];omega⟩
        · have RE:Hid (∀ x ∈ (ms.take (a+1)).flatMap expM,∃ i:Nat,N[i]?=some x∧met[i]?=some true):=fun x hx=>by
            rw [HTK.out] at hx
            refine hr.out x ?_
            have e1:m.exports.take b=m.exports:=List.take_of_length_le (by rw [HN1.out];omega)
            rw [e1]
            exact hx
          go_wp2_with fail
          exact ⟨⟨a+1,met,L,by omega,by go_num,hx,hi,hl,RE⟩,by simp [intOf];omega⟩
    · have RE:Hid (∀ x ∈ expL ms,∃ i:Nat,N[i]?=some x∧met[i]?=some true):=fun x hx=>by
        refine hr.out x ?_
        rw [List.take_of_length_le (by rw [HN.out];omega)]
        exact hx
      have GO:Hid (Calls Tryz.prog 41 #[.pointer (some ⟨s,0,none⟩)] wr fun e w'=>e=.returned (.tuple #[])∧∃ met',Sx w0 w' s gc gm nn (.slice pn nn qn) met' []∧MetI nn (fun p=>∃ y,N[p]?=some y∧Rch E (expL ms) y) met' []∧(∀ p:Nat,met[p]?=some true→met'[p]?=some true)∧∃ p0 j0,ShutI cl met' [] p0 j0∧∀ r,cl[p0]?=some r→r.length≤j0):=goOn_any w0 s gc gm nn _ N (expL ms) E cl met L H0S.out H0M.out H0C.out HCA.out HLS.out hnn HGLN.out wr hx.out hi.out hl.out
      go_wp2_with fail
      refine GO.out.mono ?_
      rintro e w3 ⟨rfl,m3,x3,i3,k3,p0,j0,s3,d3⟩
      have X3:Hid (Sx w0 w3 s gc gm nn (.slice pn nn qn) m3 []):=x3
      have B3:Hid (Below w.heap.size w w3):=HB0.out.trans (x3.fr.below HB0.out.size HGE.out.1 HGE.out.2 HB0.out.size)
      have HRES:Hid (fndL N m3 nn=l):=by
        refine asc_ext ord_text _ _ (fndL_asc m3 HAS.out nn) HLA.out (fun x=>?_)
        rw [fndL_mem,HLR.out]
        have key:∀ {p:Nat} {y:ByteArray},N[p]?=some y→(m3[p]?=some true ↔ Rch E (expL ms) y):=fun {p y} hpy=>met_all HCA.out (by rw [HLS.out];exact i3) s3 d3 (asc_nodup HAS.out) HED.out (fun x hx=>by
          obtain ⟨i,e1,e2⟩:=RE.out x hx
          exact ⟨i,e1,k3 i e2⟩) hpy
        constructor
        · rintro ⟨p,h1,h2,h3⟩
          exact (key h2).1 h3
        · intro hrx
          obtain ⟨i,hi⟩:=List.mem_iff_getElem?.1 ((sortS_iff _ _).2 (rch_names HG.out (HEE.out ▸ hrx)))
          rw [HNQ.out] at hi
          exact ⟨i,by rw [← HLS.out];exact (List.getElem?_eq_some_iff.1 hi).1,hi,(key hi).2 hrx⟩
      have FD:Hid (Calls Tryz.prog 42 #[.pointer (some ⟨s,0,none⟩)] w3 fun e w'=>∃ u,e=.returned u∧OwnS w' w3.heap.size u (fndL N m3 nn)∧Below w3.heap.size w3 w'):=by
        obtain ⟨v3,hbs3,-⟩:=x3.se.hp
        exact found_any w3 s gc gm nn 0 qn pn N m3 v3 hbs3 x3.se.mb ⟨x3.fr.owns H0S.out H0M.out (cs1:=[]) (cs2:=[]) (by decide) (by decide) H0O.out.1,Nat.zero_le _⟩ x3.se.len hnn
      rw [HRES.out] at FD
      clear x3 i3 k3 s3 d3 GO
      go_wp2_with fail
      refine FD.out.mono ?_
      rintro e w4 ⟨u4,rfl,o4,b4⟩
      have FIN:Hid (OwnS w4 w.heap.size u4 l∧Below w.heap.size w w4):=⟨OwnS.base o4 B3.out.size,B3.out.trans (b4.mono B3.out.size)⟩
      clear o4 b4 FD
      go_wp2_with fail
      go_ret
      exact ⟨_,rfl,FIN.out⟩
theorem implReached_any (d:Nat) (w:World) (v:Value) (ms:List Md) (l:List ByteArray) (hl:IsReach d ms l) (hT:Tabs w) (hp:PowAt w) (h:Rows w All 3 (HMd w All d) v ms) (hw:wtS (wtMd d) ms≤1048576) :
    Calls Tryz.prog 7 #[v] w fun e w'=>∃ u,e=.returned u∧OwnS w' w.heap.size u l∧Below w.heap.size w w':=by
  have HMS:Hid (∀ w',Below w.heap.size w w'→Rows w' All 3 (HMd w' All d) v ms):=fun w' hw=>h.mono (SameOn.of_below hw) (fun _ h=>h) (fun _ _ _ h=>h.mono (SameOn.of_below hw) (fun _ h=>h))
  have HG:Hid (Calls Tryz.prog 20 #[v] w fun e w''=>e=.returned (.bool (goodB d ms))∧Below w.heap.size w w''):=implGood_any d w v ms hT h hw
  have HPN:Hid (∀ w',Below w.heap.size w w'→PowAt w'):=fun w' hb=>powAt_below hp hb
  have HWS:Hid (wtS (wtMd d) ms≤1048576):=hw
  have HL:Hid (IsReach d ms l):=hl
  obtain ⟨p,cap,rfl,-⟩:=id h
  generalize ms.length=n at *
  clear h hT hp hw hl
  cases hgd:goodB d ms with
  | false =>
    have HLN:Hid (l = []):=by
      show _=_
      refine List.eq_nil_iff_forall_not_mem.2 (fun x hx=>?_)
      have:=((HL.out.2 x).1 hx).1
      rw [hgd] at this
      cases this
    go_enter Tryz.func7,Tryz.ntmps7
    go_wp2_with fail
    refine (HG.out).mono ?_
    rintro e w2 ⟨rfl,hb2⟩
    rw [hgd]
    have O2:Hid (OwnS (w2.alloc (.cells #[] 9)) w.heap.size (.slice (some ⟨w2.heap.size,0,none⟩) 0 0) []):=OwnS.base OwnS.fresh hb2.size
    have B2:Hid (Below w.heap.size w (w2.alloc (.cells #[] 9))):=hb2.alloc hb2.size _
    clear hb2
    go_wp2
    go_ret
    exact ⟨_,rfl,by rw [HLN.out];exact O2.out,B2.out⟩
  | true =>
    have HGD:Hid (goodB d ms=true):=hgd
    go_enter Tryz.func7,Tryz.ntmps7
    go_wp2_with fail
    refine (HG.out).mono ?_
    rintro e w2 ⟨rfl,hb2⟩
    rw [hgd]
    have B2:Hid (Below w.heap.size w w2):=hb2
    clear hb2
    go_wp2_with fail
    refine (progReached_any d w2 _ ms l HL.out (HMS.out _ B2.out) HWS.out (HPN.out _ B2.out) HGD.out).mono ?_
    rintro e w3 ⟨u3,rfl,o3,b3⟩
    have O3:Hid (OwnS w3 w.heap.size u3 l):=OwnS.base o3 B2.out.size
    have B3:Hid (Below w.heap.size w w3):=B2.out.trans (b3.mono B2.out.size)
    clear o3 b3
    go_wp2
    go_ret
    exact ⟨_,rfl,O3.out,B3.out⟩
end Go.Proofs.YtknjlffbdadohaaGreatDoor
