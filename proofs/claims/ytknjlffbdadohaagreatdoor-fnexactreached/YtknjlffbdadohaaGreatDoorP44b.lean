/-
  ReachSpec
-/
import Derived.Test.YtknjlffbdadohaaGreatDoorP44
set_option maxHeartbeats 16000000
set_option linter.unusedVariables false
set_option maxRecDepth 100000
namespace Go.Proofs.YtknjlffbdadohaaGreatDoor
open Go.ChangeShapes Go.WideShapes Go.ChangeAt Go.RowKit
theorem specReached_any (d:Nat) (w:World) (v:Value) (ms:List Md) (l:List ByteArray) (hl:IsReach d ms l) (h:Rows w All 3 (HMd w All d) v ms) (hw:wtS (wtMd d) ms≤1048576) :
    Calls Tryz.prog 5 #[v] w fun e w'=>∃ u,e=.returned u∧OwnS w' w.heap.size u l∧Below w.heap.size w w':=by
  have HMS:Hid (∀ w',Below w.heap.size w w'→Rows w' All 3 (HMd w' All d) v ms):=fun w' hw=>h.mono (SameOn.of_below hw) (fun _ h=>h) (fun _ _ _ h=>h.mono (SameOn.of_below hw) (fun _ h=>h))
  have HG:Hid (∀ w',Below w.heap.size w w'→Calls Tryz.prog 14 #[v] w' fun e w''=>e=.returned (.bool (goodB d ms))∧Below w'.heap.size w' w''):=fun w' hb=>specGood_any d w' v ms (HMS.out w' hb) hw
  have HGR:Hid (∀ w',Below w.heap.size w w'→Calls Tryz.prog 16 #[v] w' fun e w''=>∃ u,e=.returned u∧OwnE w'' w'.heap.size u (graphL d ms)∧Below w'.heap.size w' w''):=fun w' hb=>specGraph_any d w' v ms (HMS.out w' hb) hw
  have B1:Hid (Below w.heap.size w (w.alloc (.cells #[] 9))):=(Below.refl _ _).alloc (Nat.le_refl _) _
  have O1:Hid (OwnS (w.alloc (.cells #[] 9)) w.heap.size (.slice (some ⟨w.heap.size,0,none⟩) 0 0) []):=OwnS.fresh
  have HL:Hid (IsReach d ms l):=hl
  cases hgd:goodB d ms with
  | false =>
    have HLN:Hid (l = []):=by
      show _=_
      refine List.eq_nil_iff_forall_not_mem.2 (fun x hx=>?_)
      have:=((HL.out.2 x).1 hx).1
      rw [hgd] at this
      cases this
    obtain rfl:=HLN.out
    clear hl
    go_enter Tryz.func5,Tryz.ntmps5
    go_wp2_with fail
    refine (HG.out _ B1.out).mono ?_
    rintro e w2 ⟨rfl,hb2⟩
    rw [hgd]
    have O2:Hid (OwnS w2 w.heap.size (.slice (some ⟨w.heap.size,0,none⟩) 0 0) []):=O1.out.next hb2
    have B2:Hid (Below w.heap.size w w2):=B1.out.trans (hb2.mono B1.out.size)
    clear hb2
    go_wp2
    go_ret
    exact ⟨_,rfl,O2.out,B2.out⟩
  | true =>
    have HNM:Hid (∀ y,Rch (graphL d ms) (expL ms) y→y ∈ namesL d ms):=fun y hy=>rch_names hgd hy
    have HED:Hid (∀ e ∈ graphL d ms,e.2 ∈ namesL d ms):=fun e he=>(good_edge hgd e he).2
    have HLR:Hid (∀ x,x ∈ l ↔ Rch (graphL d ms) (expL ms) x):=fun x=>(HL.out.2 x).trans ⟨fun h=>h.2,fun h=>⟨hgd,h⟩⟩
    have HLA:Hid (l.Pairwise (fun a b=>cmpS a b<0)):=HL.out.1
    have HOK:Hid (∀ c ∈ expL ms,okS c):=expL_ok h hw
    have HON:Hid (∀ c ∈ namesL d ms,okS c):=fnames_ok h hw
    have HRF:Hid (∀ m ∈ ms,∀ r ∈ m.exports,okS r.name∧okI r.arity):=fun m hm r hr=>rows_arityX h hm hr
    obtain ⟨p,cap,rfl,hcl,hcm,hx⟩:=h
    have HX:Hid (ms≠[]→∃ g off,p=some ⟨g,off,none⟩∧All g∧g<w.heap.size∧∀ i x,ms[i]?=some x→∃ cs,cs.length=3∧(∀ j,j<3→w.cell? ⟨g,off+i * 3+j,none⟩=cs[j]?)∧HMd w All d cs x):=hx
    have HLEN:Hid ((expL ms).length≤1048576):=Nat.le_trans (expL_len d ms) hw
    have HLNM:Hid ((namesL d ms).length≤1048576):=Nat.le_trans (namesL_len d ms) hw
    have HLG:Hid ((graphL d ms).length≤1048576 * 1048576+1048576):=graphL_wt d ms hw
    have HWM:Hid (∀ k m,ms[k]?=some m→wtMd d m≤1048576):=fun k m hk=>Nat.le_trans (by
      have h2:=sum_take_succ (wtMd d) ms k m hk
      have h3:=sum_take_le (wtMd d) ms (k+1)
      unfold wtS
      omega) hw
    have hnb:ms.length≤9223372036854775807:=by unfold maxLen at hcm;omega
    obtain ⟨i0,hi,hz0,hz1,hz2⟩:=info_parts info_str
    generalize hn:ms.length=n at *
    have HN:Hid (ms.length=n):=hn
    clear hx hn hw hl HL
    go_enter Tryz.func5,Tryz.ntmps5
    go_wp2_with fail
    refine (HG.out _ B1.out).mono ?_
    rintro e w2 ⟨rfl,hb2⟩
    rw [hgd]
    have O2:Hid (OwnS w2 w.heap.size (.slice (some ⟨w.heap.size,0,none⟩) 0 0) []):=O1.out.next hb2
    have B2:Hid (Below w.heap.size w w2):=B1.out.trans (hb2.mono B1.out.size)
    clear hb2 O1 B1
    go_wp2_with fail
    go_loopw [3,4] (fun ov iv wx=>∃ a:Nat,a≤n∧iv=.int .i64 a∧Hid (OwnS wx w.heap.size ov ((ms.take a).flatMap expM))∧Hid (Below w.heap.size w wx)) (fun _ iv _=>n - (intOf iv).toNat)
    case atStart=>exact ⟨0,Nat.zero_le _,rfl,by show OwnS _ _ _ _;simpa using O2.out,B2⟩
    case round =>
      obtain ⟨a,ha,rfl,ho,hb⟩:=hrel
      clear O2 B2
      by_cases hlt:a<n
      · obtain ⟨m,hmk⟩:∃ m,ms[a]?=some m:=⟨ms[a]'(by rw [HN.out];exact hlt),List.getElem?_eq_getElem _⟩
        obtain ⟨g,off,rfl,-,hgl,hat⟩:=HX.out (by intro h;rw [h] at hmk;simp at hmk)
        obtain ⟨cs,hcsl,hcs,hm⟩:=hat a m hmk
        obtain ⟨ev,fv,rfl,hms,he,hf⟩:=hm
        obtain ⟨pe,ce,rfl,hce,hcme,hxe⟩:=he
        have HXE:Hid (m.exports≠[]→∃ g off,pe=some ⟨g,off,none⟩∧All g∧g<w.heap.size∧∀ i x,m.exports[i]?=some x→∃ cs,cs.length=2∧(∀ j,j<2→w.cell? ⟨g,off+i * 2+j,none⟩=cs[j]?)∧HRf cs x):=hxe
        have HWR:Hid (∀ (k:Nat) (r:Rf),m.exports[k]?=some r→r.name.size≤1048576):=fun k r hk=>by
          have h1:=HWM.out a m hmk
          have h2:=wt_mem wtRf (List.mem_of_getElem? hk)
          have h3:wtMd d m=m.name.size+wtS wtRf m.exports+wtS (wtFn d) m.funs:=rfl
          have h4:wtRf r=r.name.size:=rfl
          show _≤_
          omega
        have HAR:Hid (∀ (k:Nat) (r:Rf),m.exports[k]?=some r→okI r.arity):=fun k r hk=>(HRF.out m (List.mem_of_getElem? hmk) r (List.mem_of_getElem? hk)).2
        have hmn:m.name.size≤1048576:=by have:=HWM.out a m hmk;unfold wtMd at this;omega
        have HA0:Hid (w.cell? ⟨g,off+a * 3,none⟩=some (.string m.name)∧w.cell? ⟨g,off+a * 3+1,none⟩=some (.slice pe m.exports.length ce)):=⟨hcs 0 (by omega),hcs 1 (by omega)⟩
        have HGL':Hid (g<w.heap.size):=hgl
        have hki:(a:Int)<(n:Int):=by omega
        have hk0:(0:Int)≤(a:Int):=by omega
        have hne:m.exports.length≤9223372036854775807:=by unfold maxLen at hcme;omega
        obtain ⟨HJ,HLx⟩:=flat_takeG expM ms a m hmk
        have HJJ:Hid ((ms.take (a+1)).flatMap expM=(ms.take a).flatMap expM ++ m.exports.map (expF m)):=HJ
        have HLL:Hid (((ms.take a).flatMap expM).length+m.exports.length≤1048576):=by
          have h1:=HLEN.out
          have h2:=expM_len m
          have h3:ms.flatMap expM=expL ms:=rfl
          rw [h3] at HLx
          show _≤_
          omega
        generalize hA0:(ms.take a).flatMap expM=A0 at *
        generalize hn1:m.exports.length=ne at *
        have HN1:Hid (m.exports.length=ne):=hn1
        clear hxe hcs hcsl hat HJ HLx hA0 hms hn1 hmk hcme hce hf
        go_wp2_with fail
        go_loopw [3,5] (fun ov iv wx=>∃ b:Nat,b≤ne∧iv=.int .i64 b∧Hid (OwnS wx w.heap.size ov (A0 ++ (m.exports.take b).map (expF m)))∧Hid (Below w.heap.size w wx)) (fun _ iv _=>ne - (intOf iv).toNat)
        case atStart=>exact ⟨0,Nat.zero_le _,rfl,by show OwnS _ _ _ _;simpa using ho.out,hb⟩
        case round =>
          obtain ⟨b,hbn,rfl,ho2,hb2⟩:=hrel
          clear ho hb
          have a0:=(hb2.out.cell (p:=⟨g,off+a * 3,none⟩) HGL'.out).trans HA0.out.1
          have a1:=(hb2.out.cell (p:=⟨g,off+a * 3+1,none⟩) HGL'.out).trans HA0.out.2
          by_cases hlb:b<ne
          · obtain ⟨r,hrk⟩:∃ r,m.exports[b]?=some r:=⟨m.exports[b]'(by rw [HN1.out];exact hlb),List.getElem?_eq_getElem _⟩
            obtain ⟨g5,o5,rfl,-,hgl5,hat5⟩:=HXE.out (by intro h;rw [h] at hrk;simp at hrk)
            obtain ⟨cs5,hcsl5,hcs5,rfl,hrs,hra⟩:=hat5 b r hrk
            have b0:=hcs5 0 (by omega)
            have b1:=hcs5 1 (by omega)
            rw [← hb2.out.cell (p:=⟨g5,_,none⟩) hgl5] at b0 b1
            simp at b0 b1
            have hbi:(b:Int)<(ne:Int):=by omega
            have hbi0:(0:Int)≤(b:Int):=by omega
            have CN:Hid (∀ w',Calls Tryz.prog 15 #[.string m.name,.string r.name,.int .i64 r.arity] w' fun e w''=>e=.returned (.string (nmT m.name r.name r.arity))∧Below w'.heap.size w' w''):=fun w'=>specName_any w' m.name r.name r.arity hmn (HWR.out b r hrk) (HAR.out b r hrk)
            have HTK:Hid ((A0 ++ (m.exports.take (b+1)).map (expF m))=(A0 ++ (m.exports.take b).map (expF m)) ++ [nmT m.name r.name r.arity]):=by
              show _=_
              rw [List.take_add_one,hrk];simp [expF]
            have HLB:Hid ((A0 ++ (m.exports.take b).map (expF m)).length+1≤1048576):=by
              have h1:=HLL.out
              show _≤_
              rw [List.length_append,List.length_map,List.length_take];omega
            generalize hP:(A0 ++ (m.exports.take b).map (expF m))=P at *
            generalize hNN:nmT m.name r.name r.arity=NN at *
            have OP:Hid (OwnS wr w.heap.size u3 P):=ho2.out
            clear hcs5 hcsl5 hat5 hP hNN hrk hrs hra
            go_wp2_with fail
            go_region_law
              (first
                | (refine step_append_own _ (by rfl) _ _ _ (by rfl) w.heap.size 9 i0 (.string ⟨#[]⟩) 1 16 Tryz.underlying24 hi hz0 hz1 hz2 rfl (by decide) u3 P.length (strs P) (by rfl) (OP6.out.next ((Below.refl _ _).alloc (Nat.le_refl _) _)).1 ⟨w6.heap.size,0,none⟩ 1 1 (strs [NN]) (by rfl) (by rfl) (one_str w6 NN _ rfl) (strs_oneCell _) (by have:=HLB.out;unfold maxLen;omega) (by have:=HLB.out;omega) (by rw [alloc_hs];have:=OP6.out.2;omega) ?_;intro v9 w9 ho9 hg9 _)
                | (go_simp;go_at_call 15;refine (CN.out _).mono ?_;rintro e w6 ⟨rfl,hb6⟩;have K6:Hid (Below wr.heap.size wr w6):=⟨hb6.os,hb6.tape,hb6.output,hb6.size,hb6.block⟩;have OP6:Hid (OwnS w6 w.heap.size u3 P):=OP.out.next K6.out;clear hb6;dsimp only))
            all_goals
              have bA:Below w6.heap.size w6 (w6.alloc (.cells #[.string NN] 9)):=(Below.refl _ _).alloc (Nat.le_refl _) _
              have OA:=OP6.out.next bA
              have O9:Hid (OwnS w9 w.heap.size v9 (P ++ [NN])):=OwnS.of ho9 (by simp) rfl (Nat.le_trans OA.2 hg9.size)
              have B9:Hid (Below w.heap.size w w9):=((hb2.out.trans (K6.out.mono hb2.out.size)).trans (bA.mono (Nat.le_trans hb2.out.size K6.out.size))).trans (OA.below hg9)
              clear ho9 hg9 bA OA a0 a1 b0 b1 OP OP6
              go_wp2_with fail
              refine ⟨⟨b+1,by omega,by go_num,?_,B9⟩,by simp [intOf];omega⟩
              show OwnS _ _ _ _
              rw [HTK.out]
              exact O9.out
          · have HFE:Hid (OwnS wr w.heap.size u3 ((ms.take (a+1)).flatMap expM)):=by
              have h1:=ho2.out
              rw [List.take_of_length_le (by rw [HN1.out];omega),← HJJ.out] at h1
              exact h1
            go_wp2_with fail
            exact ⟨⟨a+1,by omega,by go_num,HFE,hb2⟩,by simp [intOf];omega⟩
      · have HFE:Hid (OwnS wr w.heap.size u3 (expL ms)):=by
          have h1:=ho.out
          rw [List.take_of_length_le (by rw [HN.out];omega)] at h1
          exact h1
        clear ho HX HWM HMS HG
        go_wp2_with fail
        refine (HGR.out _ hb.out).mono ?_
        rintro e w3 ⟨ug,rfl,og,hb3⟩
        obtain ⟨pg,qg,rfl,hgm⟩:=OwnG.slice og
        have O3:Hid (OwnS w3 w.heap.size u3 (expL ms)):=HFE.out.next hb3
        have G3:Hid (OwnE w3 w.heap.size (.slice pg (graphL d ms).length qg) (graphL d ms)):=OwnG.base og hb.out.size
        have B3:Hid (Below w.heap.size w w3):=hb.out.trans (hb3.mono hb.out.size)
        generalize hE:graphL d ms=E at *
        generalize hXX:expL ms=X at *
        generalize hNN:namesL d ms=NM at *
        have hXL:X.length≤1048576:=HLEN.out
        have hNL:NM.length≤1048576:=HLNM.out
        obtain ⟨nx,hnx⟩:∃ nx,nx=X.length+NM.length:=⟨_,rfl⟩
        have HNX:Hid (nx=X.length+NM.length):=hnx
        have hnxb:nx≤2097152:=by omega
        generalize hel:E.length=ne at *
        have HEL:Hid (E.length=ne):=hel
        have hnem:ne≤9223372036854775807:=by unfold maxLen at hgm;omega
        clear hb hb3 og HFE hE hXX hNN hnx hel hlt HGR hgm
        go_wp2_with fail
        go_loopw [3,7] (fun ov iv wx=>∃ (i:Nat) (out:List ByteArray),i≤out.length∧iv=.int .i64 i∧Hid (BfsI E X NM i 0 out)∧Hid (OwnS wx w.heap.size ov out)∧Hid (OwnE wx w.heap.size (.slice pg ne qg) E)∧Hid (Below w.heap.size w wx)) (fun _ iv _=>nx - (intOf iv).toNat)
        case atStart=>exact ⟨0,X,Nat.zero_le _,rfl,BfsI.start,O3,G3,B3⟩
        case round =>
          obtain ⟨i,out,hio,rfl,hbf,oo,og,hb⟩:=hrel
          clear O3 G3 B3
          have hol:out.length≤nx:=by rw [HNX.out];exact hbf.out.len
          obtain ⟨po,qo,rfl⟩:=OwnS.slice oo.out
          by_cases hlt:i<out.length
          · obtain ⟨y,hy⟩:∃ y,out[i]?=some y:=⟨out[i],List.getElem?_eq_getElem _⟩
            have hii:(i:Int)<(out.length:Int):=by omega
            have HY:Hid (out[i]?=some y):=hy
            clear hy
            go_wp2_with fail
            go_loopw [3,8] (fun ov kv wx=>∃ (k:Nat) (o2:List ByteArray),k≤ne∧kv=.int .i64 k∧Hid (BfsI E X NM i k o2)∧Hid (o2[i]?=some y)∧Hid (OwnS wx w.heap.size ov o2)∧Hid (OwnE wx w.heap.size (.slice pg ne qg) E)∧Hid (Below w.heap.size w wx)) (fun _ kv _=>ne - (intOf kv).toNat)
            case atStart=>exact ⟨0,out,Nat.zero_le _,rfl,hbf,HY,oo,og,hb⟩
            case round =>
              obtain ⟨k,o2,hkn,rfl,hbf2,hy2,oo2,og2,hb2⟩:=hrel
              clear oo og hb hbf
              have hol2:o2.length≤nx:=by rw [HNX.out];exact hbf2.out.len
              have hil2:i<o2.length:=(List.getElem?_eq_some_iff.1 hy2.out).1
              by_cases hlk:k<ne
              · obtain ⟨e,hek⟩:∃ e,E[k]?=some e:=⟨E[k]'(by rw [HEL.out];exact hlk),List.getElem?_eq_getElem _⟩
                obtain ⟨gg,rfl,c0,c1⟩:=og2.out.at hek
                obtain ⟨po2,qo2,rfl⟩:=OwnS.slice oo2.out
                obtain ⟨go,rfl,c2⟩:=oo2.out.at hy2.out
                have hki:(k:Int)<(ne:Int):=by omega
                have hii2:(i:Int)<(o2.length:Int):=by omega
                have HEK:Hid (E[k]?=some e):=hek
                clear hek
                generalize hln:o2.length=lo at *
                have HLO:Hid (o2.length=lo):=hln
                clear hln
                by_cases hq:e.1=y
                · have hqb:(e.1.toList == y.toList)=true:=by simp [hq]
                  have HBN:Hid (BfsI E X NM i (k+1) (onceS o2 [e.2])):=hbf2.out.take HEK.out hy2.out hq (HED.out e (List.mem_of_getElem? HEK.out))
                  have HYN:Hid ((onceS o2 [e.2])[i]?=some y):=by
                    rcases onceS_one o2 e.2 with ⟨_,h2⟩ | ⟨_,h2⟩
                    · show _=_;rw [h2];exact hy2.out
                    · show _=_;rw [h2,List.getElem?_append_left (by rw [HLO.out];exact hil2)];exact hy2.out
                  have HOO:Hid (∀ c ∈ o2,okS c):=fun c hc=>HON.out c (HNM.out c (hbf2.out.sound c hc))
                  have HOE:Hid (okS e.2):=HON.out _ (HED.out e (List.mem_of_getElem? HEK.out))
                  go_wp2_with fail
                  go_quiet (fail)
                  have KD:Hid (Below wr.heap.size wr ((wr.drewN nq).alloc (.cells #[.string e.2] 9))):=(⟨rfl,rfl,rfl,Nat.le_refl _,fun _ _=>rfl⟩:Below wr.heap.size wr (wr.drewN nq)).alloc (Nat.le_refl _) _
                  have HO5:Hid (StrV ((wr.drewN nq).alloc (.cells #[.string e.2] 9)) (.slice (some ⟨go,0,none⟩) lo qo2) o2):=(oo2.out.next KD.out).strV HOO.out
                  have HO6:Hid (StrR ((wr.drewN nq).alloc (.cells #[.string e.2] 9)) (.slice (some ⟨wr.heap.size,0,none⟩) 1 1) [e.2]):=one_strR (W:=wr.drewN nq) HOE.out
                  have HLL:Hid (o2.length + [e.2].length≤8388608):=by show _≤_;rw [HLO.out];simp;omega
                  go_wp2_with fail
                  refine (once_any _ _ _ o2 [e.2] HO5.out HO6.out HLL.out).mono ?_
                  rintro e9 w9 ⟨u9,rfl,o9,hb9⟩
                  have B9:Hid (Below wr.heap.size wr w9):=KD.out.trans (hb9.mono KD.out.size)
                  have O9:Hid (OwnS w9 w.heap.size u9 (onceS o2 [e.2])):=OwnS.base o9 (Nat.le_trans hb2.out.size KD.out.size)
                  have FIN:Hid (OwnE w9 w.heap.size (.slice (some ⟨gg,0,none⟩) ne qg) E∧Below w.heap.size w w9):=⟨og2.out.next B9.out,hb2.out.trans (B9.out.mono hb2.out.size)⟩
                  clear o9 hb9
                  go_wp2_with fail
                  exact ⟨⟨k+1,_,by omega,by go_num,HBN,HYN,O9,FIN.out.1,FIN.out.2⟩,by simp [intOf];omega⟩
                · have hqb:(e.1.toList == y.toList)=false:=by simpa using str_ne hq
                  go_wp2_with fail
                  go_quiet (fail)
                  have KD:Hid (Below wr.heap.size wr (wr.drewN nq)):=⟨rfl,rfl,rfl,Nat.le_refl _,fun _ _=>rfl⟩
                  have HBN:Hid (BfsI E X NM i (k+1) o2):=hbf2.out.skip HEK.out hy2.out hq
                  go_wp2_with fail
                  exact ⟨⟨k+1,o2,by omega,by go_num,HBN,hy2,oo2.out.next KD.out,og2.out.next KD.out,hb2.out.trans (KD.out.mono hb2.out.size)⟩,by simp [intOf];omega⟩
              · have HB3:Hid (BfsI E X NM (i+1) 0 o2):=by
                  have:=hbf2.out
                  rw [show k=E.length by rw [HEL.out];omega] at this
                  exact this.next
                go_wp2_with fail
                exact ⟨⟨i+1,o2,by omega,by go_num,HB3,oo2,og2,hb2⟩,by simp [intOf];omega⟩
          · have HDN:Hid (∀ x,x ∈ out ↔ Rch E X x):=fun x=>hbf.out.done (by omega) x
            have HOO:Hid (∀ c ∈ out,okS c):=fun c hc=>HON.out c (HNM.out c ((HDN.out c).1 hc))
            have HLO:Hid (out.length≤2097152):=by show _≤_;omega
            go_wp2_with fail
            refine (sorted_any _ _ _ (oo.out.strR HOO.out) HLO.out).mono ?_
            rintro e w4 ⟨un,rfl,on,hb4⟩
            have HSO:Hid (sortS out=l):=asc_ext ord_text _ _ (sortS_asc _) HLA.out (fun x=>by rw [sortS_iff,HDN.out,HLR.out])
            have FIN:Hid (OwnS w4 w.heap.size un l∧Below w.heap.size w w4):=⟨by rw [← HSO.out];exact OwnS.base on hb.out.size,hb.out.trans (hb4.mono hb.out.size)⟩
            clear on hb4
            go_wp2_with fail
            go_ret
            exact ⟨_,rfl,FIN.out⟩
end Go.Proofs.YtknjlffbdadohaaGreatDoor
