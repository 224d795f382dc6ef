/-
  NameSpecC NameMath2 NameMath4 NameSpecH
-/
import Derived.Test.YtefpgpbbgclemaaGreatDoorP15
set_option maxHeartbeats 16000000
set_option linter.unusedVariables false
set_option maxRecDepth 100000
namespace Go.Proofs.YtefpgpbbgclemaaGreatDoor
open Go.ChangeShapes Go.WideShapes Go.ChangeAt Go.RowKit
theorem bndV_two (d:Nat) (n:Int) (t m:ByteArray) (a b:Ex) (cs:List Cl):bndV (d+1) (.mk 9 n t m [a,b] cs)=onceS (bndV d b) (patV d a):=rfl
theorem bndV_else (d:Nat) (k n:Int) (t m:ByteArray) (ks:List Ex) (cs:List Cl) (h:¬ (k=9∧ks.length=2)):bndV (d+1) (.mk k n t m ks cs)=foldV (bndV d) [] ks:=by
  unfold bndV
  split
  · simp at h
  · rfl
theorem bndV_len:∀ (d:Nat) (x:Ex),(bndV d x).length≤1+wtEx d x
  | 0,_=>by simp [bndV]
  | d+1,.mk k n t m ks cs=>by
    have hw:wtEx (d+1) (.mk k n t m ks cs)=t.size+m.size+wtS (wtEx d) ks+wtS (wtCl (wtEx d)) cs:=rfl
    by_cases h:k=9∧ks.length=2
    · obtain ⟨rfl,h2⟩:=h
      match ks,h2 with
      | [a,b],_ =>
        have h3:=onceS_length (bndV d b) (patV d a)
        have h4:=bndV_len d b
        have h5:=patV_len d a
        have h6:wtS (wtEx d) [a,b]=2+(wtEx d a+wtEx d b):=by simp [wtS]
        rw [bndV_two,hw];omega
    · have h1:=foldV_len (bndV d) (wtEx d) ks [] (fun y _=>bndV_len d y)
      rw [bndV_else d k n t m ks cs h,hw]
      simp only [List.length_nil] at h1
      omega
theorem bndV_ok:∀ (d:Nat) (x:Ex),exS d x→∀ s ∈ bndV d x,okS s
  | 0,_,h,_,_=>h.elim
  | d+1,.mk k n t m ks cs,hx,s,hs=>by
    by_cases h:k=9∧ks.length=2
    · obtain ⟨rfl,h2⟩:=h
      match ks,h2 with
      | [a,b],_ =>
        rw [bndV_two] at hs
        rcases onceS_mem _ _ s hs with h1 | h1
        · exact bndV_ok d b (hx.2.1 b (by simp)) s h1
        · exact patV_ok d a (hx.2.1 a (by simp)) s h1
    · rw [bndV_else d k n t m ks cs h] at hs
      rcases foldV_mem _ _ _ s hs with h1 | ⟨y,hy,h1⟩
      · simp at h1
      · exact bndV_ok d y (hx.2.1 y hy) s h1
theorem bound_of {d:Nat} (hE:NmC 140 d (bndV d)):NmC 140 (d+1) (bndV (d+1)):=by
  intro w cs x h hwt
  have hok:=h.txts
  obtain ⟨kv,cv,rfl,-,-,hts,hms,f0,-⟩:=h
  obtain ⟨kx,nx,tx,mx,ks,cl⟩:=x
  simp only [Ex.kind,Ex.n,Ex.text,Ex.mod,Ex.kids] at *
  have hw:wtEx (d+1) (.mk kx nx tx mx ks cl)=tx.size+mx.size+wtS (wtEx d) ks+wtS (wtCl (wtEx d)) cl:=rfl
  have wks:wtS (wtEx d) ks≤1048576:=by omega
  obtain ⟨p,cap,rfl,hcl,hcm,hx⟩:=f0
  have hnb:ks.length≤9223372036854775807:=by unfold maxLen at hcm;omega
  obtain ⟨i,hi,hz0,hz1,hz2⟩:=info_parts info_str
  have LQ:Hid (∀ k,(foldV (bndV d) [] (ks.take k)).length≤1048577):=fun k=>by
    have h1:=foldV_len (bndV d) (wtEx d) (ks.take k) [] (fun y _=>bndV_len d y)
    have h2:wtS (wtEx d) (ks.take k)≤wtS (wtEx d) ks:=by
      have h3:=sum_take_le (wtEx d) ks k
      have h4:(ks.take k).length≤ks.length:=by rw [List.length_take];omega
      unfold wtS;omega
    simp only [List.length_nil] at h1
    omega
  have OQ:Hid (∀ k,∀ s ∈ foldV (bndV d) [] (ks.take k),okS s):=fun k s hs=>by
    rcases foldV_mem _ _ _ s hs with h | ⟨y,hy,h⟩
    · simp at h
    · exact bndV_ok d y (hok.2.1 y (List.mem_of_mem_take hy)) s h
  have BX:Hid (∀ k x,ks[k]?=some x→wtEx d x≤1048576∧exS d x∧(bndV d x).length≤1048577):=fun k x hk=>by
    have h1:=sum_take_succ (wtEx d) ks k x hk
    have h2:=sum_take_le (wtEx d) ks (k+1)
    have h3:=bndV_len d x
    have h4:wtEx d x≤1048576:=by unfold wtS at wks;omega
    exact ⟨h4,hok.2.1 x (List.mem_of_getElem? hk),by omega⟩
  by_cases h92:kx=9∧ks.length=2
  · obtain ⟨rfl,hn2⟩:=h92
    obtain ⟨ya,yb,rfl⟩:∃ a b,ks = [a,b]:=by
      match ks,hn2 with
      | [a,b],_=>exact ⟨a,b,rfl⟩
    rw [bndV_two]
    obtain ⟨wa,sa,-⟩:=BX.out 0 ya rfl
    obtain ⟨wb,sb,lb⟩:=BX.out 1 yb rfl
    have la:(patV d ya).length≤1048577:=by have:=patV_len d ya;omega
    obtain ⟨g,off,rfl,-,hgl,hat⟩:=hx (by simp)
    obtain ⟨cs,hcsl,hcs,ra⟩:=hat 0 ya rfl
    obtain ⟨cs',hcsl',hcs',rb⟩:=hat 1 yb rfl
    simp only [List.length_cons,List.length_nil] at *
    obtain ⟨W1,hW1⟩:∃ W1,W1=w.alloc (.cells #[.int .i64 9,.int .i64 nx,.string tx,.string mx,.slice (some ⟨g,off,none⟩) 2 cap,cv] 79):=⟨_,rfl⟩
    have bA:Hid (Blk W1 w.heap.size #[.int .i64 9,.int .i64 nx,.string tx,.string mx,.slice (some ⟨g,off,none⟩) 2 cap,cv] 79):=by show Blk _ _ _ _;rw [hW1];exact Blk.new
    have B1:Hid (Below w.heap.size w W1):=by show Below _ _ _;rw [hW1];exact (Below.refl _ _).alloc (Nat.le_refl _) _
    have HW1:Hid (W1=w.alloc (.cells #[.int .i64 9,.int .i64 nx,.string tx,.string mx,.slice (some ⟨g,off,none⟩) 2 cap,cv] 79)):=hW1
    have EA:∀ w',Below w.heap.size w w'→HEx w' All d cs ya:=fun w' hw=>ra.mono (SameOn.of_below hw) (fun _ h=>h)
    have EB:∀ w',Below w.heap.size w w'→HEx w' All d cs' yb:=fun w' hw=>rb.mono (SameOn.of_below hw) (fun _ h=>h)
    obtain ⟨c0,c1,c2,c3,c4,c5,rfl⟩:=len6 hcsl
    obtain ⟨e0,e1,e2,e3,e4,e5,rfl⟩:=len6 hcsl'
    have ca0:=hcs 0 (by omega)
    have cb0:=hcs' 0 (by omega)
    have ca1:=hcs 1 (by omega)
    have cb1:=hcs' 1 (by omega)
    have ca2:=hcs 2 (by omega)
    have cb2:=hcs' 2 (by omega)
    have ca3:=hcs 3 (by omega)
    have cb3:=hcs' 3 (by omega)
    have ca4:=hcs 4 (by omega)
    have cb4:=hcs' 4 (by omega)
    have ca5:=hcs 5 (by omega)
    have cb5:=hcs' 5 (by omega)
    rw [← B1.out.cell (p:=⟨g,_,none⟩) hgl] at ca0 cb0 ca1 cb1 ca2 cb2 ca3 cb3 ca4 cb4 ca5 cb5
    simp at ca0 cb0 ca1 cb1 ca2 cb2 ca3 cb3 ca4 cb4 ca5 cb5
    have x4:=bA.out.cell 4 _ rfl
    clear hx hat hcs hcs' hcsl hcsl' ra rb LQ OQ BX hok hw hwt hW1
    go_enter Tryz.func140,Tryz.ntmps140
    go_wp2_with fail
    rw [← HW1.out]
    go_region_held3 (fun w'=>w'.cell? ⟨w.heap.size,4,none⟩=some (.slice (some ⟨g,off,none⟩) 2 cap)∧w'.cell? ⟨g,off,none⟩=some c0∧w'.cell? ⟨g,off+1,none⟩=some c1∧w'.cell? ⟨g,off+2,none⟩=some c2∧w'.cell? ⟨g,off+3,none⟩=some c3∧w'.cell? ⟨g,off+4,none⟩=some c4∧w'.cell? ⟨g,off+5,none⟩=some c5∧w'.cell? ⟨g,off+6,none⟩=some e0∧w'.cell? ⟨g,off+6+1,none⟩=some e1∧w'.cell? ⟨g,off+6+2,none⟩=some e2∧w'.cell? ⟨g,off+6+3,none⟩=some e3∧w'.cell? ⟨g,off+6+4,none⟩=some e4∧w'.cell? ⟨g,off+6+5,none⟩=some e5)
      (first | go_keep | (go_split_ands;refine ⟨?_,?_,?_,?_,?_,?_,?_,?_,?_,?_,?_,?_,?_⟩ <;> exact cell_next hb (by assumption)))
      (first
        | (go_at_call 140;refine (hE _ _ yb (EB _ (by exact B1.out.drew)) wb).mono ?_;rintro e w4 ⟨u4,rfl,ho4,hb⟩;have K4:Hid (Below W1.heap.size W1 w4):=⟨hb.os,hb.tape,hb.output,hb.size,hb.block⟩;have G4:Hid (OwnS w4 W1.heap.size u4 (bndV d yb)):=ho4;clear ho4)
        | (go_at_call 109;refine (patVars_all d _ _ ya (EA _ (by exact B1.out.trans (K4.out.mono B1.out.size))) wa).mono ?_;rintro e w5 ⟨u5,rfl,ho5,hb⟩;have K5:Hid (Below w4.heap.size w4 w5):=hb;have G5:Hid (StrR w5 u5 (patV d ya)):=ho5.strR (patV_ok d ya sa);have G4b:Hid (StrV w5 u4 (bndV d yb)):=(G4.out.next hb).strV (bndV_ok d yb sb);clear ho5)
        | (go_at_call 81;refine (once_any _ _ _ _ _ G4b.out G5.out (by omega)).mono ?_;rintro e w6 ⟨u6,rfl,ho6,hb⟩;have K6:Hid (Below w5.heap.size w5 w6):=hb;have G6:Hid (OwnS w6 w5.heap.size u6 (onceS (bndV d yb) (patV d ya))):=ho6;clear ho6))
    go_split_ands
    have BZ:Hid (Below w.heap.size w w5):=(B1.out.trans (K4.out.mono B1.out.size)).trans (K5.out.mono (B1.out.trans (K4.out.mono B1.out.size)).size)
    have BY:Hid (Below w.heap.size w w6):=BZ.out.trans (K6.out.mono BZ.out.size)
    go_wp2_with fail
    go_ret
    exact ⟨u6,rfl,G6.out.base BZ.out.size,BY.out⟩
  · rw [bndV_else d kx nx tx mx ks cl h92]
    generalize hn:ks.length=n at *
    have HN:Hid (ks.length=n):=hn
    have HX:Hid (ks≠[]→∃ g off,p=some ⟨g,off,none⟩∧All g∧g<w.heap.size∧∀ i x,ks[i]?=some x→∃ cs,cs.length=6∧(∀ j,j<6→w.cell? ⟨g,off+i * 6+j,none⟩=cs[j]?)∧HEx w All d cs x):=hx
    obtain ⟨W1,hW1⟩:∃ W1,W1=w.alloc (.cells #[.int .i64 kx,.int .i64 nx,.string tx,.string mx,.slice p n cap,cv] 79):=⟨_,rfl⟩
    have bA:Hid (Blk W1 w.heap.size #[.int .i64 kx,.int .i64 nx,.string tx,.string mx,.slice p n cap,cv] 79):=by show Blk _ _ _ _;rw [hW1];exact Blk.new
    have B1:Hid (Below w.heap.size w W1):=by show Below _ _ _;rw [hW1];exact (Below.refl _ _).alloc (Nat.le_refl _) _
    have hs1:W1.heap.size=w.heap.size+1:=by rw [hW1];simp
    have HW1:Hid (W1=w.alloc (.cells #[.int .i64 kx,.int .i64 nx,.string tx,.string mx,.slice p n cap,cv] 79)):=hW1
    have O9:Hid (OwnS (W1.alloc (.cells #[] 9)) w.heap.size (.slice (some ⟨w.heap.size+1,0,none⟩) 0 0) []):=by
      have:=(OwnS.fresh (w:=W1)).base B1.out.size
      rwa [hs1] at this
    have BBB:Hid (Below w.heap.size w (W1.alloc (.cells #[] 9))):=B1.out.alloc B1.out.size _
    have bB:Hid (Blk (W1.alloc (.cells #[] 9)) w.heap.size #[.int .i64 kx,.int .i64 nx,.string tx,.string mx,.slice p n cap,cv] 79):=bA.out.alloc
    clear hx hn hok hw hwt hW1
    by_cases k9:kx=9
    · subst k9
      have hn2:¬ n=2:=fun h=>h92 ⟨rfl,h⟩
      have hn2b:((n:Int) == 2)=false:=by simp;omega
      clear h92
      go_enter Tryz.func140,Tryz.ntmps140
      go_wp2_with fail
      rw [← HW1.out]
      go_loopw [3,4] (fun ov iv wr=>∃ k:Nat,k≤n∧iv=.int .i64 k∧Hid (OwnS wr w.heap.size ov (foldV (bndV d) [] (ks.take k)))∧Hid (Blk wr w.heap.size #[.int .i64 9,.int .i64 nx,.string tx,.string mx,.slice p n cap,cv] 79)∧Below w.heap.size w wr) (fun _ iv _=>n - (intOf iv).toNat)
      case atStart=>exact ⟨0,Nat.zero_le _,rfl,O9.out,bB.out,BBB.out⟩
      case round =>
        obtain ⟨k,hk,rfl,ho,hbk,hb⟩:=hrel
        have HB:Hid (Below w.heap.size w wr):=hb
        have xa4:=hbk.out.cell 4 _ rfl
        by_cases hlt:k<n
        · obtain ⟨x,hxk⟩:∃ x,ks[k]?=some x:=⟨ks[k]'(by rw [HN.out];exact hlt),List.getElem?_eq_getElem _⟩
          obtain ⟨g,off,rfl,-,hgl,hat⟩:=HX.out (by intro h;rw [h] at hxk;simp at hxk)
          obtain ⟨cs,hcsl,hcs,r1⟩:=hat k x hxk
          have E1:∀ w',Below w.heap.size w w'→HEx w' All d cs x:=fun w' hw=>r1.mono (SameOn.of_below hw) (fun _ h=>h)
          obtain ⟨c0,c1,c2,c3,c4,c5,rfl⟩:=len6 hcsl
          have a0:=hcs 0 (by omega)
          have a1:=hcs 1 (by omega)
          have a2:=hcs 2 (by omega)
          have a3:=hcs 3 (by omega)
          have a4:=hcs 4 (by omega)
          have a5:=hcs 5 (by omega)
          rw [← hb.cell (p:=⟨g,_,none⟩) hgl] at a0 a1 a2 a3 a4 a5
          simp at a0 a1 a2 a3 a4 a5
          have hki:(k:Int)<(n:Int):=by omega
          have hk0:(0:Int)≤(k:Int):=by omega
          obtain ⟨wx,sx,lx⟩:=BX.out k x hxk
          have HJ:Hid (foldV (bndV d) [] (ks.take (k+1))=onceS (foldV (bndV d) [] (ks.take k)) (bndV d x)):=foldV_snoc _ _ ks k x hxk
          have lq:=LQ.out k
          have oq:=OQ.out k
          generalize hJ0:foldV (bndV d) [] (ks.take k)=J at *
          clear hb hcs hat hcsl r1 hJ0
          go_wp2_with fail
          refine (hE _ _ x (E1 _ HB.out) wx).mono ?_
          rintro e w4 ⟨u4,rfl,ho4,hb4⟩
          have HB4:Hid (Below w.heap.size w w4):=HB.out.trans (hb4.mono HB.out.size)
          have SV:Hid (StrV w4 u3 J):=(ho.out.next hb4).strV oq
          have SR:Hid (StrR w4 u4 (bndV d x)):=ho4.strR (bndV_ok d x sx)
          have bk4:Hid (Blk w4 w.heap.size #[.int .i64 9,.int .i64 nx,.string tx,.string mx,.slice (some ⟨g,off,none⟩) n cap,cv] 79):=hbk.out.next hb4
          clear hb4 ho4 xa4 a0 a1 a2 a3 a4 a5
          go_wp2_with fail
          refine (once_any _ _ _ J (bndV d x) SV.out SR.out (by omega)).mono ?_
          rintro e w5 ⟨u5,rfl,ho5,hb5⟩
          have HB5:Hid (Below w.heap.size w w5):=HB4.out.trans (hb5.mono HB4.out.size)
          have HO5:Hid (OwnS w5 w.heap.size u5 (onceS J (bndV d x))):=ho5.base HB4.out.size
          have bk5:Hid (Blk w5 w.heap.size #[.int .i64 9,.int .i64 nx,.string tx,.string mx,.slice (some ⟨g,off,none⟩) n cap,cv] 79):=bk4.out.next hb5
          clear hb5 ho5
          go_wp2_with fail
          exact ⟨⟨k+1,by omega,by go_num,by show OwnS _ _ _ _;rw [HJ.out];exact HO5.out,bk5.out,HB5.out⟩,by simp [intOf];omega⟩
        · have HS:Hid (OwnS wr w.heap.size u3 (foldV (bndV d) [] ks)):=by
            have:=ho.out
            rwa [List.take_of_length_le (by rw [HN.out];omega)] at this
          clear hb
          go_wp2_with fail
          go_ret
          exact ⟨u3,rfl,HS.out,HB.out⟩
    · have k9b:(kx == 9)=false:=by simpa using k9
      clear h92
      go_enter Tryz.func140,Tryz.ntmps140
      go_wp2_with fail
      rw [← HW1.out]
      go_loopw [3,4] (fun ov iv wr=>∃ k:Nat,k≤n∧iv=.int .i64 k∧Hid (OwnS wr w.heap.size ov (foldV (bndV d) [] (ks.take k)))∧Hid (Blk wr w.heap.size #[.int .i64 kx,.int .i64 nx,.string tx,.string mx,.slice p n cap,cv] 79)∧Below w.heap.size w wr) (fun _ iv _=>n - (intOf iv).toNat)
      case atStart=>exact ⟨0,Nat.zero_le _,rfl,O9.out,bB.out,BBB.out⟩
      case round =>
        obtain ⟨k,hk,rfl,ho,hbk,hb⟩:=hrel
        have HB:Hid (Below w.heap.size w wr):=hb
        have xa4:=hbk.out.cell 4 _ rfl
        by_cases hlt:k<n
        · obtain ⟨x,hxk⟩:∃ x,ks[k]?=some x:=⟨ks[k]'(by rw [HN.out];exact hlt),List.getElem?_eq_getElem _⟩
          obtain ⟨g,off,rfl,-,hgl,hat⟩:=HX.out (by intro h;rw [h] at hxk;simp at hxk)
          obtain ⟨cs,hcsl,hcs,r1⟩:=hat k x hxk
          have E1:∀ w',Below w.heap.size w w'→HEx w' All d cs x:=fun w' hw=>r1.mono (SameOn.of_below hw) (fun _ h=>h)
          obtain ⟨c0,c1,c2,c3,c4,c5,rfl⟩:=len6 hcsl
          have a0:=hcs 0 (by omega)
          have a1:=hcs 1 (by omega)
          have a2:=hcs 2 (by omega)
          have a3:=hcs 3 (by omega)
          have a4:=hcs 4 (by omega)
          have a5:=hcs 5 (by omega)
          rw [← hb.cell (p:=⟨g,_,none⟩) hgl] at a0 a1 a2 a3 a4 a5
          simp at a0 a1 a2 a3 a4 a5
          have hki:(k:Int)<(n:Int):=by omega
          have hk0:(0:Int)≤(k:Int):=by omega
          obtain ⟨wx,sx,lx⟩:=BX.out k x hxk
          have HJ:Hid (foldV (bndV d) [] (ks.take (k+1))=onceS (foldV (bndV d) [] (ks.take k)) (bndV d x)):=foldV_snoc _ _ ks k x hxk
          have lq:=LQ.out k
          have oq:=OQ.out k
          generalize hJ0:foldV (bndV d) [] (ks.take k)=J at *
          clear hb hcs hat hcsl r1 hJ0
          go_wp2_with fail
          refine (hE _ _ x (E1 _ HB.out) wx).mono ?_
          rintro e w4 ⟨u4,rfl,ho4,hb4⟩
          have HB4:Hid (Below w.heap.size w w4):=HB.out.trans (hb4.mono HB.out.size)
          have SV:Hid (StrV w4 u3 J):=(ho.out.next hb4).strV oq
          have SR:Hid (StrR w4 u4 (bndV d x)):=ho4.strR (bndV_ok d x sx)
          have bk4:Hid (Blk w4 w.heap.size #[.int .i64 kx,.int .i64 nx,.string tx,.string mx,.slice (some ⟨g,off,none⟩) n cap,cv] 79):=hbk.out.next hb4
          clear hb4 ho4 xa4 a0 a1 a2 a3 a4 a5
          go_wp2_with fail
          refine (once_any _ _ _ J (bndV d x) SV.out SR.out (by omega)).mono ?_
          rintro e w5 ⟨u5,rfl,ho5,hb5⟩
          have HB5:Hid (Below w.heap.size w w5):=HB4.out.trans (hb5.mono HB4.out.size)
          have HO5:Hid (OwnS w5 w.heap.size u5 (onceS J (bndV d x))):=ho5.base HB4.out.size
          have bk5:Hid (Blk w5 w.heap.size #[.int .i64 kx,.int .i64 nx,.string tx,.string mx,.slice (some ⟨g,off,none⟩) n cap,cv] 79):=bk4.out.next hb5
          clear hb5 ho5
          go_wp2_with fail
          exact ⟨⟨k+1,by omega,by go_num,by show OwnS _ _ _ _;rw [HJ.out];exact HO5.out,bk5.out,HB5.out⟩,by simp [intOf];omega⟩
        · have HS:Hid (OwnS wr w.heap.size u3 (foldV (bndV d) [] ks)):=by
            have:=ho.out
            rwa [List.take_of_length_le (by rw [HN.out];omega)] at this
          clear hb
          go_wp2_with fail
          go_ret
          exact ⟨u3,rfl,HS.out,HB.out⟩
theorem bound_all:∀ d,NmC 140 d (bndV d)
  | 0=>fun w cs x h _=>h.elim
  | d+1=>bound_of (bound_all d)
abbrev keyS (s:ByteArray):List UInt8:=s.toList
def NdK (l:List ByteArray):Prop:=(l.map keyS).Nodup
def SubK (l:List ByteArray) (m:List (List UInt8)):Prop:=∀ s ∈ l,keyS s ∈ m
theorem nodup_len {α:Type} [BEq α] [LawfulBEq α]:∀ (l m:List α),l.Nodup→(∀ x ∈ l,x ∈ m)→l.length≤m.length
  | [],m,_,_=>Nat.zero_le _
  | x :: xs,m,hn,hs=>by
    have hx:x ∈ m:=hs x (by simp)
    rw [List.nodup_cons] at hn
    have h1:=nodup_len xs (m.erase x) hn.2 (fun y hy=>(List.mem_erase_of_ne (by intro e;subst e;exact hn.1 hy)).2 (hs y (by simp [hy])))
    have h2:=List.length_erase_of_mem hx
    have h3:0<m.length:=List.length_pos_of_mem hx
    simp only [List.length_cons];omega
theorem NdK.len {l:List ByteArray} {m:List (List UInt8)} (h:NdK l) (hs:SubK l m):l.length≤m.length:=by
  have:=nodup_len (l.map keyS) m h (fun x hx=>by
    obtain ⟨s,hs',rfl⟩:=List.mem_map.1 hx
    exact hs s hs')
  simpa using this
theorem hasS_mem (l:List ByteArray) (s:ByteArray):hasS l s=true ↔ keyS s ∈ l.map keyS:=by
  unfold hasS
  rw [List.any_eq_true,List.mem_map]
  constructor
  · rintro ⟨x,hx,e⟩;exact ⟨x,hx,beq_iff_eq.1 e⟩
  · rintro ⟨x,hx,e⟩;exact ⟨x,hx,beq_iff_eq.2 e⟩
theorem onceS_nd:∀ (ys l:List ByteArray),NdK l→NdK (onceS l ys)
  | [],l,h=>h
  | y :: ys,l,h=>by
    refine onceS_nd ys _ ?_
    split
    · exact h
    · rename_i hy
      unfold NdK at *
      rw [List.map_append,List.nodup_append]
      refine ⟨h,by simp,fun a ha b hb=>?_⟩
      simp at hb;subst hb
      intro e;subst e
      exact hy ((hasS_mem l y).2 ha)
theorem onceS_left:∀ (ys l:List ByteArray) (k:List UInt8),k ∈ l.map keyS→k ∈ (onceS l ys).map keyS
  | [],l,k,h=>h
  | y :: ys,l,k,h=>by
    refine onceS_left ys _ k ?_
    split
    · exact h
    · rw [List.map_append];exact List.mem_append_left _ h
theorem onceS_right:∀ (ys l:List ByteArray) (k:List UInt8),k ∈ ys.map keyS→k ∈ (onceS l ys).map keyS
  | [],l,k,h=>by simp at h
  | y :: ys,l,k,h=>by
    simp only [List.map_cons,List.mem_cons] at h
    rcases h with rfl | h
    · refine onceS_left ys _ _ ?_
      split
      · rename_i hy;exact (hasS_mem l y).1 hy
      · simp
    · exact onceS_right ys _ k h
def varL:Nat→Ex→List (List UInt8)
  | 0,_=>[]
  | d+1,.mk k n t m ks cs=>(if k=2 then [keyS t] else []) ++ (ks.flatMap (varL d) ++ cs.flatMap fun c=>c.1.flatMap (varL d) ++ c.2.flatMap (varL d))
theorem flat_len {α:Type} (f:α→List (List UInt8)) (wt:α→Nat):∀ (ks:List α),(∀ y ∈ ks,(f y).length≤1+wt y)→(ks.flatMap f).length≤wtS wt ks
  | [],_=>by simp [wtS]
  | y :: ys,h=>by
    have h1:=flat_len f wt ys (fun z hz=>h z (by simp [hz]))
    have h2:=h y (by simp)
    have h4:wtS wt (y :: ys)=1+wt y+wtS wt ys:=by simp [wtS];omega
    rw [List.flatMap_cons,List.length_append,h4];omega
theorem varL_len:∀ (d:Nat) (x:Ex),(varL d x).length≤1+wtEx d x
  | 0,_=>by simp [varL]
  | d+1,.mk k n t m ks cs=>by
    have h1:=flat_len (varL d) (wtEx d) ks (fun y _=>varL_len d y)
    have h2:(if k=2 then [keyS t] else ([]:List (List UInt8))).length≤1:=by split <;> simp
    have h3:=flat_len (fun c:Cl=>c.1.flatMap (varL d) ++ c.2.flatMap (varL d)) (wtCl (wtEx d)) cs (fun c _=>by
      have g1:=flat_len (varL d) (wtEx d) c.1 (fun y _=>varL_len d y)
      have g2:=flat_len (varL d) (wtEx d) c.2 (fun y _=>varL_len d y)
      rw [List.length_append]
      have:wtCl (wtEx d) c=wtS (wtEx d) c.1+wtS (wtEx d) c.2:=rfl
      omega)
    have hw:wtEx (d+1) (.mk k n t m ks cs)=t.size+m.size+wtS (wtEx d) ks+wtS (wtCl (wtEx d)) cs:=rfl
    have hv:varL (d+1) (.mk k n t m ks cs)=(if k=2 then [keyS t] else []) ++ (ks.flatMap (varL d) ++ cs.flatMap fun c=>c.1.flatMap (varL d) ++ c.2.flatMap (varL d)):=rfl
    have h5:(cs.flatMap fun c=>c.1.flatMap (varL d) ++ c.2.flatMap (varL d)).length≤wtS (wtCl (wtEx d)) cs:=h3
    rw [hv,hw,List.length_append,List.length_append]
    exact Nat.le_trans (Nat.add_le_add h2 (Nat.add_le_add h1 h5)) (by omega)
theorem varL_kid {d:Nat} {k n:Int} {t m:ByteArray} {ks:List Ex} {cs:List Cl} {y:Ex} (hy:y ∈ ks) {z:List UInt8} (h:z ∈ varL d y):z ∈ varL (d+1) (.mk k n t m ks cs):=by
  show z ∈ (if k=2 then [keyS t] else []) ++ (ks.flatMap (varL d) ++ cs.flatMap fun c=>c.1.flatMap (varL d) ++ c.2.flatMap (varL d))
  exact List.mem_append_right _ (List.mem_append_left _ (List.mem_flatMap.2 ⟨y,hy,h⟩))
theorem varL_cl {d:Nat} {k n:Int} {t m:ByteArray} {ks:List Ex} {cs:List Cl} {c:Cl} (hc:c ∈ cs) {y:Ex} (hy:y ∈ c.1∨y ∈ c.2) {z:List UInt8} (h:z ∈ varL d y):z ∈ varL (d+1) (.mk k n t m ks cs):=by
  show z ∈ (if k=2 then [keyS t] else []) ++ (ks.flatMap (varL d) ++ cs.flatMap fun c=>c.1.flatMap (varL d) ++ c.2.flatMap (varL d))
  refine List.mem_append_right _ (List.mem_append_right _ (List.mem_flatMap.2 ⟨c,hc,?_⟩))
  rcases hy with hy | hy
  · exact List.mem_append_left _ (List.mem_flatMap.2 ⟨y,hy,h⟩)
  · exact List.mem_append_right _ (List.mem_flatMap.2 ⟨y,hy,h⟩)
structure Got (d:Nat) (x:Ex) (l:List ByteArray):Prop where
  nd:NdK l
  sub:SubK l (varL d x)
  ok:∀ s ∈ l,okS s
theorem Got.len {d:Nat} {x:Ex} {l:List ByteArray} (h:Got d x l) (hw:wtEx d x≤1048576):l.length≤1048577:=by
  have h1:=h.nd.len h.sub
  have h2:=varL_len d x
  omega
def stepL (f:Ex→List ByteArray→List ByteArray) (bn:Ex→List ByteArray) (st:List ByteArray × List ByteArray) (x:Ex):List ByteArray × List ByteArray:=(onceS st.1 (f x st.2),onceS st.2 (bn x))
def listV (f:Ex→List ByteArray→List ByteArray) (bn:Ex→List ByteArray) (B:List ByteArray) (ks:List Ex):List ByteArray:=(ks.foldl (stepL f bn) ([],B)).1
theorem runL_snd (f:Ex→List ByteArray→List ByteArray) (bn:Ex→List ByteArray):∀ (ks:List Ex) (st:List ByteArray × List ByteArray),(ks.foldl (stepL f bn) st).2=foldV bn st.2 ks
  | [],st=>rfl
  | x :: xs,st=>runL_snd f bn xs (stepL f bn st x)
theorem listV_nil (f:Ex→List ByteArray→List ByteArray) (bn:Ex→List ByteArray) (B:List ByteArray):listV f bn B [] = []:=rfl
theorem listV_snoc (f:Ex→List ByteArray→List ByteArray) (bn:Ex→List ByteArray) (B:List ByteArray) (ks:List Ex) (k:Nat) (y:Ex) (h:ks[k]?=some y) :
    listV f bn B (ks.take (k+1))=onceS (listV f bn B (ks.take k)) (f y (foldV bn B (ks.take k))):=by
  have h2:=runL_snd f bn (ks.take k) ([],B)
  unfold listV
  rw [List.take_add_one,h,List.foldl_append]
  simp only [Option.toList_some,List.foldl_cons,List.foldl_nil]
  show onceS _ (f y _)=_
  rw [h2]
theorem runL_mem (f:Ex→List ByteArray→List ByteArray) (bn:Ex→List ByteArray):∀ (ks:List Ex) (st:List ByteArray × List ByteArray) (s:ByteArray),s ∈ (ks.foldl (stepL f bn) st).1→s ∈ st.1∨∃ y ∈ ks,∃ B',s ∈ f y B'
  | [],st,s,h=>.inl h
  | x :: xs,st,s,h=>by
    rcases runL_mem f bn xs (stepL f bn st x) s h with h | ⟨y,hy,B',hs⟩
    · rcases onceS_mem _ _ s h with h | h
      · exact .inl h
      · exact .inr ⟨x,by simp,st.2,h⟩
    · exact .inr ⟨y,by simp [hy],B',hs⟩
theorem listV_mem {f:Ex→List ByteArray→List ByteArray} {bn:Ex→List ByteArray} {B:List ByteArray} {ks:List Ex} {s:ByteArray} (h:s ∈ listV f bn B ks):∃ y ∈ ks,∃ B',s ∈ f y B':=by
  rcases runL_mem f bn ks ([],B) s h with h | h
  · cases h
  · exact h
theorem runL_nd (f:Ex→List ByteArray→List ByteArray) (bn:Ex→List ByteArray):∀ (ks:List Ex) (st:List ByteArray × List ByteArray),NdK st.1→NdK (ks.foldl (stepL f bn) st).1
  | [],st,h=>h
  | x :: xs,st,h=>runL_nd f bn xs (stepL f bn st x) (onceS_nd _ _ h)
theorem listV_nd (f:Ex→List ByteArray→List ByteArray) (bn:Ex→List ByteArray) (B:List ByteArray) (ks:List Ex):NdK (listV f bn B ks):=runL_nd f bn ks _ (by simp [NdK])
def clF (f:Ex→List ByteArray→List ByteArray) (bn pt:Ex→List ByteArray) (B out:List ByteArray) (c:Cl):List ByteArray:=onceS out (listV f bn (foldV pt B c.1) c.2)
def freeV:Nat→Ex→List ByteArray→List ByteArray
  | 0,_,_=>[]
  | d+1,.mk k n t m ks cs,B=>match k,ks with
    | 2,_=>if hasS B t then [] else [t]
    | 9,[a,b]=>freeV d b B
    | _,ks=>cs.foldl (clF (freeV d) (bndV d) (patV d) (foldV (bndV d) B ks)) (listV (freeV d) (bndV d) B ks)
theorem freeV_var (d:Nat) (n:Int) (t m:ByteArray) (ks:List Ex) (cs:List Cl) (B:List ByteArray):freeV (d+1) (.mk 2 n t m ks cs) B=if hasS B t then [] else [t]:=rfl
theorem freeV_two (d:Nat) (n:Int) (t m:ByteArray) (a b:Ex) (cs:List Cl) (B:List ByteArray):freeV (d+1) (.mk 9 n t m [a,b] cs) B=freeV d b B:=rfl
theorem freeV_else (d:Nat) (k n:Int) (t m:ByteArray) (ks:List Ex) (cs:List Cl) (B:List ByteArray) (h2:k≠2) (h9:¬ (k=9∧ks.length=2)) :
    freeV (d+1) (.mk k n t m ks cs) B=cs.foldl (clF (freeV d) (bndV d) (patV d) (foldV (bndV d) B ks)) (listV (freeV d) (bndV d) B ks):=by
  conv=>lhs;unfold freeV
  split
  · exact absurd rfl h2
  · simp at h9
  · rfl
theorem clF_nd (f:Ex→List ByteArray→List ByteArray) (bn pt:Ex→List ByteArray) (B:List ByteArray):∀ (cs:List Cl) (l:List ByteArray),NdK l→NdK (cs.foldl (clF f bn pt B) l)
  | [],l,h=>h
  | c :: cs,l,h=>clF_nd f bn pt B cs _ (onceS_nd _ _ h)
theorem clF_mem (f:Ex→List ByteArray→List ByteArray) (bn pt:Ex→List ByteArray) (B:List ByteArray):∀ (cs:List Cl) (l:List ByteArray) (s:ByteArray),s ∈ cs.foldl (clF f bn pt B) l→s ∈ l∨∃ c ∈ cs,∃ y ∈ c.2,∃ B',s ∈ f y B'
  | [],l,s,h=>.inl h
  | c :: cs,l,s,h=>by
    rcases clF_mem f bn pt B cs _ s h with h | ⟨c',hc,r⟩
    · rcases onceS_mem _ _ s h with h | h
      · exact .inl h
      · obtain ⟨y,hy,B',hs⟩:=listV_mem h
        exact .inr ⟨c,by simp,y,hy,B',hs⟩
    · exact .inr ⟨c',by simp [hc],r⟩
theorem clF_snoc (f:Ex→List ByteArray→List ByteArray) (bn pt:Ex→List ByteArray) (B l:List ByteArray) (cs:List Cl) (k:Nat) (c:Cl) (h:cs[k]?=some c) :
    (cs.take (k+1)).foldl (clF f bn pt B) l=onceS ((cs.take k).foldl (clF f bn pt B) l) (listV f bn (foldV pt B c.1) c.2):=by
  rw [List.take_add_one,h];simp [clF]
theorem freeV_nd:∀ (d:Nat) (x:Ex) (B:List ByteArray),NdK (freeV d x B)
  | 0,_,_=>by simp [freeV,NdK]
  | d+1,.mk k n t m ks cs,B=>by
    by_cases h2:k=2
    · subst h2
      rw [freeV_var]
      split <;> simp [NdK]
    · by_cases h9:k=9∧ks.length=2
      · obtain ⟨rfl,hl⟩:=h9
        match ks,hl with
        | [a,b],_=>rw [freeV_two];exact freeV_nd d b B
      · rw [freeV_else d k n t m ks cs B h2 h9]
        exact clF_nd _ _ _ _ _ _ (listV_nd _ _ _ _)
theorem freeV_sub:∀ (d:Nat) (x:Ex) (B:List ByteArray),SubK (freeV d x B) (varL d x)
  | 0,_,_=>fun s hs=>by simp [freeV] at hs
  | d+1,.mk k n t m ks cs,B=>fun s hs=>by
    by_cases h2:k=2
    · subst h2
      rw [freeV_var] at hs
      split at hs
      · cases hs
      · simp at hs
        subst hs
        show keyS s ∈ (if (2:Int)=2 then [keyS s] else []) ++ _
        simp
    · by_cases h9:k=9∧ks.length=2
      · obtain ⟨rfl,hl⟩:=h9
        match ks,hl with
        | [a,b],_=>rw [freeV_two] at hs;exact varL_kid (by simp) (freeV_sub d b B s hs)
      · rw [freeV_else d k n t m ks cs B h2 h9] at hs
        rcases clF_mem _ _ _ _ _ _ s hs with h | ⟨c,hc,y,hy,B',h⟩
        · obtain ⟨y,hy,B',h⟩:=listV_mem h
          exact varL_kid hy (freeV_sub d y B' s h)
        · exact varL_cl hc (.inr hy) (freeV_sub d y B' s h)
theorem freeV_ok:∀ (d:Nat) (x:Ex) (B:List ByteArray),exS d x→∀ s ∈ freeV d x B,okS s
  | 0,_,_,h,_,_=>h.elim
  | d+1,.mk k n t m ks cs,B,hx,s,hs=>by
    by_cases h2:k=2
    · subst h2
      rw [freeV_var] at hs
      split at hs
      · cases hs
      · simp at hs
        subst hs
        exact hx.1
    · by_cases h9:k=9∧ks.length=2
      · obtain ⟨rfl,hl⟩:=h9
        match ks,hl with
        | [a,b],_=>rw [freeV_two] at hs;exact freeV_ok d b B (hx.2.1 b (by simp)) s hs
      · rw [freeV_else d k n t m ks cs B h2 h9] at hs
        rcases clF_mem _ _ _ _ _ _ s hs with h | ⟨c,hc,y,hy,B',h⟩
        · obtain ⟨y,hy,B',h⟩:=listV_mem h
          exact freeV_ok d y B' (hx.2.1 y hy) s h
        · exact freeV_ok d y B' ((hx.2.2 c hc).2 y hy) s h
theorem freeV_len (d:Nat) (x:Ex) (B:List ByteArray):(freeV d x B).length≤1+wtEx d x:=Nat.le_trans ((freeV_nd d x B).len (freeV_sub d x B)) (varL_len d x)
theorem listV_len (d:Nat) (B:List ByteArray) (ks:List Ex):(listV (freeV d) (bndV d) B ks).length≤wtS (wtEx d) ks:=by
  have h1:=(listV_nd (freeV d) (bndV d) B ks).len (m:=ks.flatMap (varL d)) (fun s hs=>by
    obtain ⟨y,hy,B',h⟩:=listV_mem hs
    exact List.mem_flatMap.2 ⟨y,hy,freeV_sub d y B' s h⟩)
  exact Nat.le_trans h1 (flat_len (varL d) (wtEx d) ks (fun y _=>varL_len d y))
def FrC (d:Nat):Prop:=∀ (w:World) (cs:List Value) (x:Ex) (bv:Value) (B:List ByteArray),HEx w All d cs x→StrV w bv B→wtEx d x≤1048576→B.length+wtEx d x≤4194304 →
    Calls Tryz.prog 139 #[.agg cs.toArray,bv] w fun e w'=>∃ u,e=.returned u∧OwnS w' w.heap.size u (freeV d x B)∧Below w.heap.size w w'
def LsC (d:Nat):Prop:=∀ (w:World) (v:Value) (ks:List Ex) (bv:Value) (B:List ByteArray),Rows w All 6 (HEx w All d) v ks→StrV w bv B→wtS (wtEx d) ks≤1048576→B.length+wtS (wtEx d) ks≤4194304 →
    Calls Tryz.prog 111 #[v,bv] w fun e w'=>∃ u,e=.returned u∧OwnS w' w.heap.size u (listV (freeV d) (bndV d) B ks)∧Below w.heap.size w w'
theorem StrV.below {w w':World} {v:Value} {xs:List ByteArray} (h:StrV w v xs) (hb:Below w.heap.size w w'):StrV w' v xs:=h.next (SameOn.of_below hb)
theorem wtS_kid {d:Nat} {ks:List Ex} {k:Nat} {y:Ex} (h:ks[k]?=some y):wtS (wtEx d) (ks.take k)+1+wtEx d y≤wtS (wtEx d) ks∧k≤ks.length:=by
  have h1:=sum_take_succ (wtEx d) ks k y h
  have h2:=sum_take_le (wtEx d) ks (k+1)
  have h3:=(List.getElem?_eq_some_iff.1 h).1
  have h4:(ks.take k).length=k:=by rw [List.length_take];omega
  unfold wtS
  omega
theorem list_of {d:Nat} (hF:FrC d):LsC d:=by
  intro w v ks bv B hr hB hwt hbt
  have OB:=hB.1.okS
  have EXS:Hid (∀ y ∈ ks,exS d y):=fun y hy=>by
    obtain ⟨cs,h⟩:=rows_mem' hr y hy
    exact h.txts
  obtain ⟨p,cap,rfl,hcl,hcm,hx⟩:=hr
  have hnb:ks.length≤9223372036854775807:=by unfold maxLen at hcm;omega
  have HX:Hid (ks≠[]→∃ g off,p=some ⟨g,off,none⟩∧All g∧g<w.heap.size∧∀ i x,ks[i]?=some x→∃ cs,cs.length=6∧(∀ j,j<6→w.cell? ⟨g,off+i * 6+j,none⟩=cs[j]?)∧HEx w All d cs x):=hx
  have HSB:Hid (StrV w bv B):=hB
  have HWT:Hid (wtS (wtEx d) ks≤1048576):=hwt
  have HBT:Hid (B.length+wtS (wtEx d) ks≤4194304):=hbt
  have HOB:Hid (∀ s ∈ B,okS s):=OB
  clear hx hB hwt hbt OB
  generalize hn:ks.length=n at *
  have HN:Hid (ks.length=n):=hn
  clear hn
  go_enter Tryz.func111,Tryz.ntmps111
  go_wp2_with fail
  have BA:Below w.heap.size w (w.alloc (.cells #[] 9)):=(Below.refl _ _).alloc (Nat.le_refl _) _
  go_loopw [1,5,6] (fun bu ov iv wr=>∃ k:Nat,k≤n∧iv=.int .i64 k∧Hid (OwnS wr w.heap.size ov (listV (freeV d) (bndV d) B (ks.take k)))∧Hid (StrV wr bu (foldV (bndV d) B (ks.take k)))∧Hid (Below w.heap.size w wr)) (fun _ _ iv _=>n - (intOf iv).toNat)
  case atStart=>exact ⟨0,Nat.zero_le _,rfl,OwnS.fresh,HSB.out.below BA,BA⟩
  case round =>
    clear BA
    obtain ⟨k,hk,rfl,HO,HS,HB⟩:=hrel
    by_cases hlt:k<n
    · obtain ⟨x,hxk⟩:∃ x,ks[k]?=some x:=⟨ks[k]'(by rw [HN.out];exact hlt),List.getElem?_eq_getElem _⟩
      obtain ⟨g,off,rfl,-,hgl,hat⟩:=HX.out (by intro h;rw [h] at hxk;simp at hxk)
      obtain ⟨cs,hcsl,hcs,r1⟩:=hat k x hxk
      have E1:Hid (∀ w',Below w.heap.size w w'→HEx w' All d cs x):=fun w' hw=>r1.mono (SameOn.of_below hw) (fun _ h=>h)
      have C1:Hid (∀ w',Below w.heap.size w w'→∀ j,j<6→w'.cell? ⟨g,off+k * 6+j,none⟩=cs[j]?):=fun w' hw j hj=>(hw.cell (p:=⟨g,_,none⟩) hgl).trans (hcs j hj)
      obtain ⟨c0,c1,c2,c3,c4,c5,rfl⟩:=len6 hcsl
      have a0:=C1.out wr HB.out 0 (by omega)
      have a1:=C1.out wr HB.out 1 (by omega)
      have a2:=C1.out wr HB.out 2 (by omega)
      have a3:=C1.out wr HB.out 3 (by omega)
      have a4:=C1.out wr HB.out 4 (by omega)
      have a5:=C1.out wr HB.out 5 (by omega)
      simp at a0 a1 a2 a3 a4 a5
      have hki:(k:Int)<(n:Int):=by omega
      have hk0:(0:Int)≤(k:Int):=by omega
      obtain ⟨wk,-⟩:=wtS_kid (d:=d) hxk
      have lb:=foldV_len (bndV d) (wtEx d) (ks.take k) B (fun y _=>bndV_len d y)
      have lo:=listV_len d B (ks.take k)
      have ex:=EXS.out x (List.mem_of_getElem? hxk)
      have hw1:=HWT.out
      have hb1:=HBT.out
      have wx:wtEx d x≤1048576:=by omega
      have lf:=freeV_len d x (foldV (bndV d) B (ks.take k))
      have ln:=bndV_len d x
      have HJ:Hid (listV (freeV d) (bndV d) B (ks.take (k+1))=onceS (listV (freeV d) (bndV d) B (ks.take k)) (freeV d x (foldV (bndV d) B (ks.take k)))):=listV_snoc _ _ B ks k x hxk
      have HJB:Hid (foldV (bndV d) B (ks.take (k+1))=onceS (foldV (bndV d) B (ks.take k)) (bndV d x)):=foldV_snoc _ _ ks k x hxk
      have OJ:Hid (∀ s ∈ listV (freeV d) (bndV d) B (ks.take k),okS s):=fun s hs=>by
        obtain ⟨y,hy,B',h⟩:=listV_mem hs
        exact freeV_ok d y B' (EXS.out y (List.mem_of_mem_take hy)) s h
      have OF:Hid (∀ B',∀ s ∈ freeV d x B',okS s):=fun B' s hs=>freeV_ok d x B' ex s hs
      have ON:Hid (∀ s ∈ bndV d x,okS s):=fun s hs=>bndV_ok d x ex s hs
      have OS:Hid (∀ s ∈ onceS (foldV (bndV d) B (ks.take k)) (bndV d x),okS s):=fun s hs=>by
        rcases onceS_mem _ _ s hs with h | h
        · exact HS.out.1.okS s h
        · exact ON.out s h
      generalize foldV (bndV d) B (ks.take k)=FB at *
      generalize listV (freeV d) (bndV d) B (ks.take k)=LJ at *
      have lb1:FB.length+wtEx d x≤4194304:=by omega
      have lo1:LJ.length≤1048576:=by omega
      clear hcs hat hcsl r1 hw1 hb1 lb lo wk
      go_wp2_with fail
      refine (hF _ _ x _ FB (E1.out _ HB.out) HS.out wx (by omega)).mono ?_
      rintro e w4 ⟨u4,rfl,ho4,hb4⟩
      have HB4:Hid (Below w.heap.size w w4):=HB.out.trans (hb4.mono HB.out.size)
      have SV:Hid (StrV w4 u5 LJ):=(HO.out.next hb4).strV OJ.out
      have SR:Hid (StrR w4 u4 (freeV d x FB)):=ho4.strR (OF.out FB)
      have SB4:Hid (StrV w4 u1 FB):=HS.out.below hb4
      clear hb4 ho4 a0 a1 a2 a3 a4 a5
      go_wp2_with fail
      refine (once_any _ _ _ LJ (freeV d x FB) SV.out SR.out (by omega)).mono ?_
      rintro e w5 ⟨u6',rfl,ho5,hb5⟩
      have HB5:Hid (Below w.heap.size w w5):=HB4.out.trans (hb5.mono HB4.out.size)
      have HO5:Hid (OwnS w5 w.heap.size u6' (onceS LJ (freeV d x FB))):=ho5.base HB4.out.size
      have SB5:Hid (StrV w5 u1 FB):=SB4.out.below hb5
      clear hb5 ho5
      have a0:=C1.out w5 HB5.out 0 (by omega)
      have a1:=C1.out w5 HB5.out 1 (by omega)
      have a2:=C1.out w5 HB5.out 2 (by omega)
      have a3:=C1.out w5 HB5.out 3 (by omega)
      have a4:=C1.out w5 HB5.out 4 (by omega)
      have a5:=C1.out w5 HB5.out 5 (by omega)
      simp at a0 a1 a2 a3 a4 a5
      go_wp2_with fail
      refine (bound_all d _ _ x (E1.out _ HB5.out) wx).mono ?_
      rintro e w6 ⟨u7',rfl,ho6,hb6⟩
      have HB6:Hid (Below w.heap.size w w6):=HB5.out.trans (hb6.mono HB5.out.size)
      have SV6:Hid (StrV w6 u1 FB):=SB5.out.below hb6
      have SR6:Hid (StrR w6 u7' (bndV d x)):=ho6.strR ON.out
      have HO6:Hid (OwnS w6 w.heap.size u6' (onceS LJ (freeV d x FB))):=HO5.out.next hb6
      clear hb6 ho6 a0 a1 a2 a3 a4 a5
      go_wp2_with fail
      refine (once_any _ _ _ FB (bndV d x) SV6.out SR6.out (by omega)).mono ?_
      rintro e w7 ⟨u8',rfl,ho7,hb7⟩
      have HB7:Hid (Below w.heap.size w w7):=HB6.out.trans (hb7.mono HB6.out.size)
      have SV7:Hid (StrV w7 u8' (onceS FB (bndV d x))):=ho7.strV OS.out
      have HO7:Hid (OwnS w7 w.heap.size u6' (onceS LJ (freeV d x FB))):=HO6.out.next hb7
      clear hb7 ho7
      go_wp2_with fail
      exact ⟨⟨k+1,by omega,by go_num,by show OwnS _ _ _ _;rw [HJ.out];exact HO7.out,by show StrV _ _ _;rw [HJB.out];exact SV7.out,HB7.out⟩,by simp [intOf];omega⟩
    · have HS':Hid (OwnS wr w.heap.size u5 (listV (freeV d) (bndV d) B ks)):=by
        have:=HO.out
        rwa [List.take_of_length_le (by rw [HN.out];omega)] at this
      go_wp2_with fail
      go_ret
      exact ⟨_,rfl,HS'.out,HB.out⟩
end Go.Proofs.YtefpgpbbgclemaaGreatDoor
