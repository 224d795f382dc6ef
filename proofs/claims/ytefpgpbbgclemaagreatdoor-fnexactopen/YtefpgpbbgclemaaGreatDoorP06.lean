/-
  ExTo ModTo ModsTo
-/
import Derived.Test.YtefpgpbbgclemaaGreatDoorP04
set_option maxHeartbeats 16000000
set_option linter.unusedVariables false
set_option maxRecDepth 100000
namespace Go.Proofs.YtefpgpbbgclemaaGreatDoor
open Go.ChangeShapes Go.WideShapes Go.ChangeAt Go.RowKit
theorem toExpS_ofO {d:Nat} (hE:ToO 163 (fun w v e=>∃ cs,v=.agg cs.toArray∧HEx w All d cs e) (fun w v e fp=>∃ cs,v=.agg cs.toArray∧OEx w d cs e fp) (wtEx d)) :
    ToO 143 (fun w v es=>Rows w All 6 (HEx w All d) v es) (fun w v es fp=>ORows w 79 6 (OEx w d) v es fp) (wtS (wtEx d)):=by
  intro w v es h hwt
  obtain ⟨p,cap,rfl,hcl,hcm,hx⟩:=h
  generalize hn:es.length=n at *
  have HN:Hid (es.length=n):=hn
  have HX:Hid _:=hx
  have hnb:n≤1048576:=by unfold wtS at hwt;omega
  have HWT:Hid (wtS (wtEx d) es≤1048576):=hwt
  clear hx hn hwt
  obtain ⟨M,hM,hmk⟩:=make_row (t:=76) (e:=79) (c:=6) Tryz.underlying76 (by kernel_rfl) w n hnb
  have HO:Hid (Made w (w.alloc (.cells M 79)) w.heap.size n 79 6 (fun w=>OEx w d) es 0 M.toList []):=Made.start hM (by unfold maxLen;omega)
  generalize hG:w.heap.size=G at *
  have HG:Hid (w.heap.size=G):=hG
  go_enter Tryz.func143,Tryz.ntmps143
  go_wp2
  go_loopw [4] (fun iv wr=>∃ (k:Nat) (xs:List Value) (fps:List (List Nat)),k≤n∧iv=.int .i64 k∧Hid (Made w wr G n 79 6 (fun w=>OEx w d) es k xs fps)) (fun iv _=>n - (intOf iv).toNat)
  case atStart=>exact ⟨0,M.toList,[],Nat.zero_le _,rfl,HO⟩
  case round =>
    obtain ⟨k,xs,fps,hk,rfl,HM⟩:=hrel
    by_cases hlt:k<n
    · obtain ⟨x,hxk⟩:∃ x,es[k]?=some x:=⟨es[k]'(by rw [HN.out];exact hlt),List.getElem?_eq_getElem _⟩
      obtain ⟨g,off,rfl,hg,hgl,hat⟩:=HX.out (by intro h;rw [h] at hxk;simp at hxk)
      obtain ⟨cs,hcl6,hcs,hex⟩:=hat k x hxk
      have hbw:Below w.heap.size w wr:=by rw [HG.out];exact HM.out.below
      have hex':∀ w',SameOn All wr w'→HEx w' All d cs x:=fun w' hw=>hex.mono (SameOn.trans (SameOn.of_below hbw) hw) (fun _ h=>h)
      obtain ⟨z0,z1,z2,z3,z4,z5,rfl⟩:=len6 hcl6
      have a0:=hcs 0 (by omega)
      have a1:=hcs 1 (by omega)
      have a2:=hcs 2 (by omega)
      have a3:=hcs 3 (by omega)
      have a4:=hcs 4 (by omega)
      have a5:=hcs 5 (by omega)
      rw [← hbw.cell (p:=⟨g,_,none⟩) (by show g<w.heap.size;rw [HG.out];exact hgl)] at a0 a1 a2 a3 a4 a5
      simp at a0 a1 a2 a3 a4 a5
      have hwx:wtEx d x≤1048576:=by
        have h1:=HWT.out
        have h2:=sum_take_succ (wtEx d) es k x hxk
        have h3:=sum_take_le (wtEx d) es (k+1)
        unfold wtS at h1
        omega
      clear hbw hcs hat hex hcl6
      go_wp2_with (go_at_call 163;go_must (refine (hE _ _ x ⟨_,rfl,hex' _ (by exact ⟨Nat.le_refl _,fun _ _ _=>rfl⟩)⟩ hwx).mono ?_;rintro e w1 ⟨u,fp,rfl,⟨cs',rfl,hx1⟩,hnd,hrg,hb1⟩;obtain ⟨sk,sn,st,se,p1,n1,q1,p2,n2,q2,hsh⟩:=hx1.shape;subst hsh;have HB1:Hid (Below wr.heap.size wr w1):=hb1;have HX1:Hid (OEx w1 d [.int .i64 sk,.int .i64 sn,.string st,.string se,.slice p1 n1 q1,.slice p2 n2 q2] x fp):=hx1;have HND:Hid fp.Nodup:=hnd;have HRG:Hid (∀ a ∈ fp,wr.heap.size≤a∧a<w1.heap.size):=hrg;have o1:=HM.out.own.kept (grownBy_belowR (r:=none) hb1) (Or.inr (by simp [Value.ownBlock]));have HO1:Hid (w1.ownsRow G 79 6 (.slice (some ⟨G,0,none⟩) n n) n xs):=o1;have f0:=o1.frozenAt (k * 6);obtain ⟨y0,g0⟩:=own_someR o1 (k * 6) (by omega);have f1:=o1.frozenAt (k * 6+1);obtain ⟨y1,g1⟩:=own_someR o1 (k * 6+1) (by omega);have f2:=o1.frozenAt (k * 6+2);obtain ⟨y2,g2⟩:=own_someR o1 (k * 6+2) (by omega);have f3:=o1.frozenAt (k * 6+3);obtain ⟨y3,g3⟩:=own_someR o1 (k * 6+3) (by omega);have f4:=o1.frozenAt (k * 6+4);obtain ⟨y4,g4⟩:=own_someR o1 (k * 6+4) (by omega);have f5:=o1.frozenAt (k * 6+5);obtain ⟨y5,g5⟩:=own_someR o1 (k * 6+5) (by omega);clear o1 hb1 hx1 hnd hrg))
      have sd:=stored6 HO1.out (k * 6) (.int .i64 sk) (.int .i64 sn) (.string st) (.string se) (.slice p1 n1 q1) (.slice p2 n2 q2)
      have hlen:xs.length=n * 6:=HO1.out.1
      exact ⟨⟨k+1,_,_,by omega,by go_num,HM.out.step (fun w w' cs x f h hk=>h.keep hk) hxk HB1.out HX1.out HND.out HRG.out rfl sd.1 sd.2 (fun m hm=>set6_other hm) (fun j hj=>set6_self (by omega) j hj)⟩,by simp [intOf];omega⟩
    · obtain rfl:k=n:=by omega
      obtain ⟨fp,r1,r2,r3⟩:=HM.out.done HN.out (by unfold maxLen;omega)
      have R1:Hid (ORows wr 79 6 (OEx wr d) (.slice (some ⟨G,0,none⟩) k k) es fp):=r1
      have R2:Hid (fp.Nodup∧∀ a ∈ fp,G≤a∧a<wr.heap.size):=⟨r2,r3⟩
      clear r1 r2 r3
      go_wp2
      go_ret
      exact ⟨_,fp,rfl,R1.out,R2.out.1,R2.out.2,HM.out.below⟩
theorem toClauseS_ofO {d:Nat} (hE:ToO 116 (fun w v e=>∃ cs,v=.agg cs.toArray∧HCl w All (HEx w All d) cs e) (fun w v e fp=>∃ cs,v=.agg cs.toArray∧OCls w d cs e fp) (wtCl (wtEx d))) :
    ToO 84 (fun w v es=>Rows w All 2 (HCl w All (HEx w All d)) v es) (fun w v es fp=>ORows w 127 2 (OCls w d) v es fp) (wtS (wtCl (wtEx d))):=by
  intro w v es h hwt
  obtain ⟨p,cap,rfl,hcl,hcm,hx⟩:=h
  generalize hn:es.length=n at *
  have HN:Hid (es.length=n):=hn
  have HX:Hid _:=hx
  have hnb:n≤1048576:=by unfold wtS at hwt;omega
  have HWT:Hid (wtS (wtCl (wtEx d)) es≤1048576):=hwt
  clear hx hn hwt
  obtain ⟨M,hM,hmk⟩:=make_row (t:=77) (e:=127) (c:=2) Tryz.underlying77 (by kernel_rfl) w n hnb
  have HO:Hid (Made w (w.alloc (.cells M 127)) w.heap.size n 127 2 (fun w=>OCls w d) es 0 M.toList []):=Made.start hM (by unfold maxLen;omega)
  generalize hG:w.heap.size=G at *
  have HG:Hid (w.heap.size=G):=hG
  go_enter Tryz.func84,Tryz.ntmps84
  go_wp2
  go_loopw [4] (fun iv wr=>∃ (k:Nat) (xs:List Value) (fps:List (List Nat)),k≤n∧iv=.int .i64 k∧Hid (Made w wr G n 127 2 (fun w=>OCls w d) es k xs fps)) (fun iv _=>n - (intOf iv).toNat)
  case atStart=>exact ⟨0,M.toList,[],Nat.zero_le _,rfl,HO⟩
  case round =>
    obtain ⟨k,xs,fps,hk,rfl,HM⟩:=hrel
    by_cases hlt:k<n
    · obtain ⟨x,hxk⟩:∃ x,es[k]?=some x:=⟨es[k]'(by rw [HN.out];exact hlt),List.getElem?_eq_getElem _⟩
      obtain ⟨g,off,rfl,hg,hgl,hat⟩:=HX.out (by intro h;rw [h] at hxk;simp at hxk)
      obtain ⟨cs,hcl6,hcs,hex⟩:=hat k x hxk
      have hbw:Below w.heap.size w wr:=by rw [HG.out];exact HM.out.below
      have hex':∀ w',SameOn All wr w'→HCl w' All (HEx w' All d) cs x:=fun w' hw=>hex.mono (SameOn.trans (SameOn.of_below hbw) hw) (fun _ h=>h) (fun _ _=>HEx.mono (SameOn.trans (SameOn.of_below hbw) hw) (fun _ h=>h))
      obtain ⟨z0,z1,rfl⟩:=len2 hcl6
      have a0:=hcs 0 (by omega)
      have a1:=hcs 1 (by omega)
      rw [← hbw.cell (p:=⟨g,_,none⟩) (by show g<w.heap.size;rw [HG.out];exact hgl)] at a0 a1
      simp at a0 a1
      have hwx:wtCl (wtEx d) x≤1048576:=by
        have h1:=HWT.out
        have h2:=sum_take_succ (wtCl (wtEx d)) es k x hxk
        have h3:=sum_take_le (wtCl (wtEx d)) es (k+1)
        unfold wtS at h1
        omega
      clear hbw hcs hat hex hcl6
      go_wp2_with (go_at_call 116;go_must (refine (hE _ _ x ⟨_,rfl,hex' _ (by exact ⟨Nat.le_refl _,fun _ _ _=>rfl⟩)⟩ hwx).mono ?_;rintro e w1 ⟨u,fp,rfl,⟨cs',rfl,hx1⟩,hnd,hrg,hb1⟩;obtain ⟨p1,n1,q1,p2,n2,q2,hsh⟩:=hx1.shape;subst hsh;have HB1:Hid (Below wr.heap.size wr w1):=hb1;have HX1:Hid (OCls w1 d [.slice p1 n1 q1,.slice p2 n2 q2] x fp):=hx1;have HND:Hid fp.Nodup:=hnd;have HRG:Hid (∀ a ∈ fp,wr.heap.size≤a∧a<w1.heap.size):=hrg;have o1:=HM.out.own.kept (grownBy_belowR (r:=none) hb1) (Or.inr (by simp [Value.ownBlock]));have HO1:Hid (w1.ownsRow G 127 2 (.slice (some ⟨G,0,none⟩) n n) n xs):=o1;have f0:=o1.frozenAt (k * 2);obtain ⟨y0,g0⟩:=own_someR o1 (k * 2) (by omega);have f1:=o1.frozenAt (k * 2+1);obtain ⟨y1,g1⟩:=own_someR o1 (k * 2+1) (by omega);clear o1 hb1 hx1 hnd hrg))
      have sd:=stored2 HO1.out (k * 2) (.slice p1 n1 q1) (.slice p2 n2 q2)
      have hlen:xs.length=n * 2:=HO1.out.1
      exact ⟨⟨k+1,_,_,by omega,by go_num,Made.step (O:=fun w=>OCls w d) (c:=2) (fun w w' cs x f h hk=>OCls.keep h hk) HM.out hxk HB1.out HX1.out HND.out HRG.out rfl sd.1 sd.2 (fun m hm=>set2_other hm) (fun j hj=>set2_self (by omega) j hj)⟩,by simp [intOf];omega⟩
    · obtain rfl:k=n:=by omega
      obtain ⟨fp,r1,r2,r3⟩:=HM.out.done HN.out (by unfold maxLen;omega)
      have R1:Hid (ORows wr 127 2 (OCls wr d) (.slice (some ⟨G,0,none⟩) k k) es fp):=r1
      have R2:Hid (fp.Nodup∧∀ a ∈ fp,G≤a∧a<wr.heap.size):=⟨r2,r3⟩
      clear r1 r2 r3
      go_wp2
      go_ret
      exact ⟨_,fp,rfl,R1.out,R2.out.1,R2.out.2,HM.out.below⟩
theorem toClause_ofO {d:Nat} (h0:ToO 143 (fun w v es=>Rows w All 6 (HEx w All d) v es) (fun w v es fp=>ORows w 79 6 (OEx w d) v es fp) (wtS (wtEx d))) (h1:ToO 143 (fun w v es=>Rows w All 6 (HEx w All d) v es) (fun w v es fp=>ORows w 79 6 (OEx w d) v es fp) (wtS (wtEx d))) :
    ToO 116 (fun w v e=>∃ cs,v=.agg cs.toArray∧HCl w All (HEx w All d) cs e) (fun w v e fp=>∃ cs,v=.agg cs.toArray∧OCl w (OEx w d) cs e fp) (wtCl (wtEx d)):=by
  intro w v e i1 hwt
  obtain ⟨cs,rfl,v0,v1,rfl,f0,f1⟩:=i1
  have hw0:wtS (wtEx d) e.1≤1048576:=by unfold wtCl at hwt;omega
  have E0:∀ w',SameOn All w w'→Rows w' All 6 (HEx w' All d) v0 e.1:=fun w' hw=>f0.mono hw (fun _ h=>h) (fun _ _ _=>HEx.mono hw (fun _ h=>h))
  have hw1:wtS (wtEx d) e.2≤1048576:=by unfold wtCl at hwt;omega
  have E1:∀ w',SameOn All w w'→Rows w' All 6 (HEx w' All d) v1 e.2:=fun w' hw=>f1.mono hw (fun _ h=>h) (fun _ _ _=>HEx.mono hw (fun _ h=>h))
  obtain ⟨p0,c0,rfl,_⟩:=id f0
  obtain ⟨p1,c1,rfl,_⟩:=id f1
  clear f0 f1
  go_enter Tryz.func116,Tryz.ntmps116
  go_wp2_with fail
  have hal:Below w.heap.size w (((w.alloc (.cells #[.slice p0 e.1.length c0,.slice p1 e.2.length c1] 159)).alloc (.cells #[.slice none 0 0,.slice none 0 0] 127)).alloc (.cells #[.slice none 0 0,.slice none 0 0] 127)):=(((Below.refl _ _).alloc (Nat.le_refl _) _).alloc (by simp only [alloc_hs];omega) _).alloc (by simp only [alloc_hs];omega) _
  refine (h0 _ _ e.1 (E0 _ (SameOn.of_below hal)) hw0).mono ?_
  rintro ex w1 ⟨u,fA,rfl,r0,ndA,rgA,hb⟩
  have bA:=((Blk.new (w:=w) (cs:=#[.slice p0 e.1.length c0,.slice p1 e.2.length c1]) (t:=159)).alloc (o:=.cells #[.slice none 0 0,.slice none 0 0] 127)).alloc (o:=.cells #[.slice none 0 0,.slice none 0 0] 127)
  have bR:=(Blk.new (w:=(w.alloc (.cells #[.slice p0 e.1.length c0,.slice p1 e.2.length c1] 159))) (cs:=#[.slice none 0 0,.slice none 0 0]) (t:=127)).alloc (o:=.cells #[.slice none 0 0,.slice none 0 0] 127)
  have bO:=(Blk.new (w:=((w.alloc (.cells #[.slice p0 e.1.length c0,.slice p1 e.2.length c1] 159)).alloc (.cells #[.slice none 0 0,.slice none 0 0] 127))) (cs:=#[.slice none 0 0,.slice none 0 0]) (t:=127))
  simp only [alloc_hs] at bA bR bO rgA
  replace bA:=bA.below hb (by simp only [alloc_hs];omega)
  replace bR:=bR.below hb (by simp only [alloc_hs];omega)
  replace bO:=bO.below hb (by simp only [alloc_hs];omega)
  have B1:Below w.heap.size w w1:=hal.trans (hb.mono hal.size)
  have z1:w.heap.size+3≤w1.heap.size:=by have:=hb.size;simp only [alloc_hs] at this;omega
  have Z1:Hid (w.heap.size+3≤w1.heap.size):=z1
  have T0:Hid (ORows w1 79 6 (OEx w1 d) u e.1 fA):=r0
  have NA:Hid (fA.Nodup):=ndA
  have GA:Hid (∀ a ∈ fA,w.heap.size+1+1+1≤a∧a<w1.heap.size):=rgA
  clear hal hb z1 ndA rgA
  obtain ⟨p0',c0',hu,_⟩:=r0.shape
  subst hu
  clear r0
  have a1:=bA.cell 1 _ rfl
  have o0:=bO.cell 0 _ rfl
  have g0:=bO.frozen 0
  have HA:Hid (Blk w1 w.heap.size #[.slice p0 e.1.length c0,.slice p1 e.2.length c1] 159):=bA
  have HR:Hid (Blk w1 (w.heap.size+1) #[.slice none 0 0,.slice none 0 0] 127):=bR
  have HO:Hid (Blk w1 (w.heap.size+1+1) #[.slice none 0 0,.slice none 0 0] 127):=bO
  have HB1:Hid (Below w.heap.size w w1):=B1
  clear bA bR bO B1
  go_wp2_with fail
  have hp:Below w.heap.size w (w1.setCell ⟨w.heap.size+1+1,0,none⟩ (.slice p0' e.1.length c0')):=HB1.out.setCell (by show _≤w.heap.size+1+1;omega) _
  refine (h1 _ _ e.2 (E1 _ (SameOn.of_below hp)) hw1).mono ?_
  rintro ex w2 ⟨u,fB,rfl,r1,ndB,rgB,hb⟩
  have bA:=((HA.out.other (p:=⟨w.heap.size+1+1,0,none⟩) (v:=(.slice p0' e.1.length c0')) (by show w.heap.size≠w.heap.size+1+1;omega)).below hb (by have:=Z1.out;simp only [setCell_hs];omega))
  have bR:=((HR.out.other (p:=⟨w.heap.size+1+1,0,none⟩) (v:=(.slice p0' e.1.length c0')) (by show w.heap.size+1≠w.heap.size+1+1;omega)).below hb (by have:=Z1.out;simp only [setCell_hs];omega))
  have bO:=((HO.out.same (j:=0) (v:=(.slice p0' e.1.length c0')) (cs':=#[.slice p0' e.1.length c0',.slice none 0 0]) rfl).below hb (by have:=Z1.out;simp only [setCell_hs];omega))
  have B2:Below w.heap.size w w2:=hp.trans (hb.mono hp.size)
  simp only [setCell_hs] at rgB
  have k01:KeepOn fA w1 w2:=fun a ha=>by
    have h:=GA.out a ha
    exact (hb.block a (by simp only [setCell_hs];exact h.2)).trans (Below.heap_setCell _ _ _ _ (by show a≠w.heap.size+1+1;omega))
  have T0:Hid (ORows w2 79 6 (OEx w2 d) (.slice p0' e.1.length c0') e.1 fA):=by have h:=T0.out;exact h.keep k01 (fun cs x f _ hs h=>h.keep (k01.sub hs))
  have T1:Hid (ORows w2 79 6 (OEx w2 d) u e.2 fB):=r1
  have sz2:w1.heap.size≤w2.heap.size:=by have:=hb.size;simp only [setCell_hs] at this;exact this
  have HND:Hid ((fA ++ fB).Nodup):=by
    show List.Nodup _
    rw [List.nodup_append]
    exact ⟨NA.out,ndB,fun a ha b hb=>by have:=GA.out a ha;have:=rgB b hb;omega⟩
  have HRG:Hid (∀ a ∈ fA ++ fB,w.heap.size+1+1+1≤a∧a<w2.heap.size):=fun a ha=>by
    rcases List.mem_append.1 ha with ha | ha
    · have:=GA.out a ha;omega
    · have:=rgB a ha;have:=Z1.out;omega
  have HB2:Hid (Below w.heap.size w w2):=B2
  obtain ⟨p1',c1',hu,_⟩:=r1.shape
  subst hu
  clear hp hb r1 HA HR HO HB1 k01 ndB rgB NA GA sz2 B2
  have o0:=bO.cell 0 _ rfl
  have q0:=bR.cell 0 _ rfl
  have k0:=bR.frozen 0
  have o1:=bO.cell 1 _ rfl
  have q1:=bR.cell 1 _ rfl
  have k1:=bR.frozen 1
  have g1:=bO.frozen 1
  clear bA bR bO
  go_wp2_with fail
  have sf:SameOn (fun g=>w.heap.size+1+1+1≤g) w2 (((w2.setCell ⟨w.heap.size+1+1,1,none⟩ (.slice p1' e.2.length c1')).setCell ⟨w.heap.size+1,0,none⟩ (.slice p0' e.1.length c0')).setCell ⟨w.heap.size+1,1,none⟩ (.slice p1' e.2.length c1')):=SameOn.setCell (SameOn.setCell (SameOn.setCell (SameOn.of_below (Below.refl _ _)) (by show ¬ (_≤w.heap.size+1+1);omega) _) (by show ¬ (_≤w.heap.size+1);omega) _) (by show ¬ (_≤w.heap.size+1);omega) _
  have bf:Below w.heap.size w (((w2.setCell ⟨w.heap.size+1+1,1,none⟩ (.slice p1' e.2.length c1')).setCell ⟨w.heap.size+1,0,none⟩ (.slice p0' e.1.length c0')).setCell ⟨w.heap.size+1,1,none⟩ (.slice p1' e.2.length c1')):=Below.setCell (Below.setCell (Below.setCell (HB2.out) (by show _≤w.heap.size+1+1;omega) _) (by show _≤w.heap.size+1;omega) _) (by show _≤w.heap.size+1;omega) _
  have kf:KeepOn (fA ++ fB) w2 (((w2.setCell ⟨w.heap.size+1+1,1,none⟩ (.slice p1' e.2.length c1')).setCell ⟨w.heap.size+1,0,none⟩ (.slice p0' e.1.length c0')).setCell ⟨w.heap.size+1,1,none⟩ (.slice p1' e.2.length c1')):=fun a ha=>sf.2 a (HRG.out a ha).1 (HRG.out a ha).2
  have kA:=kf.sub (fp':=fA) (fun a ha=>by simp [ha])
  have kB:=kf.sub (fp':=fB) (fun a ha=>by simp [ha])
  have U0:=T0.out.keep kA (fun cs x f _ hs h=>h.keep (kA.sub hs))
  have U1:=T1.out.keep kB (fun cs x f _ hs h=>h.keep (kB.sub hs))
  exact bodyPost_ret (v:=.agg #[.slice p0' e.1.length c0',.slice p1' e.2.length c1']) (by simp [results,Tryz.results116,go_sem,q0,q1]) rfl
    ⟨_,fA ++ fB,rfl,⟨_,rfl,_,_,fA,fB,rfl,rfl,U0,U1⟩,HND.out,fun a ha=>⟨by have:=(HRG.out a ha).1;omega,Nat.lt_of_lt_of_le (HRG.out a ha).2 sf.1⟩,bf⟩
theorem toExp_ofO {d:Nat} (h0:ToO 143 (fun w v es=>Rows w All 6 (HEx w All d) v es) (fun w v es fp=>ORows w 79 6 (OEx w d) v es fp) (wtS (wtEx d))) (h1:ToO 84 (fun w v es=>Rows w All 2 (HCl w All (HEx w All d)) v es) (fun w v es fp=>ORows w 127 2 (OCls w d) v es fp) (wtS (wtCl (wtEx d)))) :
    ToO 163 (fun w v e=>∃ cs,v=.agg cs.toArray∧HEx w All (d+1) cs e) (fun w v e fp=>∃ cs,v=.agg cs.toArray∧OEx w (d+1) cs e fp) (wtEx (d+1)):=by
  intro w v e i1 hwt
  obtain ⟨cs,rfl,v0,v1,rfl,s0,s1,s2,s3,f0,f1⟩:=i1
  have hw0:wtS (wtEx d) e.kids≤1048576:=by unfold wtEx at hwt;omega
  have E0:∀ w',SameOn All w w'→Rows w' All 6 (HEx w' All d) v0 e.kids:=fun w' hw=>f0.mono hw (fun _ h=>h) (fun _ _ _=>HEx.mono hw (fun _ h=>h))
  have hw1:wtS (wtCl (wtEx d)) e.clauses≤1048576:=by unfold wtEx at hwt;omega
  have E1:∀ w',SameOn All w w'→Rows w' All 2 (HCl w' All (HEx w' All d)) v1 e.clauses:=fun w' hw=>f1.mono hw (fun _ h=>h) (fun _ _ _ h=>h.mono hw (fun _ h=>h) (fun _ _=>HEx.mono hw (fun _ h=>h)))
  obtain ⟨p0,c0,rfl,_⟩:=id f0
  obtain ⟨p1,c1,rfl,_⟩:=id f1
  clear f0 f1
  go_enter Tryz.func163,Tryz.ntmps163
  go_wp2_with fail
  have hal:Below w.heap.size w (((w.alloc (.cells #[.int .i64 e.kind,.int .i64 e.n,.string e.text,.string e.mod,.slice p0 e.kids.length c0,.slice p1 e.clauses.length c1] 210)).alloc (.cells #[.int .i64 0,.int .i64 0,.string ⟨#[]⟩,.string ⟨#[]⟩,.slice none 0 0,.slice none 0 0] 79)).alloc (.cells #[.int .i64 e.kind,.int .i64 e.n,.string e.text,.string e.mod,.slice none 0 0,.slice none 0 0] 79)):=(((Below.refl _ _).alloc (Nat.le_refl _) _).alloc (by simp only [alloc_hs];omega) _).alloc (by simp only [alloc_hs];omega) _
  refine (h0 _ _ e.kids (E0 _ (SameOn.of_below hal)) hw0).mono ?_
  rintro ex w1 ⟨u,fA,rfl,r0,ndA,rgA,hb⟩
  have bA:=((Blk.new (w:=w) (cs:=#[.int .i64 e.kind,.int .i64 e.n,.string e.text,.string e.mod,.slice p0 e.kids.length c0,.slice p1 e.clauses.length c1]) (t:=210)).alloc (o:=.cells #[.int .i64 0,.int .i64 0,.string ⟨#[]⟩,.string ⟨#[]⟩,.slice none 0 0,.slice none 0 0] 79)).alloc (o:=.cells #[.int .i64 e.kind,.int .i64 e.n,.string e.text,.string e.mod,.slice none 0 0,.slice none 0 0] 79)
  have bR:=(Blk.new (w:=(w.alloc (.cells #[.int .i64 e.kind,.int .i64 e.n,.string e.text,.string e.mod,.slice p0 e.kids.length c0,.slice p1 e.clauses.length c1] 210))) (cs:=#[.int .i64 0,.int .i64 0,.string ⟨#[]⟩,.string ⟨#[]⟩,.slice none 0 0,.slice none 0 0]) (t:=79)).alloc (o:=.cells #[.int .i64 e.kind,.int .i64 e.n,.string e.text,.string e.mod,.slice none 0 0,.slice none 0 0] 79)
  have bO:=(Blk.new (w:=((w.alloc (.cells #[.int .i64 e.kind,.int .i64 e.n,.string e.text,.string e.mod,.slice p0 e.kids.length c0,.slice p1 e.clauses.length c1] 210)).alloc (.cells #[.int .i64 0,.int .i64 0,.string ⟨#[]⟩,.string ⟨#[]⟩,.slice none 0 0,.slice none 0 0] 79))) (cs:=#[.int .i64 e.kind,.int .i64 e.n,.string e.text,.string e.mod,.slice none 0 0,.slice none 0 0]) (t:=79))
  simp only [alloc_hs] at bA bR bO rgA
  replace bA:=bA.below hb (by simp only [alloc_hs];omega)
  replace bR:=bR.below hb (by simp only [alloc_hs];omega)
  replace bO:=bO.below hb (by simp only [alloc_hs];omega)
  have B1:Below w.heap.size w w1:=hal.trans (hb.mono hal.size)
  have z1:w.heap.size+3≤w1.heap.size:=by have:=hb.size;simp only [alloc_hs] at this;omega
  have Z1:Hid (w.heap.size+3≤w1.heap.size):=z1
  have T0:Hid (ORows w1 79 6 (OEx w1 d) u e.kids fA):=r0
  have NA:Hid (fA.Nodup):=ndA
  have GA:Hid (∀ a ∈ fA,w.heap.size+1+1+1≤a∧a<w1.heap.size):=rgA
  clear hal hb z1 ndA rgA
  obtain ⟨p0',c0',hu,_⟩:=r0.shape
  subst hu
  clear r0
  have a5:=bA.cell 5 _ rfl
  have o4:=bO.cell 4 _ rfl
  have g4:=bO.frozen 4
  have HA:Hid (Blk w1 w.heap.size #[.int .i64 e.kind,.int .i64 e.n,.string e.text,.string e.mod,.slice p0 e.kids.length c0,.slice p1 e.clauses.length c1] 210):=bA
  have HR:Hid (Blk w1 (w.heap.size+1) #[.int .i64 0,.int .i64 0,.string ⟨#[]⟩,.string ⟨#[]⟩,.slice none 0 0,.slice none 0 0] 79):=bR
  have HO:Hid (Blk w1 (w.heap.size+1+1) #[.int .i64 e.kind,.int .i64 e.n,.string e.text,.string e.mod,.slice none 0 0,.slice none 0 0] 79):=bO
  have HB1:Hid (Below w.heap.size w w1):=B1
  clear bA bR bO B1
  go_wp2_with fail
  have hp:Below w.heap.size w (w1.setCell ⟨w.heap.size+1+1,4,none⟩ (.slice p0' e.kids.length c0')):=HB1.out.setCell (by show _≤w.heap.size+1+1;omega) _
  refine (h1 _ _ e.clauses (E1 _ (SameOn.of_below hp)) hw1).mono ?_
  rintro ex w2 ⟨u,fB,rfl,r1,ndB,rgB,hb⟩
  have bA:=((HA.out.other (p:=⟨w.heap.size+1+1,4,none⟩) (v:=(.slice p0' e.kids.length c0')) (by show w.heap.size≠w.heap.size+1+1;omega)).below hb (by have:=Z1.out;simp only [setCell_hs];omega))
  have bR:=((HR.out.other (p:=⟨w.heap.size+1+1,4,none⟩) (v:=(.slice p0' e.kids.length c0')) (by show w.heap.size+1≠w.heap.size+1+1;omega)).below hb (by have:=Z1.out;simp only [setCell_hs];omega))
  have bO:=((HO.out.same (j:=4) (v:=(.slice p0' e.kids.length c0')) (cs':=#[.int .i64 e.kind,.int .i64 e.n,.string e.text,.string e.mod,.slice p0' e.kids.length c0',.slice none 0 0]) rfl).below hb (by have:=Z1.out;simp only [setCell_hs];omega))
  have B2:Below w.heap.size w w2:=hp.trans (hb.mono hp.size)
  simp only [setCell_hs] at rgB
  have k01:KeepOn fA w1 w2:=fun a ha=>by
    have h:=GA.out a ha
    exact (hb.block a (by simp only [setCell_hs];exact h.2)).trans (Below.heap_setCell _ _ _ _ (by show a≠w.heap.size+1+1;omega))
  have T0:Hid (ORows w2 79 6 (OEx w2 d) (.slice p0' e.kids.length c0') e.kids fA):=by have h:=T0.out;exact h.keep k01 (fun cs x f _ hs h=>h.keep (k01.sub hs))
  have T1:Hid (ORows w2 127 2 (OCls w2 d) u e.clauses fB):=r1
  have sz2:w1.heap.size≤w2.heap.size:=by have:=hb.size;simp only [setCell_hs] at this;exact this
  have HND:Hid ((fA ++ fB).Nodup):=by
    show List.Nodup _
    rw [List.nodup_append]
    exact ⟨NA.out,ndB,fun a ha b hb=>by have:=GA.out a ha;have:=rgB b hb;omega⟩
  have HRG:Hid (∀ a ∈ fA ++ fB,w.heap.size+1+1+1≤a∧a<w2.heap.size):=fun a ha=>by
    rcases List.mem_append.1 ha with ha | ha
    · have:=GA.out a ha;omega
    · have:=rgB a ha;have:=Z1.out;omega
  have HB2:Hid (Below w.heap.size w w2):=B2
  obtain ⟨p1',c1',hu,_⟩:=r1.shape
  subst hu
  clear hp hb r1 HA HR HO HB1 k01 ndB rgB NA GA sz2 B2
  have o0:=bO.cell 0 _ rfl
  have q0:=bR.cell 0 _ rfl
  have k0:=bR.frozen 0
  have o1:=bO.cell 1 _ rfl
  have q1:=bR.cell 1 _ rfl
  have k1:=bR.frozen 1
  have o2:=bO.cell 2 _ rfl
  have q2:=bR.cell 2 _ rfl
  have k2:=bR.frozen 2
  have o3:=bO.cell 3 _ rfl
  have q3:=bR.cell 3 _ rfl
  have k3:=bR.frozen 3
  have o4:=bO.cell 4 _ rfl
  have q4:=bR.cell 4 _ rfl
  have k4:=bR.frozen 4
  have o5:=bO.cell 5 _ rfl
  have q5:=bR.cell 5 _ rfl
  have k5:=bR.frozen 5
  have g5:=bO.frozen 5
  clear bA bR bO
  go_wp2_with fail
  have sf:SameOn (fun g=>w.heap.size+1+1+1≤g) w2 (((((((w2.setCell ⟨w.heap.size+1+1,5,none⟩ (.slice p1' e.clauses.length c1')).setCell ⟨w.heap.size+1,0,none⟩ (.int .i64 e.kind)).setCell ⟨w.heap.size+1,1,none⟩ (.int .i64 e.n)).setCell ⟨w.heap.size+1,2,none⟩ (.string e.text)).setCell ⟨w.heap.size+1,3,none⟩ (.string e.mod)).setCell ⟨w.heap.size+1,4,none⟩ (.slice p0' e.kids.length c0')).setCell ⟨w.heap.size+1,5,none⟩ (.slice p1' e.clauses.length c1')):=SameOn.setCell (SameOn.setCell (SameOn.setCell (SameOn.setCell (SameOn.setCell (SameOn.setCell (SameOn.setCell (SameOn.of_below (Below.refl _ _)) (by show ¬ (_≤w.heap.size+1+1);omega) _) (by show ¬ (_≤w.heap.size+1);omega) _) (by show ¬ (_≤w.heap.size+1);omega) _) (by show ¬ (_≤w.heap.size+1);omega) _) (by show ¬ (_≤w.heap.size+1);omega) _) (by show ¬ (_≤w.heap.size+1);omega) _) (by show ¬ (_≤w.heap.size+1);omega) _
  have bf:Below w.heap.size w (((((((w2.setCell ⟨w.heap.size+1+1,5,none⟩ (.slice p1' e.clauses.length c1')).setCell ⟨w.heap.size+1,0,none⟩ (.int .i64 e.kind)).setCell ⟨w.heap.size+1,1,none⟩ (.int .i64 e.n)).setCell ⟨w.heap.size+1,2,none⟩ (.string e.text)).setCell ⟨w.heap.size+1,3,none⟩ (.string e.mod)).setCell ⟨w.heap.size+1,4,none⟩ (.slice p0' e.kids.length c0')).setCell ⟨w.heap.size+1,5,none⟩ (.slice p1' e.clauses.length c1')):=Below.setCell (Below.setCell (Below.setCell (Below.setCell (Below.setCell (Below.setCell (Below.setCell (HB2.out) (by show _≤w.heap.size+1+1;omega) _) (by show _≤w.heap.size+1;omega) _) (by show _≤w.heap.size+1;omega) _) (by show _≤w.heap.size+1;omega) _) (by show _≤w.heap.size+1;omega) _) (by show _≤w.heap.size+1;omega) _) (by show _≤w.heap.size+1;omega) _
  have kf:KeepOn (fA ++ fB) w2 (((((((w2.setCell ⟨w.heap.size+1+1,5,none⟩ (.slice p1' e.clauses.length c1')).setCell ⟨w.heap.size+1,0,none⟩ (.int .i64 e.kind)).setCell ⟨w.heap.size+1,1,none⟩ (.int .i64 e.n)).setCell ⟨w.heap.size+1,2,none⟩ (.string e.text)).setCell ⟨w.heap.size+1,3,none⟩ (.string e.mod)).setCell ⟨w.heap.size+1,4,none⟩ (.slice p0' e.kids.length c0')).setCell ⟨w.heap.size+1,5,none⟩ (.slice p1' e.clauses.length c1')):=fun a ha=>sf.2 a (HRG.out a ha).1 (HRG.out a ha).2
  have kA:=kf.sub (fp':=fA) (fun a ha=>by simp [ha])
  have kB:=kf.sub (fp':=fB) (fun a ha=>by simp [ha])
  have U0:=T0.out.keep kA (fun cs x f _ hs h=>h.keep (kA.sub hs))
  have U1:=T1.out.keep kB (fun cs x f _ hs h=>OCls.keep h (kB.sub hs))
  exact bodyPost_ret (v:=.agg #[.int .i64 e.kind,.int .i64 e.n,.string e.text,.string e.mod,.slice p0' e.kids.length c0',.slice p1' e.clauses.length c1']) (by simp [results,Tryz.results163,go_sem,q0,q1,q2,q3,q4,q5]) rfl
    ⟨_,fA ++ fB,rfl,⟨_,rfl,_,_,fA,fB,rfl,rfl,s0,s1,s2,s3,U0,U1⟩,HND.out,fun a ha=>⟨by have:=(HRG.out a ha).1;omega,Nat.lt_of_lt_of_le (HRG.out a ha).2 sf.1⟩,bf⟩
theorem toExp_own:∀ d,ToO 163 (fun w v e=>∃ cs,v=.agg cs.toArray∧HEx w All d cs e) (fun w v e fp=>∃ cs,v=.agg cs.toArray∧OEx w d cs e fp) (wtEx d)
  | 0=>fun w v x ⟨_,_,h⟩ _=>h.elim
  | d+1=>toExp_ofO (toExpS_ofO (toExp_own d)) (toClauseS_ofO (toClause_ofO (toExpS_ofO (toExp_own d)) (toExpS_ofO (toExp_own d))))
theorem toClause_own (d:Nat):ToO 116 (fun w v e=>∃ cs,v=.agg cs.toArray∧HCl w All (HEx w All d) cs e) (fun w v e fp=>∃ cs,v=.agg cs.toArray∧OCl w (OEx w d) cs e fp) (wtCl (wtEx d)) :=
  toClause_ofO (toExpS_ofO (toExp_own d)) (toExpS_ofO (toExp_own d))
theorem toClauseS_own (d:Nat):ToO 84 (fun w v es=>Rows w All 2 (HCl w All (HEx w All d)) v es) (fun w v es fp=>ORows w 127 2 (OCl w (OEx w d)) v es fp) (wtS (wtCl (wtEx d))):=toClauseS_ofO (toClause_own d)
theorem toRefS_ofO {d:Nat} (hE:ToO 55 (fun w v e=>∃ cs,v=.agg cs.toArray∧HRf cs e) (fun w v e fp=>∃ cs,v=.agg cs.toArray∧ORf w d cs e fp) (wtRf)) :
    ToO 35 (fun w v es=>Rows w All 2 (HRf) v es) (fun w v es fp=>ORows w 89 2 (ORf w d) v es fp) (wtS (wtRf)):=by
  intro w v es h hwt
  obtain ⟨p,cap,rfl,hcl,hcm,hx⟩:=h
  generalize hn:es.length=n at *
  have HN:Hid (es.length=n):=hn
  have HX:Hid _:=hx
  have hnb:n≤1048576:=by unfold wtS at hwt;omega
  have HWT:Hid (wtS (wtRf) es≤1048576):=hwt
  clear hx hn hwt
  obtain ⟨M,hM,hmk⟩:=make_row (t:=44) (e:=89) (c:=2) Tryz.underlying44 (by kernel_rfl) w n hnb
  have HO:Hid (Made w (w.alloc (.cells M 89)) w.heap.size n 89 2 (fun w=>ORf w d) es 0 M.toList []):=Made.start hM (by unfold maxLen;omega)
  generalize hG:w.heap.size=G at *
  have HG:Hid (w.heap.size=G):=hG
  go_enter Tryz.func35,Tryz.ntmps35
  go_wp2
  go_loopw [4] (fun iv wr=>∃ (k:Nat) (xs:List Value) (fps:List (List Nat)),k≤n∧iv=.int .i64 k∧Hid (Made w wr G n 89 2 (fun w=>ORf w d) es k xs fps)) (fun iv _=>n - (intOf iv).toNat)
  case atStart=>exact ⟨0,M.toList,[],Nat.zero_le _,rfl,HO⟩
  case round =>
    obtain ⟨k,xs,fps,hk,rfl,HM⟩:=hrel
    by_cases hlt:k<n
    · obtain ⟨x,hxk⟩:∃ x,es[k]?=some x:=⟨es[k]'(by rw [HN.out];exact hlt),List.getElem?_eq_getElem _⟩
      obtain ⟨g,off,rfl,hg,hgl,hat⟩:=HX.out (by intro h;rw [h] at hxk;simp at hxk)
      obtain ⟨cs,hcl6,hcs,hex⟩:=hat k x hxk
      have hbw:Below w.heap.size w wr:=by rw [HG.out];exact HM.out.below
      have hex':∀ w',SameOn All wr w'→HRf cs x:=fun w' hw=>hex
      obtain ⟨z0,z1,rfl⟩:=len2 hcl6
      have a0:=hcs 0 (by omega)
      have a1:=hcs 1 (by omega)
      rw [← hbw.cell (p:=⟨g,_,none⟩) (by show g<w.heap.size;rw [HG.out];exact hgl)] at a0 a1
      simp at a0 a1
      have hwx:wtRf x≤1048576:=by
        have h1:=HWT.out
        have h2:=sum_take_succ (wtRf) es k x hxk
        have h3:=sum_take_le (wtRf) es (k+1)
        unfold wtS at h1
        omega
      clear hbw hcs hat hex hcl6
      go_wp2_with (go_at_call 55;go_must (refine (hE _ _ x ⟨_,rfl,hex' _ (by exact ⟨Nat.le_refl _,fun _ _ _=>rfl⟩)⟩ hwx).mono ?_;rintro e w1 ⟨u,fp,rfl,⟨cs',rfl,hx1⟩,hnd,hrg,hb1⟩;obtain ⟨st,sk,hsh⟩:=hx1.shape;subst hsh;have HB1:Hid (Below wr.heap.size wr w1):=hb1;have HX1:Hid (ORf w1 d [.string st,.int .i64 sk] x fp):=hx1;have HND:Hid fp.Nodup:=hnd;have HRG:Hid (∀ a ∈ fp,wr.heap.size≤a∧a<w1.heap.size):=hrg;have o1:=HM.out.own.kept (grownBy_belowR (r:=none) hb1) (Or.inr (by simp [Value.ownBlock]));have HO1:Hid (w1.ownsRow G 89 2 (.slice (some ⟨G,0,none⟩) n n) n xs):=o1;have f0:=o1.frozenAt (k * 2);obtain ⟨y0,g0⟩:=own_someR o1 (k * 2) (by omega);have f1:=o1.frozenAt (k * 2+1);obtain ⟨y1,g1⟩:=own_someR o1 (k * 2+1) (by omega);clear o1 hb1 hx1 hnd hrg))
      have sd:=stored2 HO1.out (k * 2) (.string st) (.int .i64 sk)
      have hlen:xs.length=n * 2:=HO1.out.1
      exact ⟨⟨k+1,_,_,by omega,by go_num,Made.step (O:=fun w=>ORf w d) (c:=2) (fun w w' cs x f h hk=>h) HM.out hxk HB1.out HX1.out HND.out HRG.out rfl sd.1 sd.2 (fun m hm=>set2_other hm) (fun j hj=>set2_self (by omega) j hj)⟩,by simp [intOf];omega⟩
    · obtain rfl:k=n:=by omega
      obtain ⟨fp,r1,r2,r3⟩:=HM.out.done HN.out (by unfold maxLen;omega)
      have R1:Hid (ORows wr 89 2 (ORf wr d) (.slice (some ⟨G,0,none⟩) k k) es fp):=r1
      have R2:Hid (fp.Nodup∧∀ a ∈ fp,G≤a∧a<wr.heap.size):=⟨r2,r3⟩
      clear r1 r2 r3
      go_wp2
      go_ret
      exact ⟨_,fp,rfl,R1.out,R2.out.1,R2.out.2,HM.out.below⟩
theorem toFunS_ofO {d:Nat} (hE:ToO 56 (fun w v e=>∃ cs,v=.agg cs.toArray∧HFn w All d cs e) (fun w v e fp=>∃ cs,v=.agg cs.toArray∧OFn w d cs e fp) (wtFn d)) :
    ToO 36 (fun w v es=>Rows w All 3 (HFn w All d) v es) (fun w v es fp=>ORows w 91 3 (OFn w d) v es fp) (wtS (wtFn d)):=by
  intro w v es h hwt
  obtain ⟨p,cap,rfl,hcl,hcm,hx⟩:=h
  generalize hn:es.length=n at *
  have HN:Hid (es.length=n):=hn
  have HX:Hid _:=hx
  have hnb:n≤1048576:=by unfold wtS at hwt;omega
  have HWT:Hid (wtS (wtFn d) es≤1048576):=hwt
  clear hx hn hwt
  obtain ⟨M,hM,hmk⟩:=make_row (t:=45) (e:=91) (c:=3) Tryz.underlying45 (by kernel_rfl) w n hnb
  have HO:Hid (Made w (w.alloc (.cells M 91)) w.heap.size n 91 3 (fun w=>OFn w d) es 0 M.toList []):=Made.start hM (by unfold maxLen;omega)
  generalize hG:w.heap.size=G at *
  have HG:Hid (w.heap.size=G):=hG
  go_enter Tryz.func36,Tryz.ntmps36
  go_wp2
  go_loopw [4] (fun iv wr=>∃ (k:Nat) (xs:List Value) (fps:List (List Nat)),k≤n∧iv=.int .i64 k∧Hid (Made w wr G n 91 3 (fun w=>OFn w d) es k xs fps)) (fun iv _=>n - (intOf iv).toNat)
  case atStart=>exact ⟨0,M.toList,[],Nat.zero_le _,rfl,HO⟩
  case round =>
    obtain ⟨k,xs,fps,hk,rfl,HM⟩:=hrel
    by_cases hlt:k<n
    · obtain ⟨x,hxk⟩:∃ x,es[k]?=some x:=⟨es[k]'(by rw [HN.out];exact hlt),List.getElem?_eq_getElem _⟩
      obtain ⟨g,off,rfl,hg,hgl,hat⟩:=HX.out (by intro h;rw [h] at hxk;simp at hxk)
      obtain ⟨cs,hcl6,hcs,hex⟩:=hat k x hxk
      have hbw:Below w.heap.size w wr:=by rw [HG.out];exact HM.out.below
      have hex':∀ w',SameOn All wr w'→HFn w' All d cs x:=fun w' hw=>hex.mono (SameOn.trans (SameOn.of_below hbw) hw) (fun _ h=>h)
      obtain ⟨z0,z1,z2,rfl⟩:=len3 hcl6
      have a0:=hcs 0 (by omega)
      have a1:=hcs 1 (by omega)
      have a2:=hcs 2 (by omega)
      rw [← hbw.cell (p:=⟨g,_,none⟩) (by show g<w.heap.size;rw [HG.out];exact hgl)] at a0 a1 a2
      simp at a0 a1 a2
      have hwx:wtFn d x≤1048576:=by
        have h1:=HWT.out
        have h2:=sum_take_succ (wtFn d) es k x hxk
        have h3:=sum_take_le (wtFn d) es (k+1)
        unfold wtS at h1
        omega
      clear hbw hcs hat hex hcl6
      go_wp2_with (go_at_call 56;go_must (refine (hE _ _ x ⟨_,rfl,hex' _ (by exact ⟨Nat.le_refl _,fun _ _ _=>rfl⟩)⟩ hwx).mono ?_;rintro e w1 ⟨u,fp,rfl,⟨cs',rfl,hx1⟩,hnd,hrg,hb1⟩;obtain ⟨st,sk,p1,n1,q1,hsh⟩:=hx1.shape;subst hsh;have HB1:Hid (Below wr.heap.size wr w1):=hb1;have HX1:Hid (OFn w1 d [.string st,.int .i64 sk,.slice p1 n1 q1] x fp):=hx1;have HND:Hid fp.Nodup:=hnd;have HRG:Hid (∀ a ∈ fp,wr.heap.size≤a∧a<w1.heap.size):=hrg;have o1:=HM.out.own.kept (grownBy_belowR (r:=none) hb1) (Or.inr (by simp [Value.ownBlock]));have HO1:Hid (w1.ownsRow G 91 3 (.slice (some ⟨G,0,none⟩) n n) n xs):=o1;have f0:=o1.frozenAt (k * 3);obtain ⟨y0,g0⟩:=own_someR o1 (k * 3) (by omega);have f1:=o1.frozenAt (k * 3+1);obtain ⟨y1,g1⟩:=own_someR o1 (k * 3+1) (by omega);have f2:=o1.frozenAt (k * 3+2);obtain ⟨y2,g2⟩:=own_someR o1 (k * 3+2) (by omega);clear o1 hb1 hx1 hnd hrg))
      have sd:=stored3 HO1.out (k * 3) (.string st) (.int .i64 sk) (.slice p1 n1 q1)
      have hlen:xs.length=n * 3:=HO1.out.1
      exact ⟨⟨k+1,_,_,by omega,by go_num,Made.step (O:=fun w=>OFn w d) (c:=3) (fun w w' cs x f h hk=>OFn.keep h hk) HM.out hxk HB1.out HX1.out HND.out HRG.out rfl sd.1 sd.2 (fun m hm=>set3_other hm) (fun j hj=>set3_self (by omega) j hj)⟩,by simp [intOf];omega⟩
    · obtain rfl:k=n:=by omega
      obtain ⟨fp,r1,r2,r3⟩:=HM.out.done HN.out (by unfold maxLen;omega)
      have R1:Hid (ORows wr 91 3 (OFn wr d) (.slice (some ⟨G,0,none⟩) k k) es fp):=r1
      have R2:Hid (fp.Nodup∧∀ a ∈ fp,G≤a∧a<wr.heap.size):=⟨r2,r3⟩
      clear r1 r2 r3
      go_wp2
      go_ret
      exact ⟨_,fp,rfl,R1.out,R2.out.1,R2.out.2,HM.out.below⟩
theorem toRef_ofO {d:Nat} :
    ToO 55 (fun w v e=>∃ cs,v=.agg cs.toArray∧HRf cs e) (fun w v e fp=>∃ cs,v=.agg cs.toArray∧ORf w d cs e fp) (wtRf):=by
  intro w v e i1 hwt
  obtain ⟨cs,rfl,rfl,s0,s1⟩:=i1
  go_enter Tryz.func55,Tryz.ntmps55
  go_wp2
  exact bodyPost_ret (v:=.agg #[.string e.name,.int .i64 e.arity]) (by simp [results,Tryz.results55,go_sem]) rfl ⟨_,[],rfl,⟨_,rfl,⟨rfl,s0,s1⟩,rfl⟩,by simp,fun a ha=>by simp at ha,(((Below.refl _ _).alloc (Nat.le_refl _) _).alloc (by simp only [alloc_hs];omega) _).alloc (by simp only [alloc_hs];omega) _⟩
theorem toFun_ofO {d:Nat} (h0:ToO 84 (fun w v es=>Rows w All 2 (HCl w All (HEx w All d)) v es) (fun w v es fp=>ORows w 127 2 (OCls w d) v es fp) (wtS (wtCl (wtEx d)))) :
    ToO 56 (fun w v e=>∃ cs,v=.agg cs.toArray∧HFn w All d cs e) (fun w v e fp=>∃ cs,v=.agg cs.toArray∧OFn w d cs e fp) (wtFn d):=by
  intro w v e i1 hwt
  obtain ⟨cs,rfl,v0,rfl,s0,s1,f0⟩:=i1
  have hw0:wtS (wtCl (wtEx d)) e.clauses≤1048576:=by unfold wtFn at hwt;omega
  have E0:∀ w',SameOn All w w'→Rows w' All 2 (HCl w' All (HEx w' All d)) v0 e.clauses:=fun w' hw=>f0.mono hw (fun _ h=>h) (fun _ _ _ h=>h.mono hw (fun _ h=>h) (fun _ _=>HEx.mono hw (fun _ h=>h)))
  obtain ⟨p0,c0,rfl,_⟩:=id f0
  clear f0
  go_enter Tryz.func56,Tryz.ntmps56
  go_wp2_with fail
  have hal:Below w.heap.size w (((w.alloc (.cells #[.string e.name,.int .i64 e.arity,.slice p0 e.clauses.length c0] 98)).alloc (.cells #[.string ⟨#[]⟩,.int .i64 0,.slice none 0 0] 91)).alloc (.cells #[.string e.name,.int .i64 e.arity,.slice none 0 0] 91)):=(((Below.refl _ _).alloc (Nat.le_refl _) _).alloc (by simp only [alloc_hs];omega) _).alloc (by simp only [alloc_hs];omega) _
  refine (h0 _ _ e.clauses (E0 _ (SameOn.of_below hal)) hw0).mono ?_
  rintro ex w1 ⟨u,fp,rfl,r0,hnd,hrg,hb⟩
  have bR:=(Blk.new (w:=(w.alloc (.cells #[.string e.name,.int .i64 e.arity,.slice p0 e.clauses.length c0] 98))) (cs:=#[.string ⟨#[]⟩,.int .i64 0,.slice none 0 0]) (t:=91)).alloc (o:=.cells #[.string e.name,.int .i64 e.arity,.slice none 0 0] 91)
  have bO:=(Blk.new (w:=((w.alloc (.cells #[.string e.name,.int .i64 e.arity,.slice p0 e.clauses.length c0] 98)).alloc (.cells #[.string ⟨#[]⟩,.int .i64 0,.slice none 0 0] 91))) (cs:=#[.string e.name,.int .i64 e.arity,.slice none 0 0]) (t:=91))
  simp only [alloc_hs] at bR bO hrg
  replace bR:=bR.below hb (by simp only [alloc_hs];omega)
  replace bO:=bO.below hb (by simp only [alloc_hs];omega)
  have HB1:Hid (Below w.heap.size w w1):=hal.trans (hb.mono hal.size)
  have HND:Hid (fp.Nodup):=hnd
  have HRG:Hid (∀ a ∈ fp,w.heap.size+1+1+1≤a∧a<w1.heap.size):=hrg
  have T0:Hid (ORows w1 127 2 (OCls w1 d) u e.clauses fp):=r0
  clear hal hb hnd hrg
  obtain ⟨p1,c1,hu,_⟩:=r0.shape
  subst hu
  clear r0
  have o0:=bO.cell 0 _ rfl
  have q0:=bR.cell 0 _ rfl
  have k0:=bR.frozen 0
  have o1:=bO.cell 1 _ rfl
  have q1:=bR.cell 1 _ rfl
  have k1:=bR.frozen 1
  have o2:=bO.cell 2 _ rfl
  have q2:=bR.cell 2 _ rfl
  have k2:=bR.frozen 2
  have g2:=bO.frozen 2
  clear bR bO
  go_wp2_with fail
  have sf:SameOn (fun g=>w.heap.size+1+1+1≤g) w1 ((((w1.setCell ⟨w.heap.size+1+1,2,none⟩ (.slice p1 e.clauses.length c1)).setCell ⟨w.heap.size+1,0,none⟩ (.string e.name)).setCell ⟨w.heap.size+1,1,none⟩ (.int .i64 e.arity)).setCell ⟨w.heap.size+1,2,none⟩ (.slice p1 e.clauses.length c1)):=SameOn.setCell (SameOn.setCell (SameOn.setCell (SameOn.setCell (SameOn.of_below (Below.refl _ _)) (by show ¬ (_≤w.heap.size+1+1);omega) _) (by show ¬ (_≤w.heap.size+1);omega) _) (by show ¬ (_≤w.heap.size+1);omega) _) (by show ¬ (_≤w.heap.size+1);omega) _
  have bf:Below w.heap.size w ((((w1.setCell ⟨w.heap.size+1+1,2,none⟩ (.slice p1 e.clauses.length c1)).setCell ⟨w.heap.size+1,0,none⟩ (.string e.name)).setCell ⟨w.heap.size+1,1,none⟩ (.int .i64 e.arity)).setCell ⟨w.heap.size+1,2,none⟩ (.slice p1 e.clauses.length c1)):=Below.setCell (Below.setCell (Below.setCell (Below.setCell (HB1.out) (by show _≤w.heap.size+1+1;omega) _) (by show _≤w.heap.size+1;omega) _) (by show _≤w.heap.size+1;omega) _) (by show _≤w.heap.size+1;omega) _
  have kf:KeepOn fp w1 ((((w1.setCell ⟨w.heap.size+1+1,2,none⟩ (.slice p1 e.clauses.length c1)).setCell ⟨w.heap.size+1,0,none⟩ (.string e.name)).setCell ⟨w.heap.size+1,1,none⟩ (.int .i64 e.arity)).setCell ⟨w.heap.size+1,2,none⟩ (.slice p1 e.clauses.length c1)):=fun a ha=>sf.2 a (HRG.out a ha).1 (HRG.out a ha).2
  exact bodyPost_ret (v:=.agg #[.string e.name,.int .i64 e.arity,.slice p1 e.clauses.length c1]) (by simp [results,Tryz.results56,go_sem,q0,q1,q2]) rfl
    ⟨_,fp,rfl,⟨_,rfl,_,rfl,s0,s1,T0.out.keep kf (fun cs x f _ hs h=>OCls.keep h (kf.sub hs))⟩,HND.out,fun a ha=>⟨by have:=(HRG.out a ha).1;omega,Nat.lt_of_lt_of_le (HRG.out a ha).2 sf.1⟩,bf⟩
theorem toModule_ofO {d:Nat} (h0:ToO 35 (fun w v es=>Rows w All 2 (HRf) v es) (fun w v es fp=>ORows w 89 2 (ORf w d) v es fp) (wtS (wtRf))) (h1:ToO 36 (fun w v es=>Rows w All 3 (HFn w All d) v es) (fun w v es fp=>ORows w 91 3 (OFn w d) v es fp) (wtS (wtFn d))) :
    ToO 16 (fun w v e=>∃ cs,v=.agg cs.toArray∧HMd w All d cs e) (fun w v e fp=>∃ cs,v=.agg cs.toArray∧OMd w d cs e fp) (wtMd d):=by
  intro w v e i1 hwt
  obtain ⟨cs,rfl,v0,v1,rfl,s0,f0,f1⟩:=i1
  have hw0:wtS (wtRf) e.exports≤1048576:=by unfold wtMd at hwt;omega
  have E0:∀ w',SameOn All w w'→Rows w' All 2 (HRf) v0 e.exports:=fun w' hw=>f0.mono hw (fun _ h=>h) (fun _ _ _ h=>h)
  have hw1:wtS (wtFn d) e.funs≤1048576:=by unfold wtMd at hwt;omega
  have E1:∀ w',SameOn All w w'→Rows w' All 3 (HFn w' All d) v1 e.funs:=fun w' hw=>f1.mono hw (fun _ h=>h) (fun _ _ _ h=>h.mono hw (fun _ h=>h))
  obtain ⟨p0,c0,rfl,_⟩:=id f0
  obtain ⟨p1,c1,rfl,_⟩:=id f1
  clear f0 f1
  go_enter Tryz.func16,Tryz.ntmps16
  go_wp2_with fail
  have hal:Below w.heap.size w (((w.alloc (.cells #[.string e.name,.slice p0 e.exports.length c0,.slice p1 e.funs.length c1] 41)).alloc (.cells #[.string ⟨#[]⟩,.slice none 0 0,.slice none 0 0] 47)).alloc (.cells #[.string e.name,.slice none 0 0,.slice none 0 0] 47)):=(((Below.refl _ _).alloc (Nat.le_refl _) _).alloc (by simp only [alloc_hs];omega) _).alloc (by simp only [alloc_hs];omega) _
  refine (h0 _ _ e.exports (E0 _ (SameOn.of_below hal)) hw0).mono ?_
  rintro ex w1 ⟨u,fA,rfl,r0,ndA,rgA,hb⟩
  have bA:=((Blk.new (w:=w) (cs:=#[.string e.name,.slice p0 e.exports.length c0,.slice p1 e.funs.length c1]) (t:=41)).alloc (o:=.cells #[.string ⟨#[]⟩,.slice none 0 0,.slice none 0 0] 47)).alloc (o:=.cells #[.string e.name,.slice none 0 0,.slice none 0 0] 47)
  have bR:=(Blk.new (w:=(w.alloc (.cells #[.string e.name,.slice p0 e.exports.length c0,.slice p1 e.funs.length c1] 41))) (cs:=#[.string ⟨#[]⟩,.slice none 0 0,.slice none 0 0]) (t:=47)).alloc (o:=.cells #[.string e.name,.slice none 0 0,.slice none 0 0] 47)
  have bO:=(Blk.new (w:=((w.alloc (.cells #[.string e.name,.slice p0 e.exports.length c0,.slice p1 e.funs.length c1] 41)).alloc (.cells #[.string ⟨#[]⟩,.slice none 0 0,.slice none 0 0] 47))) (cs:=#[.string e.name,.slice none 0 0,.slice none 0 0]) (t:=47))
  simp only [alloc_hs] at bA bR bO rgA
  replace bA:=bA.below hb (by simp only [alloc_hs];omega)
  replace bR:=bR.below hb (by simp only [alloc_hs];omega)
  replace bO:=bO.below hb (by simp only [alloc_hs];omega)
  have B1:Below w.heap.size w w1:=hal.trans (hb.mono hal.size)
  have z1:w.heap.size+3≤w1.heap.size:=by have:=hb.size;simp only [alloc_hs] at this;omega
  have Z1:Hid (w.heap.size+3≤w1.heap.size):=z1
  have T0:Hid (ORows w1 89 2 (ORf w1 d) u e.exports fA):=r0
  have NA:Hid (fA.Nodup):=ndA
  have GA:Hid (∀ a ∈ fA,w.heap.size+1+1+1≤a∧a<w1.heap.size):=rgA
  clear hal hb z1 ndA rgA
  obtain ⟨p0',c0',hu,_⟩:=r0.shape
  subst hu
  clear r0
  have a2:=bA.cell 2 _ rfl
  have o1:=bO.cell 1 _ rfl
  have g1:=bO.frozen 1
  have HA:Hid (Blk w1 w.heap.size #[.string e.name,.slice p0 e.exports.length c0,.slice p1 e.funs.length c1] 41):=bA
  have HR:Hid (Blk w1 (w.heap.size+1) #[.string ⟨#[]⟩,.slice none 0 0,.slice none 0 0] 47):=bR
  have HO:Hid (Blk w1 (w.heap.size+1+1) #[.string e.name,.slice none 0 0,.slice none 0 0] 47):=bO
  have HB1:Hid (Below w.heap.size w w1):=B1
  clear bA bR bO B1
  go_wp2_with fail
  have hp:Below w.heap.size w (w1.setCell ⟨w.heap.size+1+1,1,none⟩ (.slice p0' e.exports.length c0')):=HB1.out.setCell (by show _≤w.heap.size+1+1;omega) _
  refine (h1 _ _ e.funs (E1 _ (SameOn.of_below hp)) hw1).mono ?_
  rintro ex w2 ⟨u,fB,rfl,r1,ndB,rgB,hb⟩
  have bA:=((HA.out.other (p:=⟨w.heap.size+1+1,1,none⟩) (v:=(.slice p0' e.exports.length c0')) (by show w.heap.size≠w.heap.size+1+1;omega)).below hb (by have:=Z1.out;simp only [setCell_hs];omega))
  have bR:=((HR.out.other (p:=⟨w.heap.size+1+1,1,none⟩) (v:=(.slice p0' e.exports.length c0')) (by show w.heap.size+1≠w.heap.size+1+1;omega)).below hb (by have:=Z1.out;simp only [setCell_hs];omega))
  have bO:=((HO.out.same (j:=1) (v:=(.slice p0' e.exports.length c0')) (cs':=#[.string e.name,.slice p0' e.exports.length c0',.slice none 0 0]) rfl).below hb (by have:=Z1.out;simp only [setCell_hs];omega))
  have B2:Below w.heap.size w w2:=hp.trans (hb.mono hp.size)
  simp only [setCell_hs] at rgB
  have k01:KeepOn fA w1 w2:=fun a ha=>by
    have h:=GA.out a ha
    exact (hb.block a (by simp only [setCell_hs];exact h.2)).trans (Below.heap_setCell _ _ _ _ (by show a≠w.heap.size+1+1;omega))
  have T0:Hid (ORows w2 89 2 (ORf w2 d) (.slice p0' e.exports.length c0') e.exports fA):=by have h:=T0.out;exact h.keep k01 (fun cs x f _ hs h=>h)
  have T1:Hid (ORows w2 91 3 (OFn w2 d) u e.funs fB):=r1
  have sz2:w1.heap.size≤w2.heap.size:=by have:=hb.size;simp only [setCell_hs] at this;exact this
  have HND:Hid ((fA ++ fB).Nodup):=by
    show List.Nodup _
    rw [List.nodup_append]
    exact ⟨NA.out,ndB,fun a ha b hb=>by have:=GA.out a ha;have:=rgB b hb;omega⟩
  have HRG:Hid (∀ a ∈ fA ++ fB,w.heap.size+1+1+1≤a∧a<w2.heap.size):=fun a ha=>by
    rcases List.mem_append.1 ha with ha | ha
    · have:=GA.out a ha;omega
    · have:=rgB a ha;have:=Z1.out;omega
  have HB2:Hid (Below w.heap.size w w2):=B2
  obtain ⟨p1',c1',hu,_⟩:=r1.shape
  subst hu
  clear hp hb r1 HA HR HO HB1 k01 ndB rgB NA GA sz2 B2
  have o0:=bO.cell 0 _ rfl
  have q0:=bR.cell 0 _ rfl
  have k0:=bR.frozen 0
  have o1:=bO.cell 1 _ rfl
  have q1:=bR.cell 1 _ rfl
  have k1:=bR.frozen 1
  have o2:=bO.cell 2 _ rfl
  have q2:=bR.cell 2 _ rfl
  have k2:=bR.frozen 2
  have g2:=bO.frozen 2
  clear bA bR bO
  go_wp2_with fail
  have sf:SameOn (fun g=>w.heap.size+1+1+1≤g) w2 ((((w2.setCell ⟨w.heap.size+1+1,2,none⟩ (.slice p1' e.funs.length c1')).setCell ⟨w.heap.size+1,0,none⟩ (.string e.name)).setCell ⟨w.heap.size+1,1,none⟩ (.slice p0' e.exports.length c0')).setCell ⟨w.heap.size+1,2,none⟩ (.slice p1' e.funs.length c1')):=SameOn.setCell (SameOn.setCell (SameOn.setCell (SameOn.setCell (SameOn.of_below (Below.refl _ _)) (by show ¬ (_≤w.heap.size+1+1);omega) _) (by show ¬ (_≤w.heap.size+1);omega) _) (by show ¬ (_≤w.heap.size+1);omega) _) (by show ¬ (_≤w.heap.size+1);omega) _
  have bf:Below w.heap.size w ((((w2.setCell ⟨w.heap.size+1+1,2,none⟩ (.slice p1' e.funs.length c1')).setCell ⟨w.heap.size+1,0,none⟩ (.string e.name)).setCell ⟨w.heap.size+1,1,none⟩ (.slice p0' e.exports.length c0')).setCell ⟨w.heap.size+1,2,none⟩ (.slice p1' e.funs.length c1')):=Below.setCell (Below.setCell (Below.setCell (Below.setCell (HB2.out) (by show _≤w.heap.size+1+1;omega) _) (by show _≤w.heap.size+1;omega) _) (by show _≤w.heap.size+1;omega) _) (by show _≤w.heap.size+1;omega) _
  have kf:KeepOn (fA ++ fB) w2 ((((w2.setCell ⟨w.heap.size+1+1,2,none⟩ (.slice p1' e.funs.length c1')).setCell ⟨w.heap.size+1,0,none⟩ (.string e.name)).setCell ⟨w.heap.size+1,1,none⟩ (.slice p0' e.exports.length c0')).setCell ⟨w.heap.size+1,2,none⟩ (.slice p1' e.funs.length c1')):=fun a ha=>sf.2 a (HRG.out a ha).1 (HRG.out a ha).2
  have kA:=kf.sub (fp':=fA) (fun a ha=>by simp [ha])
  have kB:=kf.sub (fp':=fB) (fun a ha=>by simp [ha])
  have U0:=T0.out.keep kA (fun cs x f _ hs h=>h)
  have U1:=T1.out.keep kB (fun cs x f _ hs h=>h.keep (kB.sub hs))
  exact bodyPost_ret (v:=.agg #[.string e.name,.slice p0' e.exports.length c0',.slice p1' e.funs.length c1']) (by simp [results,Tryz.results16,go_sem,q0,q1,q2]) rfl
    ⟨_,fA ++ fB,rfl,⟨_,rfl,_,_,fA,fB,rfl,rfl,s0,U0,U1⟩,HND.out,fun a ha=>⟨by have:=(HRG.out a ha).1;omega,Nat.lt_of_lt_of_le (HRG.out a ha).2 sf.1⟩,bf⟩
theorem toModule_own (d:Nat):ToO 16 (fun w v e=>∃ cs,v=.agg cs.toArray∧HMd w All d cs e) (fun w v e fp=>∃ cs,v=.agg cs.toArray∧OMd w d cs e fp) (wtMd d) :=
  toModule_ofO (toRefS_ofO (toRef_ofO (d:=d))) (toFunS_ofO (toFun_ofO (toClauseS_own d)))
theorem toModuleS_ofO {d:Nat} (hE:ToO 16 (fun w v e=>∃ cs,v=.agg cs.toArray∧HMd w All d cs e) (fun w v e fp=>∃ cs,v=.agg cs.toArray∧OMd w d cs e fp) (wtMd d)) :
    ToO 6 (fun w v es=>Rows w All 3 (HMd w All d) v es) (fun w v es fp=>ORows w 47 3 (OMd w d) v es fp) (wtS (wtMd d)):=by
  intro w v es h hwt
  obtain ⟨p,cap,rfl,hcl,hcm,hx⟩:=h
  generalize hn:es.length=n at *
  have HN:Hid (es.length=n):=hn
  have HX:Hid _:=hx
  have hnb:n≤1048576:=by unfold wtS at hwt;omega
  have HWT:Hid (wtS (wtMd d) es≤1048576):=hwt
  clear hx hn hwt
  obtain ⟨M,hM,hmk⟩:=make_row (t:=24) (e:=47) (c:=3) Tryz.underlying24 (by kernel_rfl) w n hnb
  have HO:Hid (Made w (w.alloc (.cells M 47)) w.heap.size n 47 3 (fun w=>OMd w d) es 0 M.toList []):=Made.start hM (by unfold maxLen;omega)
  generalize hG:w.heap.size=G at *
  have HG:Hid (w.heap.size=G):=hG
  go_enter Tryz.func6,Tryz.ntmps6
  go_wp2
  go_loopw [4] (fun iv wr=>∃ (k:Nat) (xs:List Value) (fps:List (List Nat)),k≤n∧iv=.int .i64 k∧Hid (Made w wr G n 47 3 (fun w=>OMd w d) es k xs fps)) (fun iv _=>n - (intOf iv).toNat)
  case atStart=>exact ⟨0,M.toList,[],Nat.zero_le _,rfl,HO⟩
  case round =>
    obtain ⟨k,xs,fps,hk,rfl,HM⟩:=hrel
    by_cases hlt:k<n
    · obtain ⟨x,hxk⟩:∃ x,es[k]?=some x:=⟨es[k]'(by rw [HN.out];exact hlt),List.getElem?_eq_getElem _⟩
      obtain ⟨g,off,rfl,hg,hgl,hat⟩:=HX.out (by intro h;rw [h] at hxk;simp at hxk)
      obtain ⟨cs,hcl6,hcs,hex⟩:=hat k x hxk
      have hbw:Below w.heap.size w wr:=by rw [HG.out];exact HM.out.below
      have hex':∀ w',SameOn All wr w'→HMd w' All d cs x:=fun w' hw=>hex.mono (SameOn.trans (SameOn.of_below hbw) hw) (fun _ h=>h)
      obtain ⟨z0,z1,z2,rfl⟩:=len3 hcl6
      have a0:=hcs 0 (by omega)
      have a1:=hcs 1 (by omega)
      have a2:=hcs 2 (by omega)
      rw [← hbw.cell (p:=⟨g,_,none⟩) (by show g<w.heap.size;rw [HG.out];exact hgl)] at a0 a1 a2
      simp at a0 a1 a2
      have hwx:wtMd d x≤1048576:=by
        have h1:=HWT.out
        have h2:=sum_take_succ (wtMd d) es k x hxk
        have h3:=sum_take_le (wtMd d) es (k+1)
        unfold wtS at h1
        omega
      clear hbw hcs hat hex hcl6
      go_wp2_with (go_at_call 16;go_must (refine (hE _ _ x ⟨_,rfl,hex' _ (by exact ⟨Nat.le_refl _,fun _ _ _=>rfl⟩)⟩ hwx).mono ?_;rintro e w1 ⟨u,fp,rfl,⟨cs',rfl,hx1⟩,hnd,hrg,hb1⟩;obtain ⟨st,p1,n1,q1,p2,n2,q2,hsh⟩:=hx1.shape;subst hsh;have HB1:Hid (Below wr.heap.size wr w1):=hb1;have HX1:Hid (OMd w1 d [.string st,.slice p1 n1 q1,.slice p2 n2 q2] x fp):=hx1;have HND:Hid fp.Nodup:=hnd;have HRG:Hid (∀ a ∈ fp,wr.heap.size≤a∧a<w1.heap.size):=hrg;have o1:=HM.out.own.kept (grownBy_belowR (r:=none) hb1) (Or.inr (by simp [Value.ownBlock]));have HO1:Hid (w1.ownsRow G 47 3 (.slice (some ⟨G,0,none⟩) n n) n xs):=o1;have f0:=o1.frozenAt (k * 3);obtain ⟨y0,g0⟩:=own_someR o1 (k * 3) (by omega);have f1:=o1.frozenAt (k * 3+1);obtain ⟨y1,g1⟩:=own_someR o1 (k * 3+1) (by omega);have f2:=o1.frozenAt (k * 3+2);obtain ⟨y2,g2⟩:=own_someR o1 (k * 3+2) (by omega);clear o1 hb1 hx1 hnd hrg))
      have sd:=stored3 HO1.out (k * 3) (.string st) (.slice p1 n1 q1) (.slice p2 n2 q2)
      have hlen:xs.length=n * 3:=HO1.out.1
      exact ⟨⟨k+1,_,_,by omega,by go_num,Made.step (O:=fun w=>OMd w d) (c:=3) (fun w w' cs x f h hk=>h.keep hk) HM.out hxk HB1.out HX1.out HND.out HRG.out rfl sd.1 sd.2 (fun m hm=>set3_other hm) (fun j hj=>set3_self (by omega) j hj)⟩,by simp [intOf];omega⟩
    · obtain rfl:k=n:=by omega
      obtain ⟨fp,r1,r2,r3⟩:=HM.out.done HN.out (by unfold maxLen;omega)
      have R1:Hid (ORows wr 47 3 (OMd wr d) (.slice (some ⟨G,0,none⟩) k k) es fp):=r1
      have R2:Hid (fp.Nodup∧∀ a ∈ fp,G≤a∧a<wr.heap.size):=⟨r2,r3⟩
      clear r1 r2 r3
      go_wp2
      go_ret
      exact ⟨_,fp,rfl,R1.out,R2.out.1,R2.out.2,HM.out.below⟩
theorem toModuleS_own (d:Nat):ToO 6 (fun w v es=>Rows w All 3 (HMd w All d) v es) (fun w v es fp=>ORows w 47 3 (OMd w d) v es fp) (wtS (wtMd d)):=toModuleS_ofO (toModule_own d)
theorem oms_tree {w:World} {d:Nat} {v:Value} {es:List Md} {fp:List Nat} (h:ORows w 47 3 (OMd w d) v es fp):Rows w All 3 (HMd w All d) v es :=
  h.rows (fun _ _=>trivial) (fun cs x f _ hs h=>h.tree (fun _ _=>trivial))
theorem oms_keep {w w':World} {d:Nat} {v:Value} {es:List Md} {fp:List Nat} (h:ORows w 47 3 (OMd w d) v es fp) (hk:KeepOn fp w w'):ORows w' 47 3 (OMd w' d) v es fp :=
  h.keep hk (fun cs x f _ hs h=>h.keep (hk.sub hs))
theorem oms_lt {w:World} {d:Nat} {v:Value} {es:List Md} {fp:List Nat} (h:ORows w 47 3 (OMd w d) v es fp):∀ a ∈ fp,a<w.heap.size :=
  h.lt (fun cs x f h=>h.lt)
end Go.Proofs.YtefpgpbbgclemaaGreatDoor
