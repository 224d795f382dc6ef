/-
  ReachMeet ReachOn
-/
import Derived.Test.YtonpgdfpgpepiaaGreatDoorP42
set_option maxHeartbeats 16000000
set_option linter.unusedVariables false
set_option maxRecDepth 100000
namespace Go.Proofs.YtonpgdfpgpepiaaGreatDoor
open Go.ChangeShapes Go.WideShapes Go.ChangeAt Go.RowKit
structure FrM (B s gm:Nat) (w w':World):Prop where
  os:w'.os=w.os
  tape:w'.tape=w.tape
  output:w'.output=w.output
  size:w.heap.size≤w'.heap.size
  oth:∀ (b:Nat) (o:Obj),w.heap[b]?=some o→b≠s→b≠gm→(b<B∨∀ cs t fr,o=.cells cs t fr→t≠3)→w'.heap[b]?=some o
theorem FrM.refl (B s gm:Nat) (w:World):FrM B s gm w w:=⟨rfl,rfl,rfl,Nat.le_refl _,fun _ _ h _ _ _=>h⟩
theorem FrM.trans {B s gm:Nat} {a b c:World} (h:FrM B s gm a b) (k:FrM B s gm b c):FrM B s gm a c :=
  ⟨k.os.trans h.os,k.tape.trans h.tape,k.output.trans h.output,Nat.le_trans h.size k.size,fun g o hg hn hm ho=>k.oth g o (h.oth g o hg hn hm ho) hn hm ho⟩
theorem FrM.of_below {B s gm:Nat} {w w':World} (h:Below w.heap.size w w'):FrM B s gm w w' :=
  ⟨h.os,h.tape,h.output,h.size,fun b o hb _ _ _=>(h.block b (Array.getElem?_eq_some_iff.1 hb).1).trans hb⟩
theorem FrM.of_frH {B s gm:Nat} {w w':World} (h:FrH B s w w'):FrM B s gm w w':=⟨h.os,h.tape,h.output,h.size,fun b o hb hn _ ho=>h.oth b o hb hn ho⟩
theorem FrM.of_set {B s gm j:Nat} {w:World} {v:Value}:FrM B s gm w (w.setCell ⟨gm,j,none⟩ v) :=
  ⟨rfl,rfl,rfl,by simp,fun b o hb _ hm _=>(Below.heap_setCell _ _ _ _ hm).trans hb⟩
theorem FrM.below {B s gm b0:Nat} {w w':World} (h:FrM B s gm w w') (h1:b0≤B) (h2:b0≤s) (h3:b0≤gm) (h4:b0≤w.heap.size):Below b0 w w' :=
  ⟨h.os,h.tape,h.output,h.size,fun b hb=>by
    have hl:b<w.heap.size:=by omega
    rw [h.oth b _ (Array.getElem?_eq_getElem hl) (by omega) (by omega) (.inl (by omega)),Array.getElem?_eq_getElem hl]⟩
theorem FrM.blk {B s gm b:Nat} {w w':World} {cs:Array Value} {t:TypeId} (h:FrM B s gm w w') (hb:Blk w b cs t) (hn:b≠s) (hm:b≠gm) (ht:t≠3):Blk w' b cs t:=h.oth b _ hb hn hm (.inr (fun cs t fr e=>by cases e;exact ht))
theorem FrM.owns {s gm B c n:Nat} {w w':World} {e:TypeId} {v:Value} {xs cs1 cs2:List Value} {a1 a2:Array Value} {t1 t2:TypeId} (h:FrM w.heap.size s gm w w') (hs:Blk w s a1 t1) (hm:Blk w gm a2 t2) (h1:t1≠e) (h2:t2≠e) (k:w.ownsRow B e c v n xs):w'.ownsRow B e c v n xs:=by
  refine ⟨k.1,?_⟩
  rcases k.2 with hn | ⟨g,cap,cur,hv,hB,hh,hr⟩
  · exact .inl hn
  · refine .inr ⟨g,cap,cur,hv,hB,h.oth g _ hh (fun e1=>?_) (fun e1=>?_) (.inl (Array.getElem?_eq_some_iff.1 hh).1),hr⟩
    · subst e1
      rw [show w.heap[g]?=_ from hs] at hh
      cases hh
      exact h1 rfl
    · subst e1
      rw [show w.heap[g]?=_ from hm] at hh
      cases hh
      exact h2 rfl
structure Se (w:World) (B s gm nn:Nat) (nv cv:Value) (met:List Bool) (L:List Nat):Prop where
  hp:Hp w B s (nv,cv,.slice (some ⟨gm,0,none⟩) nn nn) L
  mb:Blk w gm (met.map Value.bool).toArray 4
  lt:gm<B
  len:met.length=nn
theorem Se.next {w w':World} {B s gm nn:Nat} {nv cv:Value} {met:List Bool} {L:List Nat} (h:Se w B s gm nn nv cv met L) (hb:Below w.heap.size w w'):Se w' B s gm nn nv cv met L:=⟨h.hp.next hb,h.mb.next hb,h.lt,h.len⟩
theorem Se.ne {w:World} {B s gm nn:Nat} {nv cv:Value} {met:List Bool} {L:List Nat} (h:Se w B s gm nn nv cv met L):gm≠s:=by
  obtain ⟨v,hb,_⟩:=h.hp
  exact h.mb.apartT hb (by decide)
theorem meet_any (w:World) (B s gm nn:Nat) (nv cv:Value) (met:List Bool) (L:List Nat) (h:Se w B s gm nn nv cv met L) (p:Nat) (hp:p<nn) (hl:L.length+1≤2097152) :
    Calls Tryz.prog 43 #[.pointer (some ⟨s,0,none⟩),.int .i64 (p:Int)] w fun e w'=>e=.returned (.tuple #[])∧∃ met' L',Met1 met L p met' L'∧Se w' B s gm nn nv cv met' L'∧FrM B s gm w w':=by
  have H:Hid (Se w B s gm nn nv cv met L):=h
  obtain ⟨b,hb⟩:∃ b,met[p]?=some b:=⟨_,List.getElem?_eq_getElem (by rw [h.len];exact hp)⟩
  obtain ⟨v,hbs,hov⟩:=h.hp
  have HS:Hid (Blk w s #[nv,cv,.slice (some ⟨gm,0,none⟩) nn nn,v] 114):=hbs
  have HO:Hid (OwnI w B v L):=hov
  have HB:Hid (met[p]?=some b):=hb
  have c2:=hbs.cell 2 _ rfl
  have cm:w.cell? ⟨gm,p,none⟩=some (.bool b):=h.mb.cell p _ (by simp [hb])
  have fm:=h.mb.frozen p
  have hpi:(p:Int)<(nn:Int):=by omega
  have hp0:(0:Int)≤(p:Int):=by omega
  clear hb hbs hov h
  go_enter Tryz.func43,Tryz.ntmps43
  cases b with
  | true =>
    go_wp2_with fail
    go_end0
    exact ⟨rfl,met,L,.inl ⟨HB.out,rfl,rfl⟩,H.out,FrM.refl _ _ _ _⟩
  | false =>
    have hne:=H.out.ne
    have HS2:Hid (Hp (w.setCell ⟨gm,p,none⟩ (.bool true)) B s (nv,cv,.slice (some ⟨gm,0,none⟩) nn nn) L):=⟨v,HS.out.other (Ne.symm hne),HO.out.setO H.out.mb (by decide)⟩
    have HM2:Hid (Blk (w.setCell ⟨gm,p,none⟩ (.bool true)) gm ((met.set p true).map Value.bool).toArray 4):=H.out.mb.same (by simp [List.map_set])
    have PU:Hid (Calls Tryz.prog 69 #[.iface 117 (.pointer (some ⟨s,3,none⟩)),.iface 3 (.int .i64 (p:Int))] (w.setCell ⟨gm,p,none⟩ (.bool true)) fun e w'=>e=.returned (.tuple #[])∧∃ L',L'.Perm (L ++ [p])∧Hp w' B s (nv,cv,.slice (some ⟨gm,0,none⟩) nn nn) L'∧FrH B s (w.setCell ⟨gm,p,none⟩ (.bool true)) w'):=heapPush_any _ B s _ L HS2.out p hl
    go_wp2_with fail
    refine PU.out.mono ?_
    rintro e w2 ⟨rfl,L2,p2,h2,f2⟩
    have FIN:Hid (∃ met' L',Met1 met L p met' L'∧Se w2 B s gm nn nv cv met' L'∧FrM B s gm w w2) :=
      ⟨met.set p true,L2,.inr ⟨HB.out,rfl,p2⟩,⟨h2,f2.blk HM2.out hne (by decide),H.out.lt,by rw [List.length_set];exact H.out.len⟩,FrM.of_set.trans (FrM.of_frH f2)⟩
    clear p2 h2 f2
    go_wp2_with fail
    go_end0
    exact ⟨rfl,FIN.out⟩
structure Sx (w0 w:World) (s gc gm nn:Nat) (nv:Value) (met:List Bool) (L:List Nat):Prop where
  se:Se w w0.heap.size s gm nn nv (.slice (some ⟨gc,0,none⟩) nn nn) met L
  fr:FrM w0.heap.size s gm w0 w
theorem Sx.next {w0 w w':World} {s gc gm nn:Nat} {nv:Value} {met:List Bool} {L:List Nat} (h:Sx w0 w s gc gm nn nv met L) (hb:Below w.heap.size w w'):Sx w0 w' s gc gm nn nv met L :=
  ⟨h.se.next hb,h.fr.trans (FrM.of_below hb)⟩
theorem Sx.pop {w0 w w':World} {s gc gm nn:Nat} {nv:Value} {met:List Bool} {L L':List Nat} (h:Sx w0 w s gc gm nn nv met L)
    (hp:Hp w' w0.heap.size s (nv,.slice (some ⟨gc,0,none⟩) nn nn,.slice (some ⟨gm,0,none⟩) nn nn) L') (hf:FrH w0.heap.size s w w'):Sx w0 w' s gc gm nn nv met L' :=
  ⟨⟨hp,hf.blk h.se.mb h.se.ne (by decide),h.se.lt,h.se.len⟩,h.fr.trans (FrM.of_frH hf)⟩
theorem Sx.meet {w0 w w':World} {s gc gm nn:Nat} {nv:Value} {met met':List Bool} {L L':List Nat} (h:Sx w0 w s gc gm nn nv met L)
    (hp:Se w' w0.heap.size s gm nn nv (.slice (some ⟨gc,0,none⟩) nn nn) met' L') (hf:FrM w0.heap.size s gm w w'):Sx w0 w' s gc gm nn nv met' L' :=
  ⟨hp,h.fr.trans hf⟩
theorem MetI.perm {n:Nat} {R:Nat→Prop} {met:List Bool} {W W':List Nat} {x:Nat} (h:MetI n R met W) (hp:W.Perm (x :: W')):MetI n R met W' :=
  ⟨h.len,fun p hp'=>h.wait p (hp.mem_iff.2 (List.mem_cons_of_mem _ hp')),h.sound,by have:=h.cnt;rw [hp.length_eq,List.length_cons] at this;omega⟩
theorem goOn_any (w0:World) (s gc gm nn:Nat) (nv:Value) (N X:List ByteArray) (E:List Edge) (cl:List (List Nat)) (met:List Bool) (L:List Nat) {a1 a2:Array Value} (h0s:Blk w0 s a1 114) (h0m:Blk w0 gm a2 4) {us:List Value} (h0c:CalU w0 0 gc us cl)
    (hca:CalOf N E cl) (hn:N.length=nn) (hnb:nn≤1048576) (hE:E.length≤1048576) (w:World) (h:Sx w0 w s gc gm nn nv met L) (hi:MetI nn (fun p=>∃ y,N[p]?=some y∧Rch E X y) met L) (hw:∀ p:Nat,met[p]?=some true→p ∈ L) :
    Calls Tryz.prog 45 #[.pointer (some ⟨s,0,none⟩)] w fun e w'=>e=.returned (.tuple #[])∧∃ met',Sx w0 w' s gc gm nn nv met' []∧MetI nn (fun p=>∃ y,N[p]?=some y∧Rch E X y) met' []∧(∀ p:Nat,met[p]?=some true→met'[p]?=some true)∧∃ p0 j0,ShutI cl met' [] p0 j0∧∀ r,cl[p0]?=some r→r.length≤j0:=by
  have H0S:Hid (Blk w0 s a1 114):=h0s
  have H0M:Hid (Blk w0 gm a2 4):=h0m
  have H0C:Hid (CalU w0 0 gc us cl):=h0c
  have HCA:Hid (CalOf N E cl):=hca
  have HN:Hid (N.length=nn):=hn
  have HI:Hid (MetI nn (fun p=>∃ y,N[p]?=some y∧Rch E X y) met L):=hi
  have HX:Hid (Sx w0 w s gc gm nn nv met L):=h
  have HSH:Hid (ShutI cl met L nn 0):=ShutI.start hw nn
  have HD0:Hid (∀ r,cl[nn]?=some r→r.length≤0):=fun r hr=>by
    have h1:=(List.getElem?_eq_some_iff.1 hr).1
    rw [hca.len,hn] at h1
    omega
  have HEB:Hid (E.length≤1048576):=hE
  have CNT:Hid (∀ m:List Bool,m.length=nn→m.count true≤nn):=fun m hm=>by rw [← hm];exact List.count_le_length
  clear h0s h0m h0c hca hn hi h hw hE
  go_enter Tryz.func45,Tryz.ntmps45
  go_wp2_with fail
  go_loopg [2] (msr met L) (fun g s2 wr=>∃ (m1:List Bool) (L1:List Nat) (p0 j0:Nat),msr m1 L1≤g∧Hid (Sx w0 wr s gc gm nn nv m1 L1)∧Hid (MetI nn (fun p=>∃ y,N[p]?=some y∧Rch E X y) m1 L1)∧Hid (ShutI cl m1 L1 p0 j0)∧Hid (∀ r,cl[p0]?=some r→r.length≤j0)∧Hid (∀ p:Nat,met[p]?=some true→m1[p]?=some true))
  case atStart=>exact ⟨met,L,nn,0,Nat.le_refl _,HX,HI,HSH,HD0,fun p hp=>hp⟩
  case round =>
    obtain ⟨m1,L1,p0,j0,hg,hx,hmi,hsh,hdn,hkp⟩:=hrel
    obtain ⟨v,hbs,hov⟩:=hx.out.se.hp
    obtain ⟨pv,qv,rfl,-⟩:=hov.slice
    have c3:=hbs.cell 3 _ rfl
    have hL1:L1.length≤1048576:=Nat.le_trans (Nat.le_trans hmi.out.cnt (CNT.out _ hmi.out.len)) hnb
    clear HX HI HSH
    by_cases hle:L1 = []
    · subst hle
      simp only [List.length_nil] at c3
      clear hbs hov
      go_wp2_with (go_at_call 71;refine (len_any _ _ _ _).mono ?_;rintro e w' ⟨rfl,hw⟩;obtain rfl:=hw.symm)
      go_end0
      exact ⟨rfl,m1,hx.out,hmi.out,hkp.out,p0,j0,hsh.out,hdn.out⟩
    · have hlen:0<L1.length:=List.length_pos_iff.2 hle
      have PO:Hid (Calls Tryz.prog 72 #[.iface 117 (.pointer (some ⟨s,3,none⟩))] wr fun e w'=>∃ (x:Nat) (L':List Nat),e=.returned (.iface 3 (.int .i64 (x:Int)))∧L1.Perm (x :: L')∧Hp w' w0.heap.size s (nv,.slice (some ⟨gc,0,none⟩) nn nn,.slice (some ⟨gm,0,none⟩) nn nn) L'∧FrH w0.heap.size s wr w'):=heapPop_any wr w0.heap.size s _ L1 hx.out.se.hp hle (by omega)
      have hli:(0:Int)<(L1.length:Int):=by omega
      generalize hln:L1.length=ln at *
      clear hbs hov hle
      go_wp2_with (go_at_call 71;refine (len_any _ _ _ _).mono ?_;rintro e w' ⟨rfl,hw⟩;obtain rfl:=hw.symm)
      refine PO.out.mono ?_
      rintro e w2 ⟨x,L2,rfl,hpm,hp2,hf2⟩
      have X2:Hid (Sx w0 w2 s gc gm nn nv m1 L2):=hx.out.pop hp2 hf2
      have I2:Hid (MetI nn (fun p=>∃ y,N[p]?=some y∧Rch E X y) m1 L2):=hmi.out.perm hpm
      have SH2:Hid (ShutI cl m1 L2 x 0):=hsh.out.pop hdn.out hpm
      have hxm:m1[x]?=some true:=hmi.out.wait x (hpm.mem_iff.2 List.mem_cons_self)
      have hms:msr m1 L2+1=msr m1 L1:=by unfold msr;rw [hpm.length_eq,List.length_cons];omega
      have RX:Hid (∃ y,N[x]?=some y∧Rch E X y):=hmi.out.sound x hxm
      have hxn:x<nn:=by rw [← hmi.out.len];exact (List.getElem?_eq_some_iff.1 hxm).1
      obtain ⟨r,hr⟩:∃ r,cl[x]?=some r:=⟨_,List.getElem?_eq_getElem (by rw [HCA.out.len,HN.out];exact hxn)⟩
      have HR:Hid (cl[x]?=some r):=hr
      obtain ⟨u,hu,hur⟩:=H0C.out.row x r hr
      obtain ⟨pu,qu,rfl,-⟩:=hur.slice
      have HU0:Hid (OwnI w0 0 (.slice pu r.length qu) r):=hur
      have HU2:Hid (us[x]?=some (.slice pu r.length qu)):=hu
      have cu:w2.cell? ⟨gc,x,none⟩=some (.slice pu r.length qu):=(X2.out.fr.blk H0C.out.blk (H0C.out.blk.apartT H0S.out (by decide)) (H0C.out.blk.apartT H0M.out (by decide)) (by decide)).cell x _ (by simpa using hu)
      obtain ⟨v2,hbs2,-⟩:=X2.out.se.hp
      have c1:=hbs2.cell 1 _ rfl
      obtain ⟨y,hy1,hy2⟩:=RX.out
      have hrl:r.length≤1048576:=Nat.le_trans (HCA.out.row x y r hy1 hr).1 HEB.out
      have hxi:(x:Int)<(nn:Int):=by omega
      have hx0:(0:Int)≤(x:Int):=by omega
      have RQ:Hid (∀ q ∈ r,q<nn∧∃ z,N[q]?=some z∧Rch E X z):=fun q hq=>by
        obtain ⟨e',he1,he2,he3⟩:=(HCA.out.row x y r hy1 hr).2.1 q hq
        exact ⟨by rw [← HN.out];exact (List.getElem?_eq_some_iff.1 he3).1,e'.2,he3,Rch.step (by rw [he2];exact hy2) he1⟩
      have ta:∀ w',(Instr.typeAssert (.iface 3 (.int .i64 (x:Int))) 20 3 false).run Tryz.prog w'=.ok (.int .i64 (x:Int)) w':=fun w'=>ta_int _ _
      generalize hrn:r.length=rn at *
      have HRN:Hid (r.length=rn):=hrn
      clear hpm hp2 hf2 hx hmi hsh hdn hr hu hur hbs2 hy1 hy2 hxm RX hrn c3 PO
      go_wp2_with fail
      go_loopw [4,25] (fun cv jv wx=>∃ (j:Nat) (m2:List Bool) (L3:List Nat),j≤rn∧jv=.int .i64 j∧msr m2 L3≤msr m1 L2∧Hid (Sx w0 wx s gc gm nn nv m2 L3)∧Hid (MetI nn (fun p=>∃ y,N[p]?=some y∧Rch E X y) m2 L3)∧Hid (ShutI cl m2 L3 x j)∧Hid (∀ p:Nat,m1[p]?=some true→m2[p]?=some true)) (fun _ jv _=>rn - (intOf jv).toNat)
      case atStart=>exact ⟨0,m1,L2,Nat.zero_le _,rfl,Nat.le_refl _,X2,I2,SH2,fun p hp=>hp⟩
      case round =>
        obtain ⟨j,m2,L3,hj,rfl,hm2,hx3,hi3,hs3,hk3⟩:=hrel
        clear X2 I2 SH2 c1 cu ta
        by_cases hlt:j<rn
        · obtain ⟨q,hq⟩:∃ q,r[j]?=some q:=⟨r[j]'(by rw [HRN.out];exact hlt),List.getElem?_eq_getElem _⟩
          have hro:OwnI wr 0 (.slice pu rn qu) r:=⟨hx3.out.fr.owns H0S.out H0M.out (cs1:=[]) (cs2:=[]) (by decide) (by decide) HU0.out.1,Nat.zero_le _⟩
          obtain ⟨gr,rfl,cq⟩:=hro.at hq
          have hji:(j:Int)<(rn:Int):=by omega
          have hqr:=RQ.out q (List.mem_of_getElem? hq)
          have hL3:L3.length≤1048576:=Nat.le_trans (Nat.le_trans hi3.out.cnt (CNT.out _ hi3.out.len)) hnb
          have ME:Hid (Calls Tryz.prog 43 #[.pointer (some ⟨s,0,none⟩),.int .i64 (q:Int)] wr fun e w'=>e=.returned (.tuple #[])∧∃ met' L',Met1 m2 L3 q met' L'∧Se w' w0.heap.size s gm nn nv (.slice (some ⟨gc,0,none⟩) nn nn) met' L'∧FrM w0.heap.size s gm wr w'):=meet_any wr w0.heap.size s gm nn nv _ m2 L3 hx3.out.se q hqr.1 (by omega)
          have HQ:Hid (r[j]?=some q):=hq
          have HQR:Hid (∃ z,N[q]?=some z∧Rch E X z):=hqr.2
          clear hro hq hqr
          go_wp2_with fail
          refine ME.out.mono ?_
          rintro e w5 ⟨rfl,m5,L5,h1,h2,h3⟩
          have X5:Hid (Sx w0 w5 s gc gm nn nv m5 L5):=hx3.out.meet h2 h3
          have I5:Hid (MetI nn (fun p=>∃ y,N[p]?=some y∧Rch E X y) m5 L5):=h1.inv hi3.out HQR.out
          have S5:Hid (ShutI cl m5 L5 x (j+1)):=hs3.out.meet h1 HR.out HQ.out
          have M5:Hid (∀ p:Nat,m1[p]?=some true→m5[p]?=some true):=fun p hp=>h1.keep (hk3.out p hp)
          have hm5:msr m5 L5≤msr m1 L2:=Nat.le_trans h1.msr hm2
          clear h1 h2 h3 cq
          go_wp2_with fail
          exact ⟨⟨j+1,m5,L5,by omega,by go_num,hm5,X5,I5,S5,M5⟩,by simp [intOf];omega⟩
        · have KK:Hid (∀ p:Nat,met[p]?=some true→m2[p]?=some true):=fun p hp=>hk3.out p (hkp.out p hp)
          have DD:Hid (∀ r',cl[x]?=some r'→r'.length≤j):=fun r' hr'=>by
            rw [HR.out] at hr'
            obtain rfl:=Option.some.inj hr'
            rw [HRN.out];omega
          go_wp2_with fail
          go_roundg (msr m2 L3)
          case measure=>omega
          case rel=>exact ⟨m2,L3,x,j,Nat.le_refl _,hx3,hi3,hs3,DD,KK⟩
end Go.Proofs.YtonpgdfpgpepiaaGreatDoor
