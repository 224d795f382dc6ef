/-
  GraphWalk
-/
import Derived.Test.YtkkabbfdjhcfcaaGreatDoorP51
import Derived.Test.YtkkabbfdjhcfcaaGreatDoorP08
import Derived.Test.YtkkabbfdjhcfcaaGreatDoorP27
import Derived.Test.YtkkabbfdjhcfcaaGreatDoorP50
set_option maxHeartbeats 16000000
set_option linter.unusedVariables false
set_option maxRecDepth 100000
namespace Go.Proofs.YtkkabbfdjhcfcaaGreatDoor
open Go.ChangeShapes Go.WideShapes Go.ChangeAt Go.RowKit
theorem compactE_len:∀ l:List Edge,(compactE l).length≤l.length
  | []=>Nat.le_refl _
  | [x]=>Nat.le_refl _
  | x :: y :: l=>by
    have ih:=compactE_len (y :: l)
    unfold compactE
    split
    · simp only [List.length_cons] at ih ⊢;omega
    · simp only [List.length_cons] at ih ⊢;omega
theorem graphL_len (d:Nat) (ms:List Md) (h:wtS (wtMd d) ms≤1048576):(graphL d ms).length≤1048576:=by
  unfold graphL
  split
  · rename_i hg
    have hpg:pgOk d ms=true:=by unfold goodB at hg;simp only [Bool.and_eq_true] at hg;exact hg.1
    rw [← graph_same hpg]
    have h1:=compactE_len (sortE (edgesOf nmT d ms))
    rw [(sortE_perm _).length_eq,edges_pairs] at h1
    have h2:=edK_len d (pairL ms)
    have h3:=pre_sum d ms
    rw [edges_pairs]
    omega
  · simp
def OwnX (w:World) (B C:Nat) (v:Value) (n:Nat) (cs:List Value):Prop:=w.ownsRow B 51 2 v n cs∧B≤w.heap.size∧∀ g,v.ownBlock=some g→B≤g∧g<C∧g<w.heap.size
theorem row_keep {w w':World} {B n:Nat} {v:Value} {xs:List Value} (h:w.ownsRow B 51 2 v n xs) (hk:∀ g,v.ownBlock=some g→w'.heap[g]?=w.heap[g]?):w'.ownsRow B 51 2 v n xs:=by
  refine ⟨h.1,?_⟩
  rcases h.2 with hn | ⟨g,cap,cur,hv,hB,hg,hr⟩
  · exact .inl hn
  · exact .inr ⟨g,cap,cur,hv,hB,(hk g (by rw [hv];rfl)).trans hg,hr⟩
theorem row_block {w:World} {B n:Nat} {v:Value} {xs:List Value} (h:w.ownsRow B 51 2 v n xs) (g:Nat) (hv:v.ownBlock=some g):B≤g∧g<w.heap.size:=by
  rcases h.2 with ⟨rfl,hn⟩ | ⟨g',cap,cur,rfl,hB,hg,hr⟩
  · simp [Value.ownBlock] at hv
  · have e:g'=g:=by simpa [Value.ownBlock] using hv
    subst e
    exact ⟨hB,(Array.getElem?_eq_some_iff.1 hg).1⟩
theorem OwnX.of {w:World} {B:Nat} {v:Value} {l:List Edge} (h:OwnE w B v l):OwnX w B w.heap.size v l.length (edC l) :=
  ⟨h.raw.1,h.raw.2,fun g hg=>⟨(row_block h.raw.1 g hg).1,(row_block h.raw.1 g hg).2,(row_block h.raw.1 g hg).2⟩⟩
theorem OwnX.own {w:World} {B C:Nat} {v:Value} {l:List Edge} (h:OwnX w B C v l.length (edC l)):OwnE w B v l:=OwnE.ofRaw h.1 h.2.1
theorem OwnX.next {w w':World} {B C n:Nat} {v:Value} {cs:List Value} (h:OwnX w B C v n cs) (hb:Below w.heap.size w w'):OwnX w' B C v n cs :=
  ⟨owns_next h.1 hb,Nat.le_trans h.2.1 hb.size,fun g hg=>⟨(h.2.2 g hg).1,(h.2.2 g hg).2.1,Nat.lt_of_lt_of_le (h.2.2 g hg).2.2 hb.size⟩⟩
theorem OwnX.offR {w w':World} {B C B' C' n:Nat} {v:Value} {cs:List Value} (h:OwnX w B C v n cs) (ho:OffR B' C' w w') (hd:C≤B'∨C'≤B):OwnX w' B C v n cs :=
  ⟨row_keep h.1 (fun g hg=>ho.block g (h.2.2 g hg).2.2 (by have:=h.2.2 g hg;omega)),Nat.le_trans h.2.1 ho.size,fun g hg=>⟨(h.2.2 g hg).1,(h.2.2 g hg).2.1,Nat.lt_of_lt_of_le (h.2.2 g hg).2.2 ho.size⟩⟩
theorem eqX_own {w:World} {B1 B2 C1 C2:Nat} {u1 u2:Value} {l:List Edge} (h1:OwnX w B1 C1 u1 l.length (edC l)) (h2:OwnX w B2 C2 u2 l.length (edC l)) (hl:l.length≤1048576) :
    Calls Tryz.prog 8 #[u1,u2] w fun e w'=>e=.returned (.bool true)∧Below w.heap.size w w':=eqEd_own h1.own h2.own hl
theorem markA2S_nil (a1:Option Addr) (c1:Nat) (k:Int) (w:World) :
    Calls Tryz.prog 11 #[.slice a1 0 c1,.int .i64 k] w fun e w'=>e=.returned (.int .i64 k)∧w'=w:=by
  go_enter Tryz.func11,Tryz.ntmps11
  go_wp2
  go_loop [1,5] (fun kv i=>i=.int .i64 0∧kv=.int .i64 k) (fun _ _=>0)
  case atStart=>exact ⟨rfl,rfl⟩
  case round =>
    obtain ⟨rfl,rfl⟩:=hrel
    go_wp2
    go_ret
    exact ⟨rfl,rfl⟩
theorem heldA2S_nil (a1:Option Addr) (c1:Nat) (k:Int) (w:World) :
    Calls Tryz.prog 12 #[.slice a1 0 c1,.int .i64 k] w fun e w'=>e=.returned (.int .i64 k)∧w'=w:=by
  go_enter Tryz.func12,Tryz.ntmps12
  go_wp2
  go_loop [1,5] (fun kv i=>i=.int .i64 0∧kv=.int .i64 k) (fun _ _=>0)
  case atStart=>exact ⟨rfl,rfl⟩
  case round =>
    obtain ⟨rfl,rfl⟩:=hrel
    go_wp2
    go_ret
    exact ⟨rfl,rfl⟩
theorem markX_own {w:World} {B C n:Nat} {u:Value} {xs:List Value} (h:OwnX w B C u n xs) (hn:n≤1048576) :
    Calls Tryz.prog 11 #[u,.int .i64 1] w fun e w'=>e=.returned (.int .i64 ((1+n * 2:Nat):Int))∧OwnX w' B C u n (edMks (n * 2) xs)∧OffR B C w w':=by
  obtain ⟨p,q,rfl,-⟩:=owns_slice h.1
  by_cases h0:n=0
  · subst h0
    refine (markA2S_nil p q 1 w).mono fun e w' ⟨he,hk⟩=>⟨he,?_,?_⟩
    · rw [hk,Nat.zero_mul,edMks_zero];exact h
    · rw [hk];exact ⟨rfl,rfl,rfl,Nat.le_refl _,fun _ _ _=>rfl⟩
  · obtain ⟨g,rfl⟩:=owns_some h.1 (by omega)
    have hg:=h.2.2 g rfl
    refine (markEd_own h.1 hn).mono fun e w' ⟨he,ho,hgr⟩=>⟨he,⟨ho,Nat.le_trans h.2.1 hgr.size,fun g' hg'=>?_⟩,⟨hgr.os,hgr.tape,hgr.output,hgr.size,fun a ha hd=>hgr.block a ha (by
      intro e2
      have e3:a=g:=by simpa using e2
      omega)⟩⟩
    have h2:=h.2.2 g' hg'
    exact ⟨h2.1,h2.2.1,Nat.lt_of_lt_of_le h2.2.2 hgr.size⟩
theorem heldX_own {w:World} {B C n:Nat} {u:Value} {xs:List Value} (h:OwnX w B C u n (edMks (n * 2) xs)) (hx:xs.length=n * 2) (hn:n≤1048576) :
    Calls Tryz.prog 12 #[u,.int .i64 1] w fun e w'=>e=.returned (.int .i64 ((1+n * 2:Nat):Int))∧Below w.heap.size w w':=by
  by_cases h0:n=0
  · obtain ⟨p,q,rfl,-⟩:=owns_slice h.1
    subst h0
    exact (heldA2S_nil p q 1 w).mono fun e w' ⟨he,hk⟩=>⟨he,by rw [hk];exact Below.refl _ _⟩
  · have h1:=h.1
    rcases h1.2 with ⟨rfl,hn0⟩ | ⟨g,cap,cur,rfl,hB,hg,hc,hr⟩
    · omega
    · refine heldEd_own (fun t ht=>?_) hn hc
      rw [h1.cellAt t (by omega)]
      have e:edMks (n * 2) xs=(List.range (n * 2)).map fun i=>edMk (1+i):=by rw [← hx];exact edMks_all xs
      rw [e,List.getElem?_map,List.getElem?_range ht]
      rfl
theorem fnExactGraph_walk (w:World) (d:Nat) (v:Value) (ms:List Md) (h:Rows w (fun g=>g<w.heap.size) 3 (HMd w (fun g=>g<w.heap.size) d) v ms) (hT:Tabs w) (hp:PowAt w) :
    Calls Tryz.prog 3 #[v] w fun e w'=>e=.returned (.bool true)∧Below w.heap.size w w':=by
  have HTAB:Hid (Tabs w):=hT
  have HPOW:Hid (PowAt w):=hp
  have Z:Hid (Rows w (fun g=>g<w.heap.size) 3 (HMd w (fun g=>g<w.heap.size) d) v ms):=h
  have H:Hid (∀ w',Below w.heap.size w w'→Rows w' All 3 (HMd w' All d) v ms):=fun w' hw=>h.mono (SameOn.of_below hw) (fun _ _=>trivial) (fun _ _ _ h=>h.mono (SameOn.of_below hw) (fun _ _=>trivial))
  obtain ⟨p,cap,rfl,-⟩:=h
  generalize hx:wtS (wtMd d) ms=x at *
  have HX:Hid (wtS (wtMd d) ms=x):=hx
  generalize hr0:leftOf 1048576 x=r at *
  have SZ:Hid (Calls Tryz.prog 4 #[.slice p ms.length cap,.int .i64 1048576] w fun e w'=>e=.returned (.int .i64 r)∧Below w.heap.size w w'):=by
    have:=(szModuleS_all (N:=w.heap.size) d).at ms (1048576:Int) 1048576 rfl Z.out (Nat.le_refl _)
    rw [HX.out,hr0] at this
    exact this
  by_cases hw:1048576<x
  · have hr:r = -1:=by rw [← hr0];exact leftOf_lt hw
    subst hr
    go_enter Tryz.func3,Tryz.ntmps3
    go_wp2_with fail
    refine SZ.out.mono ?_
    rintro e w1 ⟨rfl,hb⟩
    have B1:Hid (Below w.heap.size w w1):=hb
    clear hb
    go_wp2_with fail
    go_ret
    exact ⟨rfl,B1.out⟩
  · obtain ⟨q,rfl⟩:∃ q:Nat,r=(q:Int):=⟨1048576 - x,by rw [← hr0];exact leftOf_ge (by omega)⟩
    have HW:Hid (wtS (wtMd d) ms≤1048576):=by show _≤_;rw [HX.out];omega
    have TO:Hid (∀ w',Below w.heap.size w w'→Calls Tryz.prog 6 #[.slice p ms.length cap] w' fun e w''=>∃ pu cu fp,e=.returned (.slice pu ms.length cu)∧ORows w'' 44 3 (OMd w'' d) (.slice pu ms.length cu) ms fp∧fp.Nodup∧(∀ a ∈ fp,w'.heap.size≤a∧a<w''.heap.size)∧Below w'.heap.size w' w''):=fun w' hw=>by
      refine (toModuleS_own d w' _ ms (H.out w' hw) HW.out).mono ?_
      rintro e w'' ⟨u,fp,rfl,ho,hn,hr,hb⟩
      obtain ⟨pu,cu,rfl,-⟩:=ho.shape
      exact ⟨pu,cu,fp,rfl,ho,hn,hr,hb⟩
    have HCN:Hid (1+(ms.map (cntMS d)).sum≤1099511627776):=by
      show _≤_
      have:=cntMS_le d ms
      have:=HW.out
      omega
    have hl:Hid ((graphL d ms).length≤1048576):=graphL_len d ms HW.out
    have SP:Hid (∀ w' v,Rows w' All 3 (HMd w' All d) v ms→Calls Tryz.prog 5 #[v] w' fun e w''=>∃ u,e=.returned u∧OwnX w'' w'.heap.size w''.heap.size u (graphL d ms).length (edC (graphL d ms))∧Below w'.heap.size w' w''):=fun w' v hr=>by
      refine (specGraph_any d w' v ms hr HW.out).mono ?_
      rintro e w'' ⟨u,rfl,ho,hb⟩
      exact ⟨u,rfl,OwnX.of ho,hb⟩
    have IM:Hid (∀ w' v,Below w.heap.size w w'→Rows w' All 3 (HMd w' All d) v ms→Calls Tryz.prog 7 #[v] w' fun e w''=>∃ u,e=.returned u∧OwnX w'' w'.heap.size w''.heap.size u (graphL d ms).length (edC (graphL d ms))∧Below w'.heap.size w' w''):=fun w' v hb hr=>by
      refine (implGraph_any d w' v ms (HTAB.out.below hb) (powAt_below HPOW.out hb) hr HW.out).mono ?_
      rintro e w'' ⟨u,rfl,ho,hb⟩
      exact ⟨u,rfl,OwnX.of ho,hb⟩
    clear hr0 hx hw
    have hq:¬ (q:Int)<0:=by omega
    generalize hn:ms.length=n at *
    generalize hLF:graphL d ms=LF at *
    clear hn hLF
    have HEC:Hid ((edC LF).length=LF.length * 2):=edC_len LF
    go_enter Tryz.func3,Tryz.ntmps3
    go_wp2_with fail
    refine SZ.out.mono ?_
    rintro e w1 ⟨rfl,hb⟩
    have B1:Hid (Below w.heap.size w w1):=hb
    clear hb
    go_wp2_with fail
    refine (TO.out _ (by first | exact B1.out | exact B1.out.drew)).mono ?_
    rintro e w2 ⟨pa,ca,fpa,rfl,ho,hnd,hrg,hb⟩
    have OXa2:Hid (ORows w2 44 3 (OMd w2 d) (.slice pa n ca) ms fpa):=ho
    have RGa:Hid (fpa.Nodup∧∀ a ∈ fpa,w1.heap.size≤a∧a<w2.heap.size):=(by first | exact ⟨hnd,hrg⟩ | exact ⟨hnd,fun a ha=>hrg a ha⟩)
    have K2:Hid (Below w1.heap.size w1 w2):=(by first | exact hb | exact ⟨hb.os,hb.tape,hb.output,hb.size,hb.block⟩)
    have B2:Hid (Below w.heap.size w w2):=B1.out.trans (K2.out.mono B1.out.size)
    clear hb ho hnd hrg
    go_wp2_with fail
    refine (SP.out _ _ (oms_tree OXa2.out)).mono ?_
    rintro e w3 ⟨uw,rfl,ho,hb⟩
    have Ow3:Hid (OwnX w3 w2.heap.size w3.heap.size uw LF.length (edC LF)):=ho
    have K3:Hid (Below w2.heap.size w2 w3):=(by first | exact hb | exact ⟨hb.os,hb.tape,hb.output,hb.size,hb.block⟩)
    have B3:Hid (Below w.heap.size w w3):=B2.out.trans (K3.out.mono B2.out.size)
    clear hb ho
    go_wp2_with fail
    refine (TO.out _ (by first | exact B3.out | exact B3.out.drew)).mono ?_
    rintro e w4 ⟨pb,cb,fpb,rfl,ho,hnd,hrg,hb⟩
    have OXb4:Hid (ORows w4 44 3 (OMd w4 d) (.slice pb n cb) ms fpb):=ho
    have RGb:Hid (fpb.Nodup∧∀ a ∈ fpb,w3.heap.size≤a∧a<w4.heap.size):=(by first | exact ⟨hnd,hrg⟩ | exact ⟨hnd,fun a ha=>hrg a ha⟩)
    have K4:Hid (Below w3.heap.size w3 w4):=(by first | exact hb | exact ⟨hb.os,hb.tape,hb.output,hb.size,hb.block⟩)
    have B4:Hid (Below w.heap.size w w4):=B3.out.trans (K4.out.mono B3.out.size)
    clear hb ho hnd hrg
    have Ow4:Hid (OwnX w4 w2.heap.size w3.heap.size uw LF.length (edC LF)):=OwnX.next Ow3.out K4.out
    clear Ow3
    go_wp2_with fail
    refine (IM.out _ _ B4.out (oms_tree OXb4.out)).mono ?_
    rintro e w5 ⟨ug,rfl,ho,hb⟩
    have Og5:Hid (OwnX w5 w4.heap.size w5.heap.size ug LF.length (edC LF)):=ho
    have K5:Hid (Below w4.heap.size w4 w5):=(by first | exact hb | exact ⟨hb.os,hb.tape,hb.output,hb.size,hb.block⟩)
    have B5:Hid (Below w.heap.size w w5):=B4.out.trans (K5.out.mono B4.out.size)
    clear hb ho
    have Ow5:Hid (OwnX w5 w2.heap.size w3.heap.size uw LF.length (edC LF)):=OwnX.next Ow4.out K5.out
    have OXb5:Hid (ORows w5 44 3 (OMd w5 d) (.slice pb n cb) ms fpb):=oms_keep OXb4.out (KeepOn.below K5.out (fun a ha=>oms_lt OXb4.out a ha))
    clear Ow4 OXb4
    go_wp2_with fail
    refine (eqX_own Og5.out Ow5.out hl.out).mono ?_
    rintro e w6 ⟨rfl,hb⟩
    have K6:Hid (Below w5.heap.size w5 w6):=(by first | exact hb | exact ⟨hb.os,hb.tape,hb.output,hb.size,hb.block⟩)
    have B6:Hid (Below w.heap.size w w6):=B5.out.trans (K6.out.mono B5.out.size)
    clear hb
    have Ow6:Hid (OwnX w6 w2.heap.size w3.heap.size uw LF.length (edC LF)):=OwnX.next Ow5.out K6.out
    have Og6:Hid (OwnX w6 w4.heap.size w5.heap.size ug LF.length (edC LF)):=OwnX.next Og5.out K6.out
    have OXb6:Hid (ORows w6 44 3 (OMd w6 d) (.slice pb n cb) ms fpb):=oms_keep OXb5.out (KeepOn.below K6.out (fun a ha=>oms_lt OXb5.out a ha))
    clear Ow5 Og5 OXb5
    go_wp2_with fail
    refine (TO.out _ (by first | exact B6.out | exact B6.out.drew)).mono ?_
    rintro e w7 ⟨pc,cc,fpc,rfl,ho,hnd,hrg,hb⟩
    have OXc7:Hid (ORows w7 44 3 (OMd w7 d) (.slice pc n cc) ms fpc):=ho
    have RGc:Hid (fpc.Nodup∧∀ a ∈ fpc,w6.heap.size≤a∧a<w7.heap.size):=(by first | exact ⟨hnd,hrg⟩ | exact ⟨hnd,fun a ha=>hrg a ha⟩)
    have K7:Hid (Below w6.heap.size w6 w7):=(by first | exact hb | exact ⟨hb.os,hb.tape,hb.output,hb.size,hb.block⟩)
    have B7:Hid (Below w.heap.size w w7):=B6.out.trans (K7.out.mono B6.out.size)
    clear hb ho hnd hrg
    have Ow7:Hid (OwnX w7 w2.heap.size w3.heap.size uw LF.length (edC LF)):=OwnX.next Ow6.out K7.out
    have Og7:Hid (OwnX w7 w4.heap.size w5.heap.size ug LF.length (edC LF)):=OwnX.next Og6.out K7.out
    have OXb7:Hid (ORows w7 44 3 (OMd w7 d) (.slice pb n cb) ms fpb):=oms_keep OXb6.out (KeepOn.below K7.out (fun a ha=>oms_lt OXb6.out a ha))
    clear Ow6 Og6 OXb6
    go_wp2_with fail
    refine (eqModuleS_all d _ _ _ ms (oms_tree OXb7.out) (oms_tree OXc7.out)).mono ?_
    rintro e w8 ⟨rfl,hb⟩
    have K8:Hid (Below w7.heap.size w7 w8):=(by first | exact hb | exact ⟨hb.os,hb.tape,hb.output,hb.size,hb.block⟩)
    have B8:Hid (Below w.heap.size w w8):=B7.out.trans (K8.out.mono B7.out.size)
    clear hb
    have Ow8:Hid (OwnX w8 w2.heap.size w3.heap.size uw LF.length (edC LF)):=OwnX.next Ow7.out K8.out
    have Og8:Hid (OwnX w8 w4.heap.size w5.heap.size ug LF.length (edC LF)):=OwnX.next Og7.out K8.out
    have OXb8:Hid (ORows w8 44 3 (OMd w8 d) (.slice pb n cb) ms fpb):=oms_keep OXb7.out (KeepOn.below K8.out (fun a ha=>oms_lt OXb7.out a ha))
    clear Ow7 Og7 OXb7
    go_wp2_with fail
    refine (markMS_all d _ _ ms fpb 1 OXb8.out RGb.out.1 (Nat.le_refl _) HCN.out).mono ?_
    rintro e w9 ⟨rfl,-,off9⟩
    have S3:Hid (w.heap.size≤w3.heap.size):=B3.out.size
    have SZ89:Hid (w8.heap.size≤w9.heap.size):=off9.size
    have OR9:OffR w3.heap.size w4.heap.size w8 w9:=OffR.of off9 RGb.out.2
    have Ow9:Hid (OwnX w9 w2.heap.size w3.heap.size uw LF.length (edC LF)):=OwnX.offR Ow8.out OR9 (.inl (Nat.le_refl _))
    have Og9:Hid (OwnX w9 w4.heap.size w5.heap.size ug LF.length (edC LF)):=OwnX.offR Og8.out OR9 (.inr (Nat.le_refl _))
    have hb:Below w3.heap.size w8 w9:=OR9.below (Nat.le_refl _) (Nat.le_trans K4.out.size (Nat.le_trans K5.out.size (Nat.le_trans K6.out.size (Nat.le_trans K7.out.size K8.out.size))))
    have B9:Hid (Below w.heap.size w w9):=B8.out.trans (hb.mono S3.out)
    have hkz0:(0:Int)≤((1+(ms.map (cntMS d)).sum:Nat):Int):=by omega
    generalize ((1+(ms.map (cntMS d)).sum:Nat):Int)=kz at hkz0 ⊢
    have hkz:¬ kz<0:=by omega
    clear off9 OR9 hb OXb8 Ow8 Og8 hkz0
    go_wp2_with fail
    refine (eqX_own Og9.out Ow9.out hl.out).mono ?_
    rintro e w10 ⟨rfl,hb⟩
    have K10:Hid (Below w9.heap.size w9 w10):=(by first | exact hb | exact ⟨hb.os,hb.tape,hb.output,hb.size,hb.block⟩)
    have B10:Hid (Below w.heap.size w w10):=B9.out.trans (K10.out.mono B9.out.size)
    clear hb
    have Ow10:Hid (OwnX w10 w2.heap.size w3.heap.size uw LF.length (edC LF)):=OwnX.next Ow9.out K10.out
    have Og10:Hid (OwnX w10 w4.heap.size w5.heap.size ug LF.length (edC LF)):=OwnX.next Og9.out K10.out
    clear Ow9 Og9
    go_wp2_with fail
    refine (markX_own Og10.out hl.out).mono ?_
    rintro e w11 ⟨rfl,hm11,or11⟩
    have M11:Hid (OwnX w11 w4.heap.size w5.heap.size ug LF.length (edMks (LF.length * 2) (edC LF))):=hm11
    have S4:Hid (w3.heap.size≤w4.heap.size):=K4.out.size
    have Ow11:Hid (OwnX w11 w2.heap.size w3.heap.size uw LF.length (edC LF)):=OwnX.offR Ow10.out or11 (.inl S4.out)
    have hb:Below w4.heap.size w10 w11:=or11.below (Nat.le_refl _) (Nat.le_trans K5.out.size (Nat.le_trans K6.out.size (Nat.le_trans K7.out.size (Nat.le_trans K8.out.size (Nat.le_trans SZ89.out K10.out.size)))))
    have B11:Hid (Below w.heap.size w w11):=B10.out.trans (hb.mono (Nat.le_trans S3.out S4.out))
    clear hb or11 hm11 Ow10 Og10
    go_wp2_with fail
    refine (heldX_own M11.out HEC.out hl.out).mono ?_
    rintro e w12 ⟨rfl,hb⟩
    have K12:Hid (Below w11.heap.size w11 w12):=(by first | exact hb | exact ⟨hb.os,hb.tape,hb.output,hb.size,hb.block⟩)
    have B12:Hid (Below w.heap.size w w12):=B11.out.trans (K12.out.mono B11.out.size)
    clear hb
    have M12:Hid (OwnX w12 w4.heap.size w5.heap.size ug LF.length (edMks (LF.length * 2) (edC LF))):=OwnX.next M11.out K12.out
    have Ow12:Hid (OwnX w12 w2.heap.size w3.heap.size uw LF.length (edC LF)):=OwnX.next Ow11.out K12.out
    clear M11 Ow11
    go_wp2_with fail
    refine (TO.out _ (by first | exact B12.out | exact B12.out.drew)).mono ?_
    rintro e w13 ⟨pd,cd,fpd,rfl,ho,hnd,hrg,hb⟩
    have OXd13:Hid (ORows w13 44 3 (OMd w13 d) (.slice pd n cd) ms fpd):=ho
    have RGd:Hid (fpd.Nodup∧∀ a ∈ fpd,w12.heap.size≤a∧a<w13.heap.size):=(by first | exact ⟨hnd,hrg⟩ | exact ⟨hnd,fun a ha=>hrg a ha⟩)
    have K13:Hid (Below w12.heap.size w12 w13):=(by first | exact hb | exact ⟨hb.os,hb.tape,hb.output,hb.size,hb.block⟩)
    have B13:Hid (Below w.heap.size w w13):=B12.out.trans (K13.out.mono B12.out.size)
    clear hb ho hnd hrg
    have M13:Hid (OwnX w13 w4.heap.size w5.heap.size ug LF.length (edMks (LF.length * 2) (edC LF))):=OwnX.next M12.out K13.out
    have Ow13:Hid (OwnX w13 w2.heap.size w3.heap.size uw LF.length (edC LF)):=OwnX.next Ow12.out K13.out
    clear M12 Ow12
    go_wp2_with fail
    refine (IM.out _ _ B13.out (oms_tree OXd13.out)).mono ?_
    rintro e w14 ⟨uh,rfl,ho,hb⟩
    have Oh14:Hid (OwnX w14 w13.heap.size w14.heap.size uh LF.length (edC LF)):=ho
    have K14:Hid (Below w13.heap.size w13 w14):=(by first | exact hb | exact ⟨hb.os,hb.tape,hb.output,hb.size,hb.block⟩)
    have B14:Hid (Below w.heap.size w w14):=B13.out.trans (K14.out.mono B13.out.size)
    clear hb ho
    have M14:Hid (OwnX w14 w4.heap.size w5.heap.size ug LF.length (edMks (LF.length * 2) (edC LF))):=OwnX.next M13.out K14.out
    have Ow14:Hid (OwnX w14 w2.heap.size w3.heap.size uw LF.length (edC LF)):=OwnX.next Ow13.out K14.out
    clear M13 Ow13
    go_wp2_with fail
    refine (eqX_own Oh14.out Ow14.out hl.out).mono ?_
    rintro e w15 ⟨rfl,hb⟩
    have K15:Hid (Below w14.heap.size w14 w15):=(by first | exact hb | exact ⟨hb.os,hb.tape,hb.output,hb.size,hb.block⟩)
    have B15:Hid (Below w.heap.size w w15):=B14.out.trans (K15.out.mono B14.out.size)
    clear hb
    have M15:Hid (OwnX w15 w4.heap.size w5.heap.size ug LF.length (edMks (LF.length * 2) (edC LF))):=OwnX.next M14.out K15.out
    clear M14
    go_wp2_with fail
    refine (heldX_own M15.out HEC.out hl.out).mono ?_
    rintro e w16 ⟨rfl,hb⟩
    have K16:Hid (Below w15.heap.size w15 w16):=(by first | exact hb | exact ⟨hb.os,hb.tape,hb.output,hb.size,hb.block⟩)
    have B16:Hid (Below w.heap.size w w16):=B15.out.trans (K16.out.mono B15.out.size)
    clear hb
    go_wp2
    go_ret
    exact ⟨rfl,B16.out⟩
end Go.Proofs.YtkkabbfdjhcfcaaGreatDoor
