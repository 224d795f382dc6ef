/-
  ReachCal GraphImplA GraphImplB GraphImplC GraphEdges
-/
import Derived.Test.YtonpgdfpgpepiaaGreatDoorP30
import Derived.Test.YtonpgdfpgpepiaaGreatDoorP41
import Derived.Test.YtonpgdfpgpepiaaGreatDoorP36
set_option maxHeartbeats 16000000
set_option linter.unusedVariables false
set_option maxRecDepth 100000
namespace Go.Proofs.YtonpgdfpgpepiaaGreatDoor
open Go.ChangeShapes Go.WideShapes Go.ChangeAt Go.RowKit
theorem step_append_intL {w:World} {B:Nat} {v:Value} {l:List Nat} {ops:Array Oper} {o:Oper} {a:Act} {K:Act→World→Prop} {Q:Exit→Act→World→Prop} {E:Prop} (hgd:o.guard=none) (s x:Operand) (t:TypeId)
    (ho:o.op=.call { callee:=.builtin .append,args:=#[s,x],argTypes:=#[t,t] }) (ht:Tryz.prog.underlying t=some (.slice 3))
    (h:OwnI w B v l) (g:Nat) (q:Nat) (hg:w.heap[g]?=some (Obj.cells #[.int .i64 (q:Int)] 3 (0,0))) (hs:a.eval s=v) (hx:a.eval x=.slice (some ⟨g,0,none⟩) 1 1) (hl:l.length+1≤4398046511104)
    (k:∀ g' cap w',OwnI w' B (.slice (some ⟨g',0,none⟩) (l.length+1) cap) (l ++ [q])→w.grownBy w' v.ownBlock→(v.ownBlock=some g'∨w.heap.size≤g')→K (a.put o.dst (.slice (some ⟨g',0,none⟩) (l.length+1) cap)) w') :
    if Region.wanted o (yielded ops a.tmps)=true then Oper.wp Tryz.prog o a w K Q else E:=by
  obtain ⟨i,hi',hz0,hz1,hz2⟩:=info_parts info_int
  obtain ⟨g1,g3⟩:=h
  refine step_append_lies _ hgd s x t ho B 3 i (.int .i64 0) 1 8 ht hi' hz0 hz1 hz2 rfl (by decide) v l.length (intC l) hs g1 ⟨g,0,none⟩ 1 1 (intC [q]) hx rfl (World.news_of_block (cs:=#[.int .i64 (q:Int)]) (t:=3) (fr:=(0,0)) hg) (intC_oneCell _) (by omega) (by unfold maxLen;omega) (by omega) g3 _ rfl ?_
  intro g' cap w' k1 k2 k3 _
  have e:intC l ++ intC [q]=intC (l ++ [q]):=by simp [intC]
  rw [e] at k1
  exact k g' cap w' ⟨by simpa using k1,Nat.le_trans g3 k2.size⟩ k2 (k3.imp id (fun e=>by omega))
structure CalU (w:World) (B gc:Nat) (us:List Value) (cl:List (List Nat)):Prop where
  blk:Blk w gc us.toArray 111
  len:us.length=cl.length
  row:∀ (i:Nat) (r:List Nat),cl[i]?=some r→∃ u,us[i]?=some u∧OwnI w B u r
  off:∀ (i j:Nat) (u u':Value) (g:Nat),i≠j→us[i]?=some u→us[j]?=some u'→u.ownBlock=some g→u'.ownBlock≠some g
def CalR (w:World) (B gc:Nat) (cl:List (List Nat)):Prop:=∃ us,CalU w B gc us cl
theorem CalU.next {w w':World} {B gc:Nat} {us:List Value} {cl:List (List Nat)} (h:CalU w B gc us cl) (hb:Below w.heap.size w w'):CalU w' B gc us cl :=
  ⟨h.blk.next hb,h.len,fun i r hr=>by obtain ⟨u,h1,h2⟩:=h.row i r hr;exact ⟨u,h1,h2.next hb⟩,h.off⟩
theorem CalR.next {w w':World} {B gc:Nat} {cl:List (List Nat)} (h:CalR w B gc cl) (hb:Below w.heap.size w w'):CalR w' B gc cl:=by
  obtain ⟨us,h⟩:=h
  exact ⟨us,h.next hb⟩
theorem CalR.new {w:World} {B gc n:Nat} (hb:Blk w gc (Array.replicate n (.slice none 0 0)) 111) (hB:B≤w.heap.size):CalR w B gc (List.replicate n []):=by
  refine ⟨List.replicate n (.slice none 0 0),by simpa using hb,by simp,fun i r hr=>?_,fun i j u u' g hij hu hu' hg=>?_⟩
  · rw [List.getElem?_replicate] at hr
    split at hr
    · rename_i hi
      obtain rfl:=Option.some.inj hr
      exact ⟨.slice none 0 0,by rw [List.getElem?_replicate,if_pos hi],⟨by simp [intC],.inl ⟨rfl,rfl⟩⟩,hB⟩
    · cases hr
  · rw [List.getElem?_replicate] at hu
    split at hu
    · obtain rfl:=Option.some.inj hu
      simp [Value.ownBlock] at hg
    · cases hu
theorem OwnI.lt {w:World} {B g:Nat} {u:Value} {r:List Nat} (h:OwnI w B u r) (hg:u.ownBlock=some g):B≤g∧g<w.heap.size:=by
  rcases h.1.2 with ⟨rfl,_⟩ | ⟨g',cap,cur,rfl,hB,hh,_⟩
  · simp [Value.ownBlock] at hg
  · have e:g'=g:=by simpa [Value.ownBlock] using hg
    subst e
    exact ⟨hB,(Array.getElem?_eq_some_iff.1 hh).1⟩
theorem OwnI.stay {w w':World} {B:Nat} {u:Value} {r:List Nat} (h:OwnI w B u r) (hs:w.heap.size≤w'.heap.size) (hk:∀ g,u.ownBlock=some g→w'.heap[g]?=w.heap[g]?):OwnI w' B u r:=by
  refine ⟨⟨h.1.1,?_⟩,Nat.le_trans h.2 hs⟩
  rcases h.1.2 with hn | ⟨g,cap,cur,hv,hB,hh,hr⟩
  · exact .inl hn
  · exact .inr ⟨g,cap,cur,hv,hB,(hk g (by rw [hv];rfl)).trans hh,hr⟩
theorem CalU.push {w X w9:World} {B gc i x g9 cap:Nat} {us:List Value} {cl:List (List Nat)} {u:Value} {r:List Nat} (h:CalU w B gc us cl) (hX:Below w.heap.size w X) (hu:us[i]?=some u) (hr:cl[i]?=some r) (hr':OwnI w B u r)
    (ho:OwnI w9 B (.slice (some ⟨g9,0,none⟩) (r.length+1) cap) (r ++ [x])) (hg:X.grownBy w9 u.ownBlock) (hl:u.ownBlock=some g9∨X.heap.size≤g9) :
    CalR (w9.setCell ⟨gc,i,none⟩ (.slice (some ⟨g9,0,none⟩) (r.length+1) cap)) B gc (cl.set i (r ++ [x])):=by
  have hAP:ApartE 3 X w9:=ApartE.of_grown (hr'.next hX).1 hg
  have hb9:Blk w9 gc us.toArray 111:=hAP.blk (h.blk.next hX) (by decide)
  have hil:=(List.getElem?_eq_some_iff.1 hu).1
  have hs9:w.heap.size≤w9.heap.size:=Nat.le_trans hX.size hg.size
  refine ⟨us.set i (.slice (some ⟨g9,0,none⟩) (r.length+1) cap),hb9.same (by simp),by rw [List.length_set,List.length_set];exact h.len,fun j r' hj=>?_,fun j k y y' g hjk hy hy' hgy=>?_⟩
  · by_cases e:i=j
    · subst e
      rw [List.getElem?_set_self (by rw [← h.len];exact hil)] at hj
      obtain rfl:=Option.some.inj hj
      exact ⟨_,List.getElem?_set_self hil,ho.setO hb9 (by decide)⟩
    · rw [List.getElem?_set_ne e] at hj
      obtain ⟨y,h1,h2⟩:=h.row j r' hj
      refine ⟨y,by rw [List.getElem?_set_ne e];exact h1,?_⟩
      refine OwnI.setO ?_ hb9 (by decide)
      refine h2.stay hs9 (fun g hgy=>?_)
      have hlt:=(h2.lt hgy).2
      exact (hg.block g (Nat.lt_of_lt_of_le hlt hX.size) (fun e1=>h.off i j u y g e hu h1 e1.symm hgy)).trans (hX.block g hlt)
  · have fresh:∀ (m:Nat) (z:Value) (g':Nat),m≠i→us[m]?=some z→z.ownBlock=some g'→g'≠g9:=fun m z g' hm hz hg' e=>by
      subst e
      have hml:m<cl.length:=by rw [← h.len];exact (List.getElem?_eq_some_iff.1 hz).1
      obtain ⟨z',k1,k2⟩:=h.row m _ (List.getElem?_eq_getElem hml)
      rw [hz] at k1
      obtain rfl:=Option.some.inj k1
      rcases hl with hl | hl
      · exact h.off i m u z g' (Ne.symm hm) hu hz hl hg'
      · have:=(k2.lt hg').2
        have:=hX.size
        omega
    by_cases e:i=j
    · subst e
      rw [List.getElem?_set_self hil] at hy
      obtain rfl:=Option.some.inj hy
      rw [List.getElem?_set_ne hjk] at hy'
      have e9:g9=g:=by simpa [Value.ownBlock] using hgy
      subst e9
      exact fun e2=>fresh k y' g9 (Ne.symm hjk) hy' e2 rfl
    · rw [List.getElem?_set_ne e] at hy
      by_cases e2:i=k
      · subst e2
        rw [List.getElem?_set_self hil] at hy'
        obtain rfl:=Option.some.inj hy'
        intro e3
        have e9:g9=g:=by simpa [Value.ownBlock] using e3
        subst e9
        exact fresh j y g9 hjk hy hgy rfl
      · rw [List.getElem?_set_ne e2] at hy'
        exact h.off j k y y' g hjk hy hy' hgy
theorem CalU.at {w:World} {B gc i:Nat} {us:List Value} {cl:List (List Nat)} {u:Value} (h:CalU w B gc us cl) (hu:us[i]?=some u):w.cell? ⟨gc,i,none⟩=some u:=h.blk.cell i u (by simpa using hu)
theorem make_z {t e:TypeId} {z:Value} {b:Nat} (ht:Tryz.prog.underlying t=some (.slice e)) (hi:(Tryz.prog.info? e).map (fun i=>(i.zero,i.size,i.bytes))=some (some z,1,b)) (hb:b≤1000) (hz:∀ n,madeCells z.cells n=Array.replicate n z) (w:World) (n:Nat) (hn:n≤1048576) :
    (Instr.makeSlice t (.int .i64 n) (.int .i64 n)).run Tryz.prog w=.ok (.slice (some ⟨w.heap.size,0,none⟩) n n) (w.alloc (.cells (Array.replicate n z) e)):=by
  obtain ⟨i,hi',hz0,hz1,hz2⟩:=info_parts hi
  have:=run_make (P:=Tryz.prog) w t e i z ht hi' hz0 .i64 .i64 n n (by omega) (Int.le_refl _) (by
    rw [hz2]
    have h1:b * n≤1000 * 1048576:=Nat.mul_le_mul hb hn
    have h2:((b * n:Nat):Int)≤((1000 * 1048576:Nat):Int):=by exact_mod_cast h1
    rw [Int.natCast_mul] at h2
    omega) (by omega)
  rw [hz1] at this
  simpa [hz] using this
theorem mk_calls (w:World) (n:Nat) (hn:n≤1048576):(Instr.makeSlice 109 (.int .i64 n) (.int .i64 n)).run Tryz.prog w=.ok (.slice (some ⟨w.heap.size,0,none⟩) n n) (w.alloc (.cells (Array.replicate n (.slice none 0 0)) 111)) :=
  make_z (b:=24) Tryz.underlying109 (by kernel_rfl) (by decide) (fun n=>by apply Array.ext <;> simp [madeCells,Value.cells,Nat.mod_one]) w n hn
theorem mk_met (w:World) (n:Nat) (hn:n≤1048576):(Instr.makeSlice 110 (.int .i64 n) (.int .i64 n)).run Tryz.prog w=.ok (.slice (some ⟨w.heap.size,0,none⟩) n n) (w.alloc (.cells (Array.replicate n (.bool false)) 4)) :=
  make_z (b:=1) Tryz.underlying110 (by kernel_rfl) (by decide) (fun n=>by apply Array.ext <;> simp [madeCells,Value.cells,Nat.mod_one]) w n hn
def KeepC (w w':World):Prop:=w.heap.size≤w'.heap.size∧∀ (b:Nat) (cs:Array Value) (t:TypeId) (fr:Nat × Nat),w.heap[b]?=some (.cells cs t fr)→w'.heap[b]?=some (.cells cs t fr)
theorem KeepC.blk {w w':World} {b:Nat} {cs:Array Value} {t:TypeId} (h:KeepC w w') (hb:Blk w b cs t):Blk w' b cs t:=h.2 b cs t _ hb
theorem KeepC.owns {w w':World} {B c n:Nat} {e:TypeId} {v:Value} {xs:List Value} (h:KeepC w w') (k:w.ownsRow B e c v n xs):w'.ownsRow B e c v n xs:=by
  refine ⟨k.1,?_⟩
  rcases k.2 with hn | ⟨g,cap,cur,hv,hB,hh,hr⟩
  · exact .inl hn
  · exact .inr ⟨g,cap,cur,hv,hB,h.2 g _ _ _ hh,hr⟩
theorem KeepC.cal {w w':World} {B gc:Nat} {cl:List (List Nat)} (h:KeepC w w') (k:CalR w B gc cl):CalR w' B gc cl:=by
  obtain ⟨us,k1,k2,k3,k4⟩:=k
  exact ⟨us,h.blk k1,k2,fun i r hr=>by obtain ⟨u,e1,e2⟩:=k3 i r hr;exact ⟨u,e1,h.owns e2.1,Nat.le_trans e2.2 h.1⟩,k4⟩
theorem keepC_put {w:World} {D:Nat} {d:Option (List Deferred)} (h:w.heap[D]?=some (.deferred d)) (o:Obj):KeepC w (w.putObj D o) :=
  ⟨by simp,fun b cs t fr hb=>(World.putObj_heap_other (fun e=>by subst e;rw [h] at hb;cases hb)).trans hb⟩
theorem rcSq:(∀ (l:List Bool) (i:Nat) (v:Bool),l.toArray.setIfInBounds i v=(l.set i v).toArray)∧(∀ (x y:Bool) (l:List Bool),(x :: l).set 0 y=y :: l)∧∀ (x y:Bool) (l:List Bool) (n:Nat),(x :: l).set (n+1) y=x :: l.set n y :=
  ⟨fun l i v=>by simp,fun _ _ _=>rfl,fun _ _ _ _=>rfl⟩
def cnB (m:Md) (x:Ex):Option ByteArray:=if x.mod.toList = [] then (if hasF m x.text x.kids.length then some (nmT m.name x.text x.kids.length) else none) else some (nmT x.mod x.text x.kids.length)
theorem toL_cn (m:Md) (x:Ex):toL nmT m x=if x.kind=8 then (cnB m x).toList else []:=by
  unfold toL cnB
  split
  · split
    · split <;> rfl
    · rfl
  · rfl
def SmX (x:Ex):Prop:=x.text.size≤1048576∧x.mod.size≤1048576∧x.kids.length≤1048576
theorem calledName_any (dm d:Nat) (w:World) (mc:List Value) (m:Md) (cs:List Value) (x:Ex) (hm:HMd w All dm mc m) (hx:HEx w All (d+1) cs x) (hw:SmX x) (hms:m.name.size≤1048576) (hp:PowAt w) :
    Calls Tryz.prog 109 #[.agg mc.toArray,.agg cs.toArray] w fun e w'=>e=.returned (.tuple #[.string ((cnB m x).getD ⟨#[]⟩),.bool (cnB m x).isSome])∧Below w.heap.size w w':=by
  have HMF:Hid (∀ w',Below w.heap.size w w'→HMd w' All dm mc m):=fun w' hw=>hm.mono (SameOn.of_below hw) (fun _ h=>h)
  have HPN:Hid (∀ w',Below w.heap.size w w'→PowAt w'):=fun w' hb=>powAt_below hp hb
  obtain ⟨g2,g3,g1⟩:=hw
  obtain ⟨sv,pe,ne,ce,pf,nf,cf,rfl⟩:=hm.shape
  obtain rfl:sv=m.name:=by obtain ⟨_,_,e,_⟩:=hm;simp at e;exact e.1
  obtain ⟨kx,nx,tx,mx,ks,cl⟩:=x
  obtain ⟨kv,cv,rfl,-,-,-,-,⟨p1,q1,rfl,-⟩,⟨p2,q2,rfl,-⟩⟩:=hx
  simp only [Ex.kind,Ex.n,Ex.text,Ex.mod,Ex.kids,Ex.clauses] at *
  have HCN:Hid (cnB m (.mk kx nx tx mx ks cl)=if mx.toList = [] then (if hasF m tx ks.length then some (nmT m.name tx ks.length) else none) else some (nmT mx tx ks.length)):=rfl
  have hst:tx.size≤1048576:=by omega
  have hsx:mx.size≤1048576:=by omega
  have hnk:ks.length≤1048576:=by omega
  generalize hX:Ex.mk kx nx tx mx ks cl=X at *
  generalize ks.length=nk at *
  generalize cl.length=nc at *
  have OKN:Hid (okI (nk:Int)):=okI_nat hnk
  have HFU:Hid (∀ w',Below w.heap.size w w'→Calls Tryz.prog 100 #[.slice pf nf cf,.agg #[.string tx,.int .i64 (nk:Int)]] w' fun e w''=>e=.returned (.bool (hasF m tx nk))∧Below w'.heap.size w' w''):=fun w' hb=>by
    obtain ⟨ev,fv,e,_,_,hr⟩:=HMF.out w' hb
    simp at e
    obtain ⟨-,-,rfl⟩:=e
    exact hasFun_any dm w' _ m.funs ⟨tx,nk⟩ hr
  have HNA:Hid (∀ w',Below w.heap.size w w'→Calls Tryz.prog 23 #[.string mx,.agg #[.string tx,.int .i64 (nk:Int)]] w' fun e w''=>e=.returned (.string (nmT mx tx nk))∧Below w'.heap.size w' w''):=fun w' hb=>fullName_any w' mx tx nk hsx hst OKN.out (HPN.out w' hb)
  have HNB:Hid (∀ w',Below w.heap.size w w'→Calls Tryz.prog 23 #[.string m.name,.agg #[.string tx,.int .i64 (nk:Int)]] w' fun e w''=>e=.returned (.string (nmT m.name tx nk))∧Below w'.heap.size w' w''):=fun w' hb=>fullName_any w' m.name tx nk hms hst OKN.out (HPN.out w' hb)
  obtain ⟨W2,hW2⟩:∃ W2,W2=(w.alloc (.cells #[.string m.name,.slice pe ne ce,.slice pf nf cf] 42)).alloc (.cells #[.int .i64 kx,.int .i64 nx,.string tx,.string mx,.slice p1 nk q1,.slice p2 nc q2] 147):=⟨_,rfl⟩
  have bM:Hid (Blk W2 w.heap.size #[.string m.name,.slice pe ne ce,.slice pf nf cf] 42):=by show Blk _ _ _ _;rw [hW2];exact Blk.new.alloc
  have bE:Hid (Blk W2 (w.heap.size+1) #[.int .i64 kx,.int .i64 nx,.string tx,.string mx,.slice p1 nk q1,.slice p2 nc q2] 147):=by
    show Blk _ _ _ _
    rw [hW2]
    have:=Blk.new (w:=w.alloc (.cells #[.string m.name,.slice pe ne ce,.slice pf nf cf] 42)) (cs:=#[.int .i64 kx,.int .i64 nx,.string tx,.string mx,.slice p1 nk q1,.slice p2 nc q2]) (t:=147)
    simp only [alloc_hs] at this
    exact this
  have B2:Hid (Below w.heap.size w W2):=by show Below _ _ _;rw [hW2];exact ((Below.refl _ _).alloc (Nat.le_refl _) _).alloc (by simp only [alloc_hs];omega) _
  have S2:Hid (W2.heap.size=w.heap.size+1+1):=by show _=_;rw [hW2];simp only [alloc_hs]
  have HW2:Hid (W2=(w.alloc (.cells #[.string m.name,.slice pe ne ce,.slice pf nf cf] 42)).alloc (.cells #[.int .i64 kx,.int .i64 nx,.string tx,.string mx,.slice p1 nk q1,.slice p2 nc q2] 147)):=hW2
  clear hm hX hW2 g1 g2 g3 hp
  go_enter Tryz.func109,Tryz.ntmps109
  go_wp2_with fail
  try rw [← HW2.out]
  refine (calledRef_any _ kx nx tx mx p1 p2 nk q1 nc q2 (by omega)).mono ?_
  rintro e w3 ⟨rfl,hb3⟩
  obtain ⟨W4,hW4⟩:∃ W4,W4=w3.alloc (.cells #[.string tx,.int .i64 (nk:Int)] 57):=⟨_,rfl⟩
  have K4:Hid (Below W2.heap.size W2 W4):=by show Below _ _ _;rw [hW4];exact hb3.alloc hb3.size _
  have B4:Hid (Below w.heap.size w W4):=B2.out.trans (K4.out.mono B2.out.size)
  have bR:Hid (Blk W4 w3.heap.size #[.string tx,.int .i64 (nk:Int)] 57):=by show Blk _ _ _ _;rw [hW4];exact Blk.new
  have HW4:Hid (W4=w3.alloc (.cells #[.string tx,.int .i64 (nk:Int)] 57)):=hW4
  have bE4:=bE.out.next K4.out
  have bM4:=bM.out.next K4.out
  have z0:=bE4.cell 0 _ rfl
  have z1:=bE4.cell 1 _ rfl
  have z2:=bE4.cell 2 _ rfl
  have z3:=bE4.cell 3 _ rfl
  have z4:=bE4.cell 4 _ rfl
  have z5:=bE4.cell 5 _ rfl
  have y0:=bM4.cell 0 _ rfl
  have y1:=bM4.cell 1 _ rfl
  have y2:=bM4.cell 2 _ rfl
  have r0:=bR.out.cell 0 _ rfl
  have r1:=bR.out.cell 1 _ rfl
  rw [hW4] at z0 z1 z2 z3 z4 z5 y0 y1 y2 r0 r1
  clear hb3 hW4
  by_cases hmx:mx.toList = []
  · have hmb:mx.toList.isEmpty=true:=by simp [hmx]
    have HC2:Hid (cnB m X=if hasF m tx nk then some (nmT m.name tx nk) else none):=HCN.out.trans (if_pos hmx)
    go_wp2_with fail
    rw [← HW4.out]
    refine (HFU.out _ B4.out).mono ?_
    rintro e w5 ⟨rfl,hb5⟩
    have K5:Hid (Below W4.heap.size W4 w5):=hb5
    have B5:Hid (Below w.heap.size w w5):=B4.out.trans (hb5.mono B4.out.size)
    clear hb5 z0 z1 z2 z3 z4 z5 y0 y1 y2 r0 r1
    have y0:=(bM4.next K5.out).cell 0 _ rfl
    have r0:=(bR.out.next K5.out).cell 0 _ rfl
    have r1:=(bR.out.next K5.out).cell 1 _ rfl
    cases hh:hasF m tx nk with
    | true =>
      have HC3:Hid (cnB m X=some (nmT m.name tx nk)):=by show _=_;rw [HC2.out,hh];rfl
      go_wp2_with fail
      refine (HNB.out _ B5.out).mono ?_
      rintro e w6 ⟨rfl,hb6⟩
      have B6:Hid (Below w.heap.size w w6):=B5.out.trans (hb6.mono B5.out.size)
      clear hb6
      go_wp2_with fail
      exact bodyPost_ret (v:=.tuple #[.string (nmT m.name tx nk),.bool true]) (by simp [results,Tryz.results109,go_sem]) rfl ⟨by rw [HC3.out];rfl,B6.out⟩
    | false =>
      have HC3:Hid (cnB m X=none):=by show _=_;rw [HC2.out,hh];rfl
      go_wp2_with fail
      exact bodyPost_ret (v:=.tuple #[.string ⟨#[]⟩,.bool false]) (by simp [results,Tryz.results109,go_sem]) rfl ⟨by rw [HC3.out];rfl,B5.out⟩
  · have hmb:mx.toList.isEmpty=false:=by simpa using hmx
    have HC3:Hid (cnB m X=some (nmT mx tx nk)):=HCN.out.trans (if_neg hmx)
    go_wp2_with fail
    rw [← HW4.out]
    refine (HNA.out _ B4.out).mono ?_
    rintro e w6 ⟨rfl,hb6⟩
    have B6:Hid (Below w.heap.size w w6):=B4.out.trans (hb6.mono B4.out.size)
    clear hb6
    go_wp2_with fail
    exact bodyPost_ret (v:=.tuple #[.string (nmT mx tx nk),.bool true]) (by simp [results,Tryz.results109,go_sem]) rfl ⟨by rw [HC3.out];rfl,B6.out⟩
theorem powAt_low {w w':World} {b0:Nat} (h:PowAt w) (hg:2<b0) (hb:w'.heap[2]?=w.heap[2]?):PowAt w':=by
  unfold PowAt Lib.TabIs at *
  unfold World.var? at *
  have hn : Tryz.prog.globalNamed "internal/strconv.uint64pow10" = some 2:=by kernel_rfl
  rw [hn] at h ⊢
  simp only [Option.bind_some] at h ⊢
  rw [hb];exact h
theorem powAt_lt {w:World} (h:PowAt w):2<w.heap.size:=by
  unfold PowAt Lib.TabIs at h
  unfold World.var? at h
  have hn : Tryz.prog.globalNamed "internal/strconv.uint64pow10" = some 2:=by kernel_rfl
  rw [hn] at h
  simp only [Option.bind_some] at h
  cases hh:w.heap[2]? with
  | none=>rw [hh] at h;cases h
  | some o=>exact (Array.getElem?_eq_some_iff.1 hh).1
structure GcI (d b0 bm bl bf:Nat) (mc:Array Value) (m:Md) (fr:ByteArray) (w:World) (v:Value) (s:List Edge):Prop where
  mb:Blk w bm mc 42
  l:Blk w bl #[v] 68
  fb:Blk w bf #[.string fr] 9
  own:OwnE w b0 v s
  mod:HMd w (fun g=>g<b0) d mc.toList m
  pow:PowAt w
  lo:2<b0∧b0≤bl
def MvG (bl:Nat) (v:Value) (g:Nat):Prop:=g=bl∨v.ownBlock=some g
theorem GcI.next {d b0 bm bl bf:Nat} {mc:Array Value} {m:Md} {fr:ByteArray} {w w':World} {v:Value} {s:List Edge} (h:GcI d b0 bm bl bf mc m fr w v s) (hb:Below w.heap.size w w'):GcI d b0 bm bl bf mc m fr w' v s :=
  ⟨h.mb.next hb,h.l.next hb,h.fb.next hb,h.own.next hb,h.mod.mono (SameOn.of_below hb) (fun _ h=>h),powAt_below h.pow hb,h.lo⟩
theorem Blk.apartT {w:World} {a b:Nat} {cs cs':Array Value} {t t':TypeId} (h:Blk w a cs t) (k:Blk w b cs' t') (ht:t≠t'):a≠b:=fun e=>by
  subst e
  have:=(show w.heap[a]?=_ from h).symm.trans (show w.heap[a]?=_ from k)
  simp at this
  exact ht this.2
def stG (m:Md) (fr:ByteArray) (s:List Edge) (x:Ex):List Edge:=s ++ (cnB m x).toList.map fun t=>(fr,t)
theorem gcb_any (d dx b0 bm bl bf:Nat) (pe:Option Addr) (ne ce:Nat) (pf:Option Addr) (nf cf:Nat) (m:Md) (fr:ByteArray) (w:World) (v:Value) (s:List Edge) (cs:List Value) (x:Ex)
    (h:GcI d b0 bm bl bf #[.string m.name,.slice pe ne ce,.slice pf nf cf] m fr w v s) (hx:HEx w All dx cs x) (hms:m.name.size≤1048576) (hl:s.length+1≤1048576) (hsm:SmX x) :
    Calls Tryz.prog 108 #[.agg cs.toArray,.pointer (some ⟨bm,0,none⟩),.pointer (some ⟨bl,0,none⟩),.pointer (some ⟨bf,0,none⟩)] w fun e w'=>e=.returned (.tuple #[])∧∃ v',GcI d b0 bm bl bf #[.string m.name,.slice pe ne ce,.slice pf nf cf] m fr w' v' (stG m fr s x)∧Mv (MvG bl v) (MvG bl v') w w':=by
  cases dx with
  | zero=>exact hx.elim
  | succ dx =>
  have HST:Hid (stG m fr s x=s ++ (cnB m x).toList.map fun t=>(fr,t)):=rfl
  have CC:Hid (∀ w',Below w.heap.size w w'→Calls Tryz.prog 109 #[.agg #[.string m.name,.slice pe ne ce,.slice pf nf cf],.agg cs.toArray] w' fun e w''=>e=.returned (.tuple #[.string ((cnB m x).getD ⟨#[]⟩),.bool (cnB m x).isSome])∧Below w'.heap.size w' w''):=fun w' hw=>by
    have h1:=h.next hw
    exact calledName_any d dx w' _ m cs x (h1.mod.mono ⟨Nat.le_refl _,fun _ _ _=>rfl⟩ (fun _ _=>trivial)) (hx.mono (SameOn.of_below hw) (fun _ h=>h)) hsm hms h1.pow
  obtain ⟨kx,nx,tx,mx,ks,cl⟩:=x
  obtain ⟨kv,cv,rfl,-,-,-,-,⟨p1,q1,rfl,-⟩,⟨p2,q2,rfl,-⟩⟩:=hx
  simp only [Ex.kind,Ex.n,Ex.text,Ex.mod,Ex.kids,Ex.clauses] at *
  generalize hX:Ex.mk kx nx tx mx ks cl=X at *
  generalize ks.length=nk at *
  generalize cl.length=nd at *
  obtain ⟨W1,hW1⟩:∃ W1,W1=w.alloc (.cells #[.int .i64 kx,.int .i64 nx,.string tx,.string mx,.slice p1 nk q1,.slice p2 nd q2] 147):=⟨_,rfl⟩
  have B1:Hid (Below w.heap.size w W1):=by show Below _ _ _;rw [hW1];exact (Below.refl _ _).alloc (Nat.le_refl _) _
  have I1:Hid (GcI d b0 bm bl bf #[.string m.name,.slice pe ne ce,.slice pf nf cf] m fr W1 v s):=h.next B1.out
  have HW1:Hid (W1=w.alloc (.cells #[.int .i64 kx,.int .i64 nx,.string tx,.string mx,.slice p1 nk q1,.slice p2 nd q2] 147)):=hW1
  have y1:=I1.out.mb.cell 0 _ rfl
  have y2:=I1.out.mb.cell 1 _ rfl
  have y3:=I1.out.mb.cell 2 _ rfl
  rw [hW1] at y1 y2 y3
  clear h hX hW1 hsm
  go_enter Tryz.func108,Tryz.ntmps108
  go_wp2_with fail
  rw [← HW1.out]
  clear y1 y2 y3
  refine (CC.out _ B1.out).mono ?_
  rintro e w7 ⟨rfl,hb⟩
  have B7:Hid (Below w.heap.size w w7):=B1.out.trans (hb.mono B1.out.size)
  have I7:Hid (GcI d b0 bm bl bf #[.string m.name,.slice pe ne ce,.slice pf nf cf] m fr w7 v s):=I1.out.next hb
  clear hb
  cases hcn:cnB m X with
  | none =>
    have HS2:Hid (stG m fr s X=s):=by show _=_;rw [HST.out,hcn];simp
    simp only [Option.isSome_none,Option.getD_none]
    go_wp2_with fail
    go_end0
    exact ⟨rfl,v,by rw [HS2.out];exact I7.out,Mv.of_below B7.out⟩
  | some to =>
    have HS2:Hid (stG m fr s X=s ++ [(fr,to)]):=by show _=_;rw [HST.out,hcn];rfl
    simp only [Option.isSome_some,Option.getD_some]
    have l0:=I7.out.l.cell 0 _ rfl
    have f0:=I7.out.fb.cell 0 _ rfl
    have F9:Hid (∀ w9,ApartE 70 w7 w9→Blk w9 bl #[v] 68):=fun w9 hap=>hap.blk I7.out.l (by decide)
    go_wp2_with (at_builtin;refine wpList_append_lies rfl _ _ 68 rfl _ 32 Tryz.underlying68 info_ed rfl (by decide) I7.out.own #[.string fr,.string to] (fr,to) rfl rfl (by intro u hu;simp at hu;rcases hu with rfl | rfl <;> rfl) rfl rfl hl (by decide) ?_;intro g9 q9 w9 ho9 hb9 hap9 hg9 hk9;have c9:w9.cell? ⟨bl,0,none⟩=some v:=(F9.out w9 hap9).cell 0 _ rfl;have z9:w9.frozen? ⟨bl,0,none⟩=false:=(F9.out w9 hap9).frozen 0)
    have hl9:Blk w9 bl #[v] 68:=F9.out w9 hap9
    have hsz7:b0≤w7.heap.size:=I7.out.own.2
    have hlo:=I7.out.lo
    have hbz:Below b0 w7 (w9.setCell ⟨bl,0,none⟩ (.slice (some ⟨g9,0,none⟩) (s.length+1) q9)):=hb9.setCell (by show _≤bl;exact hlo.2) _
    have hsm:SameOn (fun g=>g<b0) w7 (w9.setCell ⟨bl,0,none⟩ (.slice (some ⟨g9,0,none⟩) (s.length+1) q9)):=⟨hbz.size,fun g hg _=>hbz.block g hg⟩
    have hm9:=hap9.blk I7.out.mb (by decide)
    have hf9:=hap9.blk I7.out.fb (by decide)
    have HIZ:GcI d b0 bm bl bf #[.string m.name,.slice pe ne ce,.slice pf nf cf] m fr (w9.setCell ⟨bl,0,none⟩ (.slice (some ⟨g9,0,none⟩) (s.length+1) q9)) (.slice (some ⟨g9,0,none⟩) (s.length+1) q9) (s ++ [(fr,to)]) :=
      ⟨hm9.other (hm9.apartT hl9 (by decide)),hl9.same rfl,hf9.other (hf9.apartT hl9 (by decide)),ho9.setCell hl9 (by decide),I7.out.mod.mono hsm (fun _ h=>h),powAt_low I7.out.pow hlo.1 (hbz.block _ hlo.1),hlo⟩
    have HMZ:Mv (MvG bl v) (MvG bl (.slice (some ⟨g9,0,none⟩) (s.length+1) q9)) w (w9.setCell ⟨bl,0,none⟩ (.slice (some ⟨g9,0,none⟩) (s.length+1) q9)):=by
      have hs7:=B7.out.size
      refine ⟨hbz.os.trans B7.out.os,hbz.tape.trans B7.out.tape,hbz.output.trans B7.out.output,Nat.le_trans hs7 hbz.size,fun g hg hm=>?_,fun g hg=>?_⟩
      · refine (Below.heap_setCell _ _ _ _ (fun e1=>hm (Or.inl e1))).trans ((hk9 g (by omega) (fun e1=>hm (Or.inr e1.symm))).trans (B7.out.block g hg))
      · rcases hg with hg | hg
        · exact Or.inl (Or.inl hg)
        · simp [Value.ownBlock] at hg
          subst hg
          rcases hg9 with h9 | h9
          · exact Or.inl (Or.inr h9)
          · exact Or.inr (by omega)
    go_end0
    exact ⟨rfl,_,by rw [HS2.out];exact HIZ,HMZ⟩
section
def stH (m:Md) (fr:ByteArray) (s:List Edge) (x:Ex):List Edge:=if x.kind=8 then stG m fr s x else s
def okG (s:List Edge) (x:Ex):Prop:=s.length+1≤1048576∧SmX x
section
variable (d b0 bm bl bf tb:Nat) (pe:Option Addr) (ne ce:Nat) (pf:Option Addr) (nf cf:Nat) (m:Md) (fr:ByteArray)
def CallG (w:World) (M:Nat→Prop) (s:List Edge):Prop :=
  ∃ v,M=MvG bl v∧GcI d b0 bm bl bf #[.string m.name,.slice pe ne ce,.slice pf nf cf] m fr w v s∧Blk w tb #[(.func (.func 108) #[] #[.pointer (some ⟨bm,0,none⟩),.pointer (some ⟨bl,0,none⟩),.pointer (some ⟨bf,0,none⟩)])] 160∧bl<tb
theorem gtells_call (hok:m.name.size≤1048576) (w:World) (s:List Edge) (dx:Nat) (cs:List Value) (x:Ex) (v:Value) (h:GcI d b0 bm bl bf #[.string m.name,.slice pe ne ce,.slice pf nf cf] m fr w v s) (hb:Blk w tb #[(.func (.func 108) #[] #[.pointer (some ⟨bm,0,none⟩),.pointer (some ⟨bl,0,none⟩),.pointer (some ⟨bf,0,none⟩)])] 160) (hlt:bl<tb) (hx:HEx w (fun g=>g<b0) dx cs x) (hl:okG s x) :
    Calls Tryz.prog 144 #[.agg cs.toArray,.pointer (some ⟨tb,0,none⟩)] w fun e w'=>e=.returned (.tuple #[])∧∃ M',CallG d b0 bm bl bf tb pe ne ce pf nf cf m fr w' M' (stH m fr s x)∧Mv (MvG bl v) M' w w':=by
  have hxA:HEx w All dx cs x:=hx.mono ⟨Nat.le_refl _,fun _ _ _=>rfl⟩ (fun _ _=>trivial)
  cases dx with
  | zero=>exact hx.elim
  | succ dx =>
  have HXX:Hid (∀ w',Below w.heap.size w w'→HEx w' All (dx+1) cs x):=fun w' hw=>hxA.mono (SameOn.of_below hw) (fun _ h=>h)
  obtain ⟨kx,nx,tx,mx,ks,cl⟩:=x
  obtain ⟨kv,cv,rfl,-,-,-,-,⟨p1,q1,rfl,-⟩,⟨p2,q2,rfl,-⟩⟩:=hxA
  have HSa:Hid (kx=8→stH m fr s (.mk kx nx tx mx ks cl)=stG m fr s (.mk kx nx tx mx ks cl)):=fun h=>if_pos h
  have HSb:Hid (¬ kx=8→stH m fr s (.mk kx nx tx mx ks cl)=s):=fun h=>if_neg h
  simp only [Ex.kind,Ex.n,Ex.text,Ex.mod,Ex.kids,Ex.clauses] at *
  clear hx
  have HL0:Hid (okG s (.mk kx nx tx mx ks cl)):=hl
  clear hl
  generalize hX:Ex.mk kx nx tx mx ks cl=X at *
  generalize ks.length=nk at *
  generalize cl.length=nd at *
  obtain ⟨W1,hW1⟩:∃ W1,W1=w.alloc (.cells #[.int .i64 kx,.int .i64 nx,.string tx,.string mx,.slice p1 nk q1,.slice p2 nd q2] 147):=⟨_,rfl⟩
  have B1:Hid (Below w.heap.size w W1):=by show Below _ _ _;rw [hW1];exact (Below.refl _ _).alloc (Nat.le_refl _) _
  have I1:Hid (GcI d b0 bm bl bf #[.string m.name,.slice pe ne ce,.slice pf nf cf] m fr W1 v s):=h.next B1.out
  have T1:Hid (Blk W1 tb #[(.func (.func 108) #[] #[.pointer (some ⟨bm,0,none⟩),.pointer (some ⟨bl,0,none⟩),.pointer (some ⟨bf,0,none⟩)])] 160):=hb.next B1.out
  have HW1:Hid (W1=w.alloc (.cells #[.int .i64 kx,.int .i64 nx,.string tx,.string mx,.slice p1 nk q1,.slice p2 nd q2] 147)):=hW1
  have HOK:Hid (m.name.size≤1048576):=hok
  have HLT:Hid (bl<tb):=hlt
  have t0:W1.cell? ⟨tb,0,none⟩=some (.func (.func 108) #[] #[.pointer (some ⟨bm,0,none⟩),.pointer (some ⟨bl,0,none⟩),.pointer (some ⟨bf,0,none⟩)]):=T1.out.cell 0 _ rfl
  have HOW:Hid (∀ g,v.ownBlock=some g→w.heap[tb]?≠w.heap[g]?):=fun g hg e=>by
    obtain ⟨⟨cells,g1,g2⟩,g3⟩:=h.own
    rcases g1.2 with ⟨rfl,_⟩ | ⟨g2',cap2,cur2,rfl,_,hh2,_⟩
    · simp [Value.ownBlock] at hg
    · simp [Value.ownBlock] at hg
      subst hg
      rw [hh2,show w.heap[tb]?=_ from hb] at e
      simp at e
  have HNT:Hid (¬ MvG bl v tb):=fun e=>by
    rcases e with e | e
    · omega
    · exact HOW.out tb e rfl
  have HHB:Hid (Blk w tb #[(.func (.func 108) #[] #[.pointer (some ⟨bm,0,none⟩),.pointer (some ⟨bl,0,none⟩),.pointer (some ⟨bf,0,none⟩)])] 160):=hb
  rw [hW1] at t0
  clear h hb hX hW1
  by_cases hk:kx=8
  · subst hk
    have hkb:((8:Int) == 8)=true:=by simp
    have HS2:Hid (stH m fr s X=stG m fr s X):=HSa.out rfl
    go_enter Tryz.func144,Tryz.ntmps144
    go_wp2_with fail
    rw [← HW1.out]
    refine (gcb_any d (dx+1) b0 bm bl bf pe ne ce pf nf cf m fr W1 v s _ X I1.out (HXX.out _ B1.out) HOK.out HL0.out.1 HL0.out.2).mono ?_
    rintro e w2 ⟨rfl,v2,i2,m2⟩
    have HR:Hid (∃ M',CallG d b0 bm bl bf tb pe ne ce pf nf cf m fr w2 M' (stH m fr s X)∧Mv (MvG bl v) M' w w2):=⟨_,⟨v2,rfl,by rw [HS2.out];exact i2,m2.blk T1.out HNT.out,HLT.out⟩,(Mv.of_below B1.out).trans m2⟩
    clear i2 m2 t0
    go_wp2_with fail
    go_end0
    exact ⟨rfl,HR.out⟩
  · have hkb:(kx == 8)=false:=by simpa using hk
    have HS2:Hid (stH m fr s X=s):=HSb.out hk
    clear t0
    go_enter Tryz.func144,Tryz.ntmps144
    go_wp2_with fail
    rw [← HW1.out]
    go_end0
    exact ⟨rfl,_,⟨v,rfl,by rw [HS2.out];exact I1.out,T1.out,HLT.out⟩,Mv.of_below B1.out⟩
theorem gtells (hok:m.name.size≤1048576):Tells 144 tb (CallG d b0 bm bl bf tb pe ne ce pf nf cf m fr) okG (stH m fr) (fun g=>g<b0) where
  off:=by
    rintro w M s ⟨v,rfl,h,hb,hlt⟩
    refine ⟨fun g hg e=>?_,fun g e=>?_,fun g hg=>?_⟩
    · have hg':g<b0:=hg
      have:=h.lo.2
      rcases e with e | e
      · omega
      · obtain ⟨⟨cells,g1,g2⟩,g3⟩:=h.own
        have:=(owns_own_lt g1 e).1
        omega
    · rcases e with e | e
      · have:=h.l.lt;omega
      · obtain ⟨⟨cells,g1,g2⟩,g3⟩:=h.own
        exact (owns_own_lt g1 e).2
    · have hg':g<b0:=hg
      have:=h.l.lt
      have:=h.lo.2
      omega
  next:=by
    rintro w w' M s ⟨v,rfl,h,hb,hlt⟩ hbel
    exact ⟨v,rfl,h.next hbel,hb.next hbel,hlt⟩
  call:=by
    rintro w M s dx cs x ⟨v,rfl,h,hb,hlt⟩ hx hl
    exact gtells_call d b0 bm bl bf tb pe ne ce pf nf cf m fr hok w s dx cs x v h hb hlt hx hl
end
section
variable (d b0 bm bl bf:Nat) (pe:Option Addr) (ne ce:Nat) (pf:Option Addr) (nf cf:Nat) (m:Md) (fr:ByteArray) (fs:ByteArray) (fn:Int) (pc:Option Addr) (nc cc:Nat)
theorem geachCall_any (hok:m.name.size≤1048576) (w:World) (s:List Edge) (v:Value) (cl:List Cl) (h:GcI d b0 bm bl bf #[.string m.name,.slice pe ne ce,.slice pf nf cf] m fr w v s) (hr:Rows w (fun g=>g<b0) 2 (HCl w (fun g=>g<b0) (HEx w (fun g=>g<b0) d)) (.slice pc nc cc) cl)
    (hR:Runs okG (stH m fr) s (cl.flatMap fun c=>c.2.flatMap (preX d))) :
    Calls Tryz.prog 104 #[.agg #[.string fs,.int .i64 fn,.slice pc nc cc],(.func (.func 108) #[] #[.pointer (some ⟨bm,0,none⟩),.pointer (some ⟨bl,0,none⟩),.pointer (some ⟨bf,0,none⟩)])] w fun e w'=>e=.returned (.tuple #[])∧∃ v',GcI d b0 bm bl bf #[.string m.name,.slice pe ne ce,.slice pf nf cf] m fr w' v' ((cl.flatMap fun c=>c.2.flatMap (preX d)).foldl (stH m fr) s)∧Mv (MvG bl v) (MvG bl v') w w':=by
  obtain ⟨W2,hW2⟩:∃ W2,W2=((w.alloc (.cells #[.string fs,.int .i64 fn,.slice pc nc cc] 46)).alloc (.cells #[(.func (.func 108) #[] #[.pointer (some ⟨bm,0,none⟩),.pointer (some ⟨bl,0,none⟩),.pointer (some ⟨bf,0,none⟩)])] 160)):=⟨_,rfl⟩
  have B2:Hid (Below w.heap.size w W2):=by show Below _ _ _;rw [hW2];exact ((Below.refl _ _).alloc (Nat.le_refl _) _).alloc (by simp only [alloc_hs];omega) _
  have TT:=gtells d b0 bm bl bf (w.heap.size+1) pe ne ce pf nf cf m fr hok
  have HT:Hid (Tells 144 (w.heap.size+1) (CallG d b0 bm bl bf (w.heap.size+1) pe ne ce pf nf cf m fr) okG (stH m fr) (fun g=>g<b0)):=TT
  have bT:Blk W2 (w.heap.size+1) #[(.func (.func 108) #[] #[.pointer (some ⟨bm,0,none⟩),.pointer (some ⟨bl,0,none⟩),.pointer (some ⟨bf,0,none⟩)])] 160:=by
    rw [hW2]
    have:=Blk.new (w:=w.alloc (.cells #[.string fs,.int .i64 fn,.slice pc nc cc] 46)) (cs:=#[(.func (.func 108) #[] #[.pointer (some ⟨bm,0,none⟩),.pointer (some ⟨bl,0,none⟩),.pointer (some ⟨bf,0,none⟩)])]) (t:=160)
    rw [alloc_hs] at this
    exact this
  have I2:Hid (CallG d b0 bm bl bf (w.heap.size+1) pe ne ce pf nf cf m fr W2 (MvG bl v) s):=⟨v,rfl,h.next B2.out,bT,by have:=h.l.lt;omega⟩
  have HOF:Hid (∀ g,g<b0→¬ MvG bl v g):=(TT.off _ _ _ I2.out).1
  obtain ⟨p,cap,hv,hcl,hcm,hx⟩:=hr
  simp only [Value.slice.injEq] at hv
  obtain ⟨rfl,hnc,rfl⟩:=hv
  have hnb:nc≤9223372036854775807:=by unfold maxLen at hcm;omega
  have HN:Hid (cl.length=nc):=hnc.symm
  have HX:Hid (cl≠[]→∃ g off,pc=some ⟨g,off,none⟩∧g<b0∧g<w.heap.size∧∀ i x,cl[i]?=some x→∃ cs,cs.length=2∧(∀ j,j<2→w.cell? ⟨g,off+i * 2+j,none⟩=cs[j]?)∧HCl w (fun g=>g<b0) (HEx w (fun g=>g<b0) d) cs x):=hx
  have HR:Hid (Runs okG (stH m fr) s (cl.flatMap fun c=>c.2.flatMap (preX d))):=hR
  have HW2:Hid (W2=((w.alloc (.cells #[.string fs,.int .i64 fn,.slice pc nc cc] 46)).alloc (.cells #[(.func (.func 108) #[] #[.pointer (some ⟨bm,0,none⟩),.pointer (some ⟨bl,0,none⟩),.pointer (some ⟨bf,0,none⟩)])] 160))):=hW2
  clear hx hR hW2 bT TT h hnc hcl
  go_enter Tryz.func104,Tryz.ntmps104
  go_wp2_with fail
  rw [← HW2.out]
  go_loopw [9] (fun iv wr=>∃ k:Nat,k≤nc∧iv=.int .i64 k∧Hid (∃ M',CallG d b0 bm bl bf (w.heap.size+1) pe ne ce pf nf cf m fr wr M' (((cl.take k).flatMap fun c=>c.2.flatMap (preX d)).foldl (stH m fr) s)∧Mv (MvG bl v) M' w wr)) (fun iv _=>nc - (intOf iv).toNat)
  case atStart=>exact ⟨0,Nat.zero_le _,rfl,⟨_,by simpa using I2.out,Mv.of_below B2.out⟩⟩
  case round =>
    obtain ⟨k,hk,rfl,HVk⟩:=hrel
    obtain ⟨Mk,ik,mk⟩:=HVk.out
    have IK:Hid (CallG d b0 bm bl bf (w.heap.size+1) pe ne ce pf nf cf m fr wr Mk (((cl.take k).flatMap fun c=>c.2.flatMap (preX d)).foldl (stH m fr) s)):=ik
    have MK:Hid (Mv (MvG bl v) Mk w wr):=mk
    clear HVk ik mk
    by_cases hlt:k<nc
    · obtain ⟨c,hck⟩:∃ c,cl[k]?=some c:=⟨cl[k]'(by rw [HN.out];exact hlt),List.getElem?_eq_getElem _⟩
      obtain ⟨g,off,rfl,hgm,hgl,hat⟩:=HX.out (by intro h;rw [h] at hck;simp at hck)
      obtain ⟨cs,hcsl,hcs,pv',bv,rfl,rp,rb⟩:=hat k c hck
      have SK:Hid (SameOn (fun g=>g<b0) w wr):=MK.out.sameOn HOF.out
      have RB:Hid (Rows wr (fun g=>g<b0) 6 (HEx wr (fun g=>g<b0) d) bv c.2):=Rows.mono rb SK.out (fun _ h=>h) (fun _ _ _ h=>h.mono SK.out (fun _ h=>h))
      obtain ⟨pp,capp,rfl,-⟩:=rp
      obtain ⟨pb,capb,rfl,-⟩:=rb
      have hge:wr.heap[g]?=w.heap[g]?:=SK.out.2 g hgm hgl
      have a0:=(World.cell?_of_block (a:=⟨g,off+k * 2+0,none⟩) hge).trans (hcs 0 (by omega))
      have a1:=(World.cell?_of_block (a:=⟨g,off+k * 2+1,none⟩) hge).trans (hcs 1 (by omega))
      simp at a0 a1
      obtain ⟨hr1,hj1⟩:=Runs.take k c HR.out hck
      generalize ((cl.take k).flatMap fun c=>c.2.flatMap (preX d)).foldl (stH m fr) s=sk at *
      have HR1:Hid (Runs okG (stH m fr) sk (c.2.flatMap (preX d))):=hr1
      have HJ1:Hid (((cl.take (k+1)).flatMap fun c=>c.2.flatMap (preX d)).foldl (stH m fr) s=(c.2.flatMap (preX d)).foldl (stH m fr) sk):=hj1
      have hki:(k:Int)<(nc:Int):=by omega
      have hk0:(0:Int)≤(k:Int):=by omega
      have HBC:Hid (Below wr.heap.size wr (wr.alloc (.cells #[.slice pp c.1.length capp,.slice pb c.2.length capb] 139))):=(Below.refl _ _).alloc (Nat.le_refl _) _
      clear hat hcs hcsl hge hr1 hj1
      go_wp2_with fail
      refine (eachOfC_all HT.out d _ Mk sk _ c.2 (Rows.mono RB.out (SameOn.of_below HBC.out) (fun _ h=>h) (fun _ _ _ h=>h.mono (SameOn.of_below HBC.out) (fun _ h=>h))) (HT.out.next _ _ _ _ IK.out HBC.out) HR1.out).mono ?_
      rintro e w3 ⟨rfl,M3,i3,m3⟩
      have HI4:Hid (∃ M',CallG d b0 bm bl bf (w.heap.size+1) pe ne ce pf nf cf m fr w3 M' (((cl.take (k+1)).flatMap fun c=>c.2.flatMap (preX d)).foldl (stH m fr) s)∧Mv (MvG bl v) M' w w3):=⟨M3,by rw [HJ1.out];exact i3,(MK.out.trans (Mv.of_below HBC.out)).trans m3⟩
      clear i3 m3 a0 a1
      go_wp2_with fail
      exact ⟨⟨k+1,by omega,by go_num,HI4⟩,by simp [intOf];omega⟩
    · have HS:Hid (∃ v',GcI d b0 bm bl bf #[.string m.name,.slice pe ne ce,.slice pf nf cf] m fr wr v' ((cl.flatMap fun c=>c.2.flatMap (preX d)).foldl (stH m fr) s)∧Mv (MvG bl v) (MvG bl v') w wr):=by
        have h1:=IK.out
        rw [show cl.take k=cl from List.take_of_length_le (by rw [HN.out];omega)] at h1
        obtain ⟨v',rfl,h2,-,-⟩:=h1
        exact ⟨v',h2,MK.out⟩
      go_wp2_with fail
      go_end0
      exact ⟨rfl,HS.out⟩
end
end
def preL (d:Nat) (f:Fn'):List Ex:=f.clauses.flatMap fun c:Cl=>c.2.flatMap (preX d)
def pairL (ms:List Md):List (Md × Fn'):=ms.flatMap fun m=>m.funs.map fun f=>(m,f)
def edF (d:Nat) (p:Md × Fn'):List Edge:=((preL d p.2).flatMap (toL nmT p.1)).map fun t=>(nmT p.1.name p.2.name p.2.arity,t)
theorem edges_pairs (d:Nat) (ms:List Md):edgesOf nmT d ms=(pairL ms).flatMap (edF d):=by
  unfold edgesOf pairL
  rw [List.flatMap_assoc]
  congr 1
  funext m
  rw [List.flatMap_map]
  rfl
theorem pairL_len (ms:List Md):(pairL ms).length=offs ms ms.length:=by
  unfold pairL offs
  rw [List.take_length,List.length_flatMap]
  simp
theorem pairL_at:∀ (ms:List Md) (k:Nat) (p:Md × Fn'),(pairL ms)[k]?=some p→∃ a b,ms[a]?=some p.1∧p.1.funs[b]?=some p.2∧offs ms a+b=k
  | [],k,p,h=>by simp [pairL] at h
  | m :: ms,k,p,h=>by
    have e:pairL (m :: ms)=(m.funs.map fun f=>(m,f)) ++ pairL ms:=rfl
    rw [e] at h
    by_cases hk:k<m.funs.length
    · rw [List.getElem?_append_left (by simpa using hk),List.getElem?_map] at h
      cases hf:m.funs[k]? with
      | none=>rw [hf] at h;cases h
      | some f =>
        rw [hf] at h
        obtain rfl:(m,f)=p:=by simpa using h
        exact ⟨0,k,rfl,hf,by simp [offs]⟩
    · rw [List.getElem?_append_right (by simpa using hk),List.length_map] at h
      obtain ⟨a,b,h1,h2,h3⟩:=pairL_at ms _ p h
      refine ⟨a+1,b,h1,h2,?_⟩
      have:offs (m :: ms) (a+1)=m.funs.length+offs ms a:=by unfold offs;simp
      omega
theorem stH_fold (m:Md) (fr:ByteArray):∀ (L:List Ex) (s:List Edge),L.foldl (stH m fr) s=s ++ (L.flatMap (toL nmT m)).map fun t=>(fr,t)
  | [],s=>by simp
  | x :: L,s=>by
    rw [List.foldl_cons,stH_fold m fr L,List.flatMap_cons,List.map_append,← List.append_assoc]
    congr 1
    unfold stH stG
    rw [toL_cn]
    split <;> simp
theorem stH_len (m:Md) (fr:ByteArray) (s:List Edge) (x:Ex):(stH m fr s x).length≤s.length+1:=by
  unfold stH stG
  split
  · cases cnB m x <;> simp
  · omega
theorem runsG (m:Md) (fr:ByteArray):∀ (L:List Ex) (s:List Edge),s.length+L.length≤1048576→(∀ x ∈ L,SmX x)→Runs okG (stH m fr) s L
  | [],s,_,_=>trivial
  | x :: L,s,h,hs=>by
    rw [List.length_cons] at h
    have hl:=stH_len m fr s x
    exact ⟨⟨by omega,hs x (by simp)⟩,runsG m fr L _ (by omega) (fun y hy=>hs y (by simp [hy]))⟩
theorem preL_len (d:Nat) (f:Fn'):(preL d f).length≤wtFn d f:=by
  have h1:preL d f=(bodiesOf f.clauses).flatMap (preX d):=bodies_pre f d
  have h2:=flat_lenG (preX d) (fun y=>1+wtEx d y) (bodiesOf f.clauses) (fun y _=>preX_len d y)
  have h3:=sumB d f.clauses
  have h4:wtFn d f=f.name.size+wtS (wtCl (wtEx d)) f.clauses:=rfl
  rw [h1];omega
theorem preX_wt:∀ (d:Nat) (x y:Ex),y ∈ preX d x→∃ d',wtEx (d'+1) y≤wtEx d x
  | 0,x,y,h=>by simp [preX] at h
  | d+1,.mk k n t mo ks cs,y,h=>by
    have hw:wtEx (d+1) (.mk k n t mo ks cs)=t.size+mo.size+wtS (wtEx d) ks+wtS (wtCl (wtEx d)) cs:=rfl
    simp only [preX,Ex.kids,Ex.clauses,List.mem_cons,List.mem_append,List.mem_flatMap] at h
    rcases h with rfl | ⟨z,hz,hy⟩ | ⟨c,hc,hy⟩
    · exact ⟨d,Nat.le_refl _⟩
    · obtain ⟨d',h'⟩:=preX_wt d z y hy
      have:=wt_mem (wtEx d) hz
      exact ⟨d',by omega⟩
    · have h1:=wt_mem (wtCl (wtEx d)) hc
      have h2:wtCl (wtEx d) c=wtS (wtEx d) c.1+wtS (wtEx d) c.2:=rfl
      rcases hy with ⟨z,hz,hy⟩ | ⟨z,hz,hy⟩
      · obtain ⟨d',h'⟩:=preX_wt d z y hy
        have:=wt_mem (wtEx d) hz
        exact ⟨d',by omega⟩
      · obtain ⟨d',h'⟩:=preX_wt d z y hy
        have:=wt_mem (wtEx d) hz
        exact ⟨d',by omega⟩
theorem preL_small {d:Nat} {f:Fn'} (hw:wtFn d f≤1048576):∀ x ∈ preL d f,SmX x:=by
  intro x hx
  obtain ⟨c,hc,hx⟩:=List.mem_flatMap.1 hx
  obtain ⟨z,hz,hx⟩:=List.mem_flatMap.1 hx
  obtain ⟨d',h1⟩:=preX_wt d z x hx
  have h2:=wt_mem (wtEx d) hz
  have h3:=wt_mem (wtCl (wtEx d)) hc
  have h4:wtCl (wtEx d) c=wtS (wtEx d) c.1+wtS (wtEx d) c.2:=rfl
  have h5:wtFn d f=f.name.size+wtS (wtCl (wtEx d)) f.clauses:=rfl
  obtain ⟨k1,k2,k3⟩:=kids_wt d' x
  exact ⟨by omega,by omega,by omega⟩
theorem pre_sum (d:Nat) (ms:List Md):((pairL ms).map fun p=>(preL d p.2).length).sum≤wtS (wtMd d) ms:=by
  induction ms with
  | nil=>simp [pairL,wtS]
  | cons m ms ih =>
    have e:pairL (m :: ms)=(m.funs.map fun f=>(m,f)) ++ pairL ms:=rfl
    have h1:∀ (l:List Fn'),((l.map fun f=>(m,f)).map fun p:Md × Fn'=>(preL d p.2).length).sum≤wtS (wtFn d) l:=by
      intro l
      induction l with
      | nil=>simp [wtS]
      | cons f l ih2 =>
        have:=preL_len d f
        unfold wtS at ih2 ⊢
        simp only [List.map_cons,List.sum_cons,List.length_cons]
        omega
    have h2:=h1 m.funs
    have h3:wtMd d m=m.name.size+wtS wtRf m.exports+wtS (wtFn d) m.funs:=rfl
    have h4:wtS (wtMd d) (m :: ms)=1+wtMd d m+wtS (wtMd d) ms:=by unfold wtS;simp only [List.map_cons,List.sum_cons,List.length_cons];omega
    rw [e,List.map_append,List.sum_append]
    omega
theorem edF_len (d:Nat) (p:Md × Fn'):(edF d p).length≤(preL d p.2).length:=by
  unfold edF
  rw [List.length_map]
  have h1:=flat_lenG (toL nmT p.1) (fun _=>1) (preL d p.2) (fun y _=>toL_len p.1 y)
  have h2:∀ (l:List Ex),(l.map fun _=>1).sum=l.length:=fun l=>by induction l with
    | nil=>rfl
    | cons x l ih=>simp only [List.map_cons,List.sum_cons,List.length_cons,ih];omega
  rw [h2] at h1
  exact h1
theorem edK_len (d:Nat) (l:List (Md × Fn')):(l.flatMap (edF d)).length≤(l.map fun p=>(preL d p.2).length).sum:=flat_lenG (edF d) (fun p=>(preL d p.2).length) l (fun p _=>edF_len d p)
theorem pair_wt {d:Nat} {ms:List Md} {p:Md × Fn'} (h:p ∈ pairL ms):p.1.name.size≤wtS (wtMd d) ms∧wtFn d p.2≤wtS (wtMd d) ms:=by
  obtain ⟨m,hm,hp⟩:=List.mem_flatMap.1 h
  obtain ⟨f,hf,rfl⟩:=List.mem_map.1 hp
  have h1:=wt_mem (wtMd d) hm
  have h2:=wt_mem (wtFn d) hf
  have h3:wtMd d m=m.name.size+wtS wtRf m.exports+wtS (wtFn d) m.funs:=rfl
  simp only
  omega
end Go.Proofs.YtonpgdfpgpepiaaGreatDoor
