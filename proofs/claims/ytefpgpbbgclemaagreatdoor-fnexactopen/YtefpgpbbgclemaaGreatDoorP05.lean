/-
  MadeOff RemMath Enters Eq ModsEq
-/
import Derived.Test.YtefpgpbbgclemaaGreatDoorP04
set_option maxHeartbeats 16000000
set_option linter.unusedVariables false
set_option maxRecDepth 100000
namespace Go.Proofs.YtefpgpbbgclemaaGreatDoor
open Go.ChangeShapes Go.WideShapes Go.ChangeAt Go.RowKit
section
structure OffB (b N:Nat) (w w':World):Prop where
  os:w'.os=w.os
  tape:w'.tape=w.tape
  output:w'.output=w.output
  size:w.heap.size≤w'.heap.size
  block:∀ k,k<N→k≠b→w'.heap[k]?=w.heap[k]?
theorem OffB.refl (b N:Nat) (w:World):OffB b N w w:=⟨rfl,rfl,rfl,Nat.le_refl _,fun _ _ _=>rfl⟩
theorem OffB.trans {b N:Nat} {u v w:World} (h:OffB b N u v) (k:OffB b N v w):OffB b N u w :=
  ⟨k.os.trans h.os,k.tape.trans h.tape,k.output.trans h.output,Nat.le_trans h.size k.size,fun i hi hb=>(k.block i hi hb).trans (h.block i hi hb)⟩
theorem OffB.mono {b N N':Nat} {u v:World} (h:OffB b N u v) (hN:N'≤N):OffB b N' u v:=⟨h.os,h.tape,h.output,h.size,fun k hk hb=>h.block k (Nat.lt_of_lt_of_le hk hN) hb⟩
theorem OffB.of_below {b N:Nat} {u v:World} (h:Below N u v):OffB b N u v:=⟨h.os,h.tape,h.output,h.size,fun k hk _=>h.block k hk⟩
theorem OffB.drew {b N:Nat} {u v:World} (h:OffB b N u v):OffB b N u v.drew:=⟨h.os,h.tape,h.output,h.size,h.block⟩
theorem OffB.setCell {b N:Nat} {u v:World} (h:OffB b N u v) {p:Addr} (hp:N≤p.block) (x:Value):OffB b N u (v.setCell p x) :=
  h.trans ⟨rfl,rfl,rfl,by simp [World.setCell],fun k hk _=>Below.heap_setCell _ _ _ _ (by omega)⟩
theorem OffB.same {b N:Nat} {u v:World} (h:OffB b N u v) {S:Nat→Prop} (hS:∀ g,S g→g<N∧g≠b):SameOn S u v:=⟨h.size,fun g hg _=>h.block g (hS g hg).1 (hS g hg).2⟩
theorem OffB.blk {b N g:Nat} {u v:World} {cs:Array Value} {t:TypeId} (h:OffB b N u v) (hb:Blk u g cs t) (hg:g<N) (hne:g≠b):Blk v g cs t:=(h.block g hg hne).trans hb
theorem OffB.below {b N:Nat} {u v:World} (h:OffB b N u v) {M:Nat} (hM:M≤N) (hb:M≤b):Below M u v:=⟨h.os,h.tape,h.output,h.size,fun k hk=>h.block k (by omega) (by omega)⟩
structure MadeB {α:Type} (b:Nat) (w wr:World) (G n:Nat) (e:TypeId) (c:Nat) (O:World→List Value→α→List Nat→Prop) (es:List α) (k:Nat) (xs:List Value) (fps:List (List Nat)):Prop where
  own:wr.ownsRow G e c (.slice (some ⟨G,0,none⟩) n n) n xs
  len:fps.length=k
  nd:fps.flatten.Nodup
  rng:∀ a ∈ fps.flatten,G<a∧a<wr.heap.size
  el:∀ (i:Nat) x f,es[i]?=some x→fps[i]?=some f→∃ cs:List Value,cs.length=c∧(∀ j,j<c→xs[i * c+j]?=cs[j]?)∧O wr cs x f
  off:OffB b G w wr
  sz:G+1≤wr.heap.size
  lt:b<G
variable {α:Type} {b:Nat} {w wr:World} {G n c k:Nat} {e:TypeId} {O:World→List Value→α→List Nat→Prop} {es:List α} {xs:List Value} {fps:List (List Nat)}
theorem MadeB.start {M:Array Value} (hM:M.size=n * c) (hn:n≤maxLen) (hb:b<w.heap.size):MadeB b w (w.alloc (.cells M e)) w.heap.size n e c O es 0 M.toList [] :=
  ⟨World.ownsRow_lit w M n (Nat.le_refl _) hn hM,rfl,by simp,fun a ha=>by simp at ha,fun i x f _ hf=>by simp at hf,OffB.of_below ((Below.refl _ _).alloc (Nat.le_refl _) _),by rw [alloc_hs];exact Nat.le_refl _,hb⟩
theorem MadeB.step (hO:∀ w w' cs x f,O w cs x f→KeepOn f w w'→O w' cs x f) (h:MadeB b w wr G n e c O es k xs fps) {w1 w2:World} {x:α} {cs xs':List Value} {f:List Nat} (hx:es[k]?=some x) (hb:OffB b wr.heap.size wr w1) (ho:O w1 cs x f)
    (hnd:f.Nodup) (hf:∀ a ∈ f,wr.heap.size≤a∧a<w1.heap.size) (hcl:cs.length=c) (hown:w2.ownsRow G e c (.slice (some ⟨G,0,none⟩) n n) n xs') (hgr:w1.grownBy w2 (some G))
    (hlow:∀ m,m<k * c→xs'[m]?=xs[m]?) (hself:∀ j,j<c→xs'[k * c+j]?=cs[j]?):MadeB b w w2 G n e c O es (k+1) xs' (fps ++ [f]):=by
  have h1:=h.sz
  have h2:=hb.size
  have h3:=hgr.size
  have h4:=h.lt
  refine ⟨hown,by rw [List.length_append,h.len];rfl,?_,?_,?_,?_,by omega,h4⟩
  · rw [List.flatten_append,List.nodup_append]
    refine ⟨h.nd,by simpa using hnd,fun a ha b hb'=>?_⟩
    have:=(h.rng a ha).2
    have:=(hf b (by simpa using hb')).1
    omega
  · intro a ha
    rw [List.flatten_append,List.mem_append] at ha
    rcases ha with ha | ha
    · have:=h.rng a ha;omega
    · have:=hf a (by simpa using ha);omega
  · intro i y f' hy hf'
    by_cases hik:i<k
    · rw [List.getElem?_append_left (by rw [h.len];exact hik)] at hf'
      obtain ⟨cs',g1,g2,g3⟩:=h.el i y f' hy hf'
      refine ⟨cs',g1,fun j hj=>?_,hO _ _ _ _ _ g3 (fun a ha=>?_)⟩
      · rw [hlow]
        · exact g2 j hj
        · have:i * c+c≤k * c:=by rw [← Nat.succ_mul];exact Nat.mul_le_mul_right c hik
          omega
      · have hr:=h.rng a (List.mem_flatten.2 ⟨f',List.mem_of_getElem? hf',ha⟩)
        exact (hgr.block a (by omega) (by simp;omega)).trans (hb.block a hr.2 (by omega))
    · have hil:i<k+1:=by
        have:=(List.getElem?_eq_some_iff.1 hf').1
        rw [List.length_append,h.len] at this;simpa using this
      obtain rfl:i=k:=by omega
      obtain rfl:x=y:=Option.some.inj (hx.symm.trans hy)
      rw [List.getElem?_append_right (by rw [h.len];exact Nat.le_refl _),h.len,Nat.sub_self] at hf'
      simp at hf'
      subst hf'
      exact ⟨cs,hcl,hself,hO _ _ _ _ _ ho (fun a ha=>by have:=hf a ha;exact hgr.block a (by omega) (by simp;omega))⟩
  · exact h.off.trans ((hb.mono (by omega)).trans ⟨hgr.os,hgr.tape,hgr.output,hgr.size,fun j hj _=>hgr.block j (by omega) (by simp;omega)⟩)
theorem MadeB.done (h:MadeB b w wr G n e c O es n xs fps) (hn:es.length=n) (hm:n≤maxLen):∃ fp,ORows wr e c (O wr) (.slice (some ⟨G,0,none⟩) n n) es fp∧fp.Nodup∧∀ a ∈ fp,G≤a∧a<wr.heap.size:=by
  by_cases hne:es = []
  · subst hne
    exact ⟨[],.inl ⟨rfl,rfl,_,_,by rw [← hn];rfl,hm⟩,by simp,fun a ha=>by simp at ha⟩
  · refine ⟨G :: fps.flatten,.inr ⟨hne,xs,G,n,fps,?_,by rw [hn],by rw [h.len,hn],rfl,h.el⟩,?_,?_⟩
    · rw [hn]
      obtain ⟨h1,h2⟩:=h.own
      refine ⟨h1,h2.imp id ?_⟩
      rintro ⟨g,cap,cur,a1,a2,a3⟩
      exact ⟨g,cap,cur,a1,Nat.zero_le _,a3⟩
    · rw [List.nodup_cons]
      exact ⟨fun hm=>by have:=(h.rng G hm).1;omega,h.nd⟩
    · intro a ha
      have:=h.sz
      rcases List.mem_cons.1 ha with rfl | ha
      · omega
      · have:=h.rng a ha;omega
end
def mapX (f:Ex→Ex):Nat→Ex→Ex
  | 0,x=>x
  | d+1,.mk k n t m ks cs=>f (.mk k n t m (ks.map (mapX f d)) (cs.map fun c=>(c.1.map (mapX f d),c.2.map (mapX f d))))
def mapC (f:Ex→Ex) (d:Nat) (c:Cl):Cl:=(c.1.map (mapX f d),c.2.map (mapX f d))
def mapF (f:Ex→Ex) (d:Nat) (x:Fn'):Fn':=⟨x.name,x.arity,x.clauses.map (mapC f d)⟩
def mapM (f:Ex→Ex) (d:Nat) (m:Md):Md:=⟨m.name,m.exports,m.funs.map (mapF f d)⟩
theorem mapX_id:∀ (d:Nat) (x:Ex),mapX id d x=x
  | 0,_=>rfl
  | d+1,.mk k n t m ks cs=>by
    have h1:∀ l:List Ex,l.map (mapX id d)=l:=fun l=>by
      rw [List.map_congr_left (g:=id) (fun y _=>mapX_id d y)];simp
    show id (Ex.mk k n t m (ks.map (mapX id d)) (cs.map fun c=>(c.1.map (mapX id d),c.2.map (mapX id d))))=_
    have h2:(fun c:Cl=>(c.1.map (mapX id d),c.2.map (mapX id d)))=id:=funext fun c=>by rw [h1,h1];rfl
    rw [h1,h2];simp
theorem mapC_id (d:Nat) (c:Cl):mapC id d c=c:=by
  have h1:∀ l:List Ex,l.map (mapX id d)=l:=fun l=>by
    rw [List.map_congr_left (g:=id) (fun y _=>mapX_id d y)];simp
  unfold mapC;rw [h1,h1]
theorem mapF_id (d:Nat) (x:Fn'):mapF id d x=x:=by
  have:x.clauses.map (mapC id d)=x.clauses:=by rw [List.map_congr_left (g:=id) (fun y _=>mapC_id d y)];simp
  unfold mapF;rw [this]
theorem mapM_id (d:Nat) (m:Md):mapM id d m=m:=by
  have:m.funs.map (mapF id d)=m.funs:=by rw [List.map_congr_left (g:=id) (fun y _=>mapF_id d y)];simp
  unfold mapM;rw [this]
theorem mapMs_id (d:Nat) (ms:List Md):ms.map (mapM id d)=ms:=by rw [List.map_congr_left (g:=id) (fun y _=>mapM_id d y)];simp
def fT (ft:Int→ByteArray→ByteArray→Nat→ByteArray) (x:Ex):Ex:=.mk x.kind x.n (ft x.kind x.text x.mod x.kids.length) x.mod x.kids x.clauses
def ftU (_:Int) (t _:ByteArray) (_:Nat):ByteArray:=t
theorem fT_U:fT ftU=id:=funext fun x=>by cases x;rfl
theorem rows_uniq {α:Type} {w:World} {S S':Nat→Prop} {c:Nat} {R R':List Value→α→Prop} {p:Option Addr} {n q q':Nat} {xs xs':List α}
    (hu:∀ cs x x',R cs x→R' cs x'→x=x') (h:Rows w S c R (.slice p n q) xs) (h':Rows w S' c R' (.slice p n q') xs'):xs=xs':=by
  obtain ⟨p1,c1,e1,-,-,h3⟩:=h
  obtain ⟨p2,c2,e2,-,-,h3'⟩:=h'
  simp only [Value.slice.injEq] at e1 e2
  obtain ⟨rfl,hn1,-⟩:=e1
  obtain ⟨rfl,hn2,-⟩:=e2
  apply List.ext_getElem?
  intro i
  by_cases hi:i<n
  · have k1:i<xs.length:=by omega
    have k2:i<xs'.length:=by omega
    obtain ⟨g,off,hp,-,-,hat⟩:=h3 (by intro e;rw [e] at k1;simp at k1)
    obtain ⟨g',off',hp',-,-,hat'⟩:=h3' (by intro e;rw [e] at k2;simp at k2)
    rw [hp] at hp'
    simp only [Option.some.injEq,Addr.mk.injEq,and_true] at hp'
    obtain ⟨rfl,rfl⟩:=hp'
    obtain ⟨cs,l1,a1,r1⟩:=hat i _ (List.getElem?_eq_getElem k1)
    obtain ⟨cs',l2,a2,r2⟩:=hat' i _ (List.getElem?_eq_getElem k2)
    have hcs:cs=cs':=by
      apply List.ext_getElem?
      intro j
      by_cases hj:j<c
      · exact (a1 j hj).symm.trans (a2 j hj)
      · rw [List.getElem?_eq_none (by omega),List.getElem?_eq_none (by omega)]
    subst hcs
    rw [List.getElem?_eq_getElem k1,List.getElem?_eq_getElem k2,hu cs _ _ r1 r2]
  · rw [List.getElem?_eq_none (by omega),List.getElem?_eq_none (by omega)]
theorem HCl.uniq {w:World} {S S':Nat→Prop} {R R':List Value→Ex→Prop} (hu:∀ cs x x',R cs x→R' cs x'→x=x') (cs:List Value) (c c':Cl) (h:HCl w S R cs c) (h':HCl w S' R' cs c'):c=c':=by
  obtain ⟨p,b,rfl,h1,h2⟩:=h
  obtain ⟨p',b',e,h1',h2'⟩:=h'
  simp only [List.cons.injEq,and_true] at e
  obtain ⟨rfl,rfl⟩:=e
  obtain ⟨pa,ca,hp,-⟩:=id h1
  obtain ⟨pb,cb,hb,-⟩:=id h2
  rw [hp] at h1 h1'
  rw [hb] at h2 h2'
  exact Prod.ext (rows_uniq hu h1 h1') (rows_uniq hu h2 h2')
theorem HEx.uniq {w:World} {S S':Nat→Prop}:∀ {d d':Nat} (cs:List Value) (x x':Ex),HEx w S d cs x→HEx w S' d' cs x'→x=x'
  | 0,_,_,_,_,h,_=>h.elim
  | _+1,0,_,_,_,_,h=>h.elim
  | d+1,d'+1,cs,x,x',h,h'=>by
    obtain ⟨kv,cv,rfl,-,-,-,-,hk,hc⟩:=h
    obtain ⟨kv',cv',e,-,-,-,-,hk',hc'⟩:=h'
    simp only [List.cons.injEq,Value.int.injEq,true_and,Value.string.injEq,and_true] at e
    obtain ⟨e1,e2,e3,e4,rfl,rfl⟩:=e
    obtain ⟨pa,ca,hp,-⟩:=id hk
    obtain ⟨pb,cb,hb,-⟩:=id hc
    rw [hp] at hk hk'
    rw [hb] at hc hc'
    rw [Ex.eq_iff]
    exact ⟨e1,e2,e3,e4,rows_uniq (fun cs x x' h h'=>HEx.uniq cs x x' h h') hk hk',rows_uniq (fun cs c c' h h'=>HCl.uniq (fun cs x x' h h'=>HEx.uniq cs x x' h h') cs c c' h h') hc hc'⟩
theorem size_mem {α:Type} [SizeOf α] {l:List α} {x:α} (h:x ∈ l):SizeOf.sizeOf x<SizeOf.sizeOf l:=List.sizeOf_lt_of_mem h
theorem size_memC {l:List Cl} {x:Cl} (h:x ∈ l):SizeOf.sizeOf x<SizeOf.sizeOf l:=List.sizeOf_lt_of_mem h
theorem size_pos (l:List Ex):1≤SizeOf.sizeOf l:=by cases l <;> simp <;> omega
theorem size_kids (x:Ex):SizeOf.sizeOf x.kids<SizeOf.sizeOf x:=by
  obtain ⟨k,n,t,m,ks,cs⟩:=x
  simp only [Ex.kids,Ex.mk.sizeOf_spec];omega
theorem size_clauses (x:Ex):SizeOf.sizeOf x.clauses<SizeOf.sizeOf x:=by
  obtain ⟨k,n,t,m,ks,cs⟩:=x
  simp only [Ex.clauses,Ex.mk.sizeOf_spec];omega
theorem size_pats (c:Cl):SizeOf.sizeOf c.1<SizeOf.sizeOf c∧SizeOf.sizeOf c.2<SizeOf.sizeOf c:=by
  obtain ⟨a,b⟩:=c
  simp only [Prod.mk.sizeOf_spec];omega
theorem enters {f:FuncId} {fn:Func} {c:Code} (hf:Tryz.prog.funcs[f]?=some fn) (hn:(fn.name == "runtime.NumGoroutine")=false) (hb:fn.body=some c) (args:Array Value) (w:World) :
    Sem.run Tryz.prog (callFunc f args) w=.ok (.enter f args) w:=by
  have h:¬ fn.name = "runtime.NumGoroutine" := by simpa using hn
  simp [callFunc,hf,h,hb]
theorem eqExpS_of {d:Nat} (hE:EqC 172 (fun w v e=>∃ cs,v=.agg cs.toArray∧HEx w All d cs e)) :
    EqC 158 (fun w v es=>Rows w All 6 (HEx w All d) v es):=by
  intro w v1 v2 es h1 h2
  obtain ⟨p,cap,rfl,hcl,hcm,hx⟩:=h1
  obtain ⟨q,cap',rfl,hcl',hcm',hy⟩:=h2
  generalize hn:es.length=n at *
  have HN:Hid (es.length=n):=hn
  have HX:Hid _:=hx
  have HY:Hid _:=hy
  have hnb:n≤9223372036854775807:=by unfold maxLen at hcm;omega
  clear hx hy hn
  go_enter Tryz.func158,Tryz.ntmps158
  go_wp2
  go_loopw [5] (fun iv wr=>∃ k:Nat,k≤n∧iv=.int .i64 k∧Below w.heap.size w wr) (fun iv _=>n - (intOf iv).toNat)
  case atStart=>exact ⟨0,Nat.zero_le _,rfl,Below.refl _ _⟩
  case round =>
    obtain ⟨k,hk,rfl,hb⟩:=hrel
    have HB:Hid (Below w.heap.size w wr):=hb
    by_cases hlt:k<n
    · obtain ⟨x,hxk⟩:∃ x,es[k]?=some x:=⟨es[k]'(by rw [HN.out];exact hlt),List.getElem?_eq_getElem _⟩
      have hne:es≠[]:=by intro h;rw [h] at hxk;simp at hxk
      obtain ⟨g,off,rfl,_,hgl,hat⟩:=HX.out hne
      obtain ⟨g',off',rfl,_,hgl',hat'⟩:=HY.out hne
      obtain ⟨cs,hcl6,hcs,hex⟩:=hat k x hxk
      obtain ⟨cs',hcl6',hcs',hex'⟩:=hat' k x hxk
      have E1:∀ w',SameOn All wr w'→HEx w' All d cs x:=fun w' hw=>hex.mono (SameOn.trans (SameOn.of_below hb) hw) (fun _ h=>h)
      have E2:∀ w',SameOn All wr w'→HEx w' All d cs' x:=fun w' hw=>hex'.mono (SameOn.trans (SameOn.of_below hb) hw) (fun _ h=>h)
      obtain ⟨c0,c1,c2,c3,c4,c5,rfl⟩:=len6 hcl6
      obtain ⟨d0,d1,d2,d3,d4,d5,rfl⟩:=len6 hcl6'
      have a0:=hcs 0 (by omega)
      have b0:=hcs' 0 (by omega)
      have a1:=hcs 1 (by omega)
      have b1:=hcs' 1 (by omega)
      have a2:=hcs 2 (by omega)
      have b2:=hcs' 2 (by omega)
      have a3:=hcs 3 (by omega)
      have b3:=hcs' 3 (by omega)
      have a4:=hcs 4 (by omega)
      have b4:=hcs' 4 (by omega)
      have a5:=hcs 5 (by omega)
      have b5:=hcs' 5 (by omega)
      rw [← hb.cell (p:=⟨g,_,none⟩) hgl] at a0 a1 a2 a3 a4 a5
      rw [← hb.cell (p:=⟨g',_,none⟩) hgl'] at b0 b1 b2 b3 b4 b5
      simp at a0 a1 a2 a3 a4 a5 b0 b1 b2 b3 b4 b5
      clear hb hcs hat hex hcl6 hcs' hat' hex' hcl6' hne
      go_wp2
      go_region_with ((go_at_call 172;refine (hE _ _ _ x ⟨_,rfl,E1 _ (by exact ⟨Nat.le_refl _,fun _ _ _=>rfl⟩)⟩ ⟨_,rfl,E2 _ (by exact ⟨Nat.le_refl _,fun _ _ _=>rfl⟩)⟩).mono ?_;rintro e w1 ⟨rfl,hb1⟩;have HB1:Hid _:=hb1;clear hb1))
      all_goals go_wp2
      all_goals
        have hbe:Below w.heap.size w w1:=by
          refine Below.trans ?_ (HB1.out.mono (by exact HB.out.size))
          repeat (first | exact HB.out | apply Below.drew)
        exact ⟨⟨k+1,by omega,by go_num,hbe⟩,by simp [intOf];omega⟩
    · go_wp2
      go_ret
      exact ⟨rfl,HB.out⟩
theorem eqClauseS_of {d:Nat} (hE:EqC 135 (fun w v e=>∃ cs,v=.agg cs.toArray∧HCl w All (HEx w All d) cs e)) :
    EqC 102 (fun w v es=>Rows w All 2 (HCl w All (HEx w All d)) v es):=by
  intro w v1 v2 es h1 h2
  obtain ⟨p,cap,rfl,hcl,hcm,hx⟩:=h1
  obtain ⟨q,cap',rfl,hcl',hcm',hy⟩:=h2
  generalize hn:es.length=n at *
  have HN:Hid (es.length=n):=hn
  have HX:Hid _:=hx
  have HY:Hid _:=hy
  have hnb:n≤9223372036854775807:=by unfold maxLen at hcm;omega
  clear hx hy hn
  go_enter Tryz.func102,Tryz.ntmps102
  go_wp2
  go_loopw [5] (fun iv wr=>∃ k:Nat,k≤n∧iv=.int .i64 k∧Below w.heap.size w wr) (fun iv _=>n - (intOf iv).toNat)
  case atStart=>exact ⟨0,Nat.zero_le _,rfl,Below.refl _ _⟩
  case round =>
    obtain ⟨k,hk,rfl,hb⟩:=hrel
    have HB:Hid (Below w.heap.size w wr):=hb
    by_cases hlt:k<n
    · obtain ⟨x,hxk⟩:∃ x,es[k]?=some x:=⟨es[k]'(by rw [HN.out];exact hlt),List.getElem?_eq_getElem _⟩
      have hne:es≠[]:=by intro h;rw [h] at hxk;simp at hxk
      obtain ⟨g,off,rfl,_,hgl,hat⟩:=HX.out hne
      obtain ⟨g',off',rfl,_,hgl',hat'⟩:=HY.out hne
      obtain ⟨cs,hcl6,hcs,hex⟩:=hat k x hxk
      obtain ⟨cs',hcl6',hcs',hex'⟩:=hat' k x hxk
      have E1:∀ w',SameOn All wr w'→HCl w' All (HEx w' All d) cs x:=fun w' hw=>hex.mono (SameOn.trans (SameOn.of_below hb) hw) (fun _ h=>h) (fun _ _=>HEx.mono (SameOn.trans (SameOn.of_below hb) hw) (fun _ h=>h))
      have E2:∀ w',SameOn All wr w'→HCl w' All (HEx w' All d) cs' x:=fun w' hw=>hex'.mono (SameOn.trans (SameOn.of_below hb) hw) (fun _ h=>h) (fun _ _=>HEx.mono (SameOn.trans (SameOn.of_below hb) hw) (fun _ h=>h))
      obtain ⟨c0,c1,rfl⟩:=len2 hcl6
      obtain ⟨d0,d1,rfl⟩:=len2 hcl6'
      have a0:=hcs 0 (by omega)
      have b0:=hcs' 0 (by omega)
      have a1:=hcs 1 (by omega)
      have b1:=hcs' 1 (by omega)
      rw [← hb.cell (p:=⟨g,_,none⟩) hgl] at a0 a1
      rw [← hb.cell (p:=⟨g',_,none⟩) hgl'] at b0 b1
      simp at a0 a1 b0 b1
      clear hb hcs hat hex hcl6 hcs' hat' hex' hcl6' hne
      go_wp2
      go_region_with ((go_at_call 135;refine (hE _ _ _ x ⟨_,rfl,E1 _ (by exact ⟨Nat.le_refl _,fun _ _ _=>rfl⟩)⟩ ⟨_,rfl,E2 _ (by exact ⟨Nat.le_refl _,fun _ _ _=>rfl⟩)⟩).mono ?_;rintro e w1 ⟨rfl,hb1⟩;have HB1:Hid _:=hb1;clear hb1))
      all_goals go_wp2
      all_goals
        have hbe:Below w.heap.size w w1:=by
          refine Below.trans ?_ (HB1.out.mono (by exact HB.out.size))
          repeat (first | exact HB.out | apply Below.drew)
        exact ⟨⟨k+1,by omega,by go_num,hbe⟩,by simp [intOf];omega⟩
    · go_wp2
      go_ret
      exact ⟨rfl,HB.out⟩
theorem eqFunS_of {d:Nat} (hE:EqC 72 (fun w v e=>∃ cs,v=.agg cs.toArray∧HFn w All d cs e)) :
    EqC 45 (fun w v es=>Rows w All 3 (HFn w All d) v es):=by
  intro w v1 v2 es h1 h2
  obtain ⟨p,cap,rfl,hcl,hcm,hx⟩:=h1
  obtain ⟨q,cap',rfl,hcl',hcm',hy⟩:=h2
  generalize hn:es.length=n at *
  have HN:Hid (es.length=n):=hn
  have HX:Hid _:=hx
  have HY:Hid _:=hy
  have hnb:n≤9223372036854775807:=by unfold maxLen at hcm;omega
  clear hx hy hn
  go_enter Tryz.func45,Tryz.ntmps45
  go_wp2
  go_loopw [5] (fun iv wr=>∃ k:Nat,k≤n∧iv=.int .i64 k∧Below w.heap.size w wr) (fun iv _=>n - (intOf iv).toNat)
  case atStart=>exact ⟨0,Nat.zero_le _,rfl,Below.refl _ _⟩
  case round =>
    obtain ⟨k,hk,rfl,hb⟩:=hrel
    have HB:Hid (Below w.heap.size w wr):=hb
    by_cases hlt:k<n
    · obtain ⟨x,hxk⟩:∃ x,es[k]?=some x:=⟨es[k]'(by rw [HN.out];exact hlt),List.getElem?_eq_getElem _⟩
      have hne:es≠[]:=by intro h;rw [h] at hxk;simp at hxk
      obtain ⟨g,off,rfl,_,hgl,hat⟩:=HX.out hne
      obtain ⟨g',off',rfl,_,hgl',hat'⟩:=HY.out hne
      obtain ⟨cs,hcl6,hcs,hex⟩:=hat k x hxk
      obtain ⟨cs',hcl6',hcs',hex'⟩:=hat' k x hxk
      have E1:∀ w',SameOn All wr w'→HFn w' All d cs x:=fun w' hw=>hex.mono (SameOn.trans (SameOn.of_below hb) hw) (fun _ h=>h)
      have E2:∀ w',SameOn All wr w'→HFn w' All d cs' x:=fun w' hw=>hex'.mono (SameOn.trans (SameOn.of_below hb) hw) (fun _ h=>h)
      obtain ⟨c0,c1,c2,rfl⟩:=len3 hcl6
      obtain ⟨d0,d1,d2,rfl⟩:=len3 hcl6'
      have a0:=hcs 0 (by omega)
      have b0:=hcs' 0 (by omega)
      have a1:=hcs 1 (by omega)
      have b1:=hcs' 1 (by omega)
      have a2:=hcs 2 (by omega)
      have b2:=hcs' 2 (by omega)
      rw [← hb.cell (p:=⟨g,_,none⟩) hgl] at a0 a1 a2
      rw [← hb.cell (p:=⟨g',_,none⟩) hgl'] at b0 b1 b2
      simp at a0 a1 a2 b0 b1 b2
      clear hb hcs hat hex hcl6 hcs' hat' hex' hcl6' hne
      go_wp2
      go_region_with ((go_at_call 72;refine (hE _ _ _ x ⟨_,rfl,E1 _ (by exact ⟨Nat.le_refl _,fun _ _ _=>rfl⟩)⟩ ⟨_,rfl,E2 _ (by exact ⟨Nat.le_refl _,fun _ _ _=>rfl⟩)⟩).mono ?_;rintro e w1 ⟨rfl,hb1⟩;have HB1:Hid _:=hb1;clear hb1))
      all_goals go_wp2
      all_goals
        have hbe:Below w.heap.size w w1:=by
          refine Below.trans ?_ (HB1.out.mono (by exact HB.out.size))
          repeat (first | exact HB.out | apply Below.drew)
        exact ⟨⟨k+1,by omega,by go_num,hbe⟩,by simp [intOf];omega⟩
    · go_wp2
      go_ret
      exact ⟨rfl,HB.out⟩
theorem eqRefS_of {d:Nat} (hE:EqC 71 (fun w v e=>∃ cs,v=.agg cs.toArray∧HRf cs e)) :
    EqC 44 (fun w v es=>Rows w All 2 (HRf) v es):=by
  intro w v1 v2 es h1 h2
  obtain ⟨p,cap,rfl,hcl,hcm,hx⟩:=h1
  obtain ⟨q,cap',rfl,hcl',hcm',hy⟩:=h2
  generalize hn:es.length=n at *
  have HN:Hid (es.length=n):=hn
  have HX:Hid _:=hx
  have HY:Hid _:=hy
  have hnb:n≤9223372036854775807:=by unfold maxLen at hcm;omega
  clear hx hy hn
  go_enter Tryz.func44,Tryz.ntmps44
  go_wp2
  go_loopw [5] (fun iv wr=>∃ k:Nat,k≤n∧iv=.int .i64 k∧Below w.heap.size w wr) (fun iv _=>n - (intOf iv).toNat)
  case atStart=>exact ⟨0,Nat.zero_le _,rfl,Below.refl _ _⟩
  case round =>
    obtain ⟨k,hk,rfl,hb⟩:=hrel
    have HB:Hid (Below w.heap.size w wr):=hb
    by_cases hlt:k<n
    · obtain ⟨x,hxk⟩:∃ x,es[k]?=some x:=⟨es[k]'(by rw [HN.out];exact hlt),List.getElem?_eq_getElem _⟩
      have hne:es≠[]:=by intro h;rw [h] at hxk;simp at hxk
      obtain ⟨g,off,rfl,_,hgl,hat⟩:=HX.out hne
      obtain ⟨g',off',rfl,_,hgl',hat'⟩:=HY.out hne
      obtain ⟨cs,hcl6,hcs,hex⟩:=hat k x hxk
      obtain ⟨cs',hcl6',hcs',hex'⟩:=hat' k x hxk
      have E1:∀ w',SameOn All wr w'→HRf cs x:=fun w' hw=>hex
      have E2:∀ w',SameOn All wr w'→HRf cs' x:=fun w' hw=>hex'
      obtain ⟨c0,c1,rfl⟩:=len2 hcl6
      obtain ⟨d0,d1,rfl⟩:=len2 hcl6'
      have a0:=hcs 0 (by omega)
      have b0:=hcs' 0 (by omega)
      have a1:=hcs 1 (by omega)
      have b1:=hcs' 1 (by omega)
      rw [← hb.cell (p:=⟨g,_,none⟩) hgl] at a0 a1
      rw [← hb.cell (p:=⟨g',_,none⟩) hgl'] at b0 b1
      simp at a0 a1 b0 b1
      clear hb hcs hat hex hcl6 hcs' hat' hex' hcl6' hne
      go_wp2
      go_region_with ((go_at_call 71;refine (hE _ _ _ x ⟨_,rfl,E1 _ (by exact ⟨Nat.le_refl _,fun _ _ _=>rfl⟩)⟩ ⟨_,rfl,E2 _ (by exact ⟨Nat.le_refl _,fun _ _ _=>rfl⟩)⟩).mono ?_;rintro e w1 ⟨rfl,hb1⟩;have HB1:Hid _:=hb1;clear hb1))
      all_goals go_wp2
      all_goals
        have hbe:Below w.heap.size w w1:=by
          refine Below.trans ?_ (HB1.out.mono (by exact HB.out.size))
          repeat (first | exact HB.out | apply Below.drew)
        exact ⟨⟨k+1,by omega,by go_num,hbe⟩,by simp [intOf];omega⟩
    · go_wp2
      go_ret
      exact ⟨rfl,HB.out⟩
theorem eqExp_of {d:Nat} (h0:EqC 158 (fun w v es=>Rows w All 6 (HEx w All d) v es)) (h1:EqC 102 (fun w v es=>Rows w All 2 (HCl w All (HEx w All d)) v es)) :
    EqC 172 (fun w v e=>∃ cs,v=.agg cs.toArray∧HEx w All (d+1) cs e):=by
  intro w v1 v2 e i1 i2
  obtain ⟨cs,rfl,kv,cv,rfl,p1,p2,p3,p4,f0,f1⟩:=i1
  obtain ⟨cs,rfl,kv',cv',rfl,p1',p2',p3',p4',f0',f1'⟩:=i2
  have hal:Below w.heap.size w ((w.alloc (.cells #[.int .i64 e.kind,.int .i64 e.n,.string e.text,.string e.mod,kv,cv] 79)).alloc (.cells #[.int .i64 e.kind,.int .i64 e.n,.string e.text,.string e.mod,kv',cv'] 79)):=((Below.refl _ _).alloc (Nat.le_refl _) _).alloc (by simp) _
  have HA:Hid (Below w.heap.size w ((w.alloc (.cells #[.int .i64 e.kind,.int .i64 e.n,.string e.text,.string e.mod,kv,cv] 79)).alloc (.cells #[.int .i64 e.kind,.int .i64 e.n,.string e.text,.string e.mod,kv',cv'] 79))):=hal
  have g0:∀ w',SameOn All w w'→Rows w' All 6 (HEx w' All d) kv e.kids:=fun w' hw=>f0.mono (hw) (fun _ h=>h) (fun _ _ _=>HEx.mono (hw) (fun _ h=>h))
  have g0':∀ w',SameOn All w w'→Rows w' All 6 (HEx w' All d) kv' e.kids:=fun w' hw=>f0'.mono (hw) (fun _ h=>h) (fun _ _ _=>HEx.mono (hw) (fun _ h=>h))
  have g1:∀ w',SameOn All w w'→Rows w' All 2 (HCl w' All (HEx w' All d)) cv e.clauses:=fun w' hw=>f1.mono (hw) (fun _ h=>h) (fun _ _ _ h=>h.mono (hw) (fun _ h=>h) (fun _ _=>HEx.mono (hw) (fun _ h=>h)))
  have g1':∀ w',SameOn All w w'→Rows w' All 2 (HCl w' All (HEx w' All d)) cv' e.clauses:=fun w' hw=>f1'.mono (hw) (fun _ h=>h) (fun _ _ _ h=>h.mono (hw) (fun _ h=>h) (fun _ _=>HEx.mono (hw) (fun _ h=>h)))
  clear hal f0 f0' f1 f1'
  go_enter Tryz.func172,Tryz.ntmps172
  go_wp2_with (first | (go_at_call 102;(refine (h1 _ _ _ e.clauses (g1 _ (SameOn.of_below (HA.out.trans (HB0.out.mono HA.out.size)))) (g1' _ (SameOn.of_below (HA.out.trans (HB0.out.mono HA.out.size))))).mono ?_;rintro e w1 ⟨rfl,hb1⟩;have HB1:Hid _:=hb1;clear hb1)) | (go_at_call 158;(refine (h0 _ _ _ e.kids (g0 _ (SameOn.of_below HA.out)) (g0' _ (SameOn.of_below HA.out))).mono ?_;rintro e w0 ⟨rfl,hb0⟩;have HB0:Hid _:=hb0;have k0:=(hb0.cell (p:=⟨w.heap.size,5,none⟩) (by simp only [alloc_hs];omega)).trans ((World.cell?_of_block (a:=⟨w.heap.size,5,none⟩) (Below.heap_alloc _ _ _ (by simp))).trans (cell_new _ _ _ 5 cv rfl));have m0:=(hb0.cell (p:=⟨(w.alloc (.cells #[.int .i64 e.kind,.int .i64 e.n,.string e.text,.string e.mod,kv,cv] 79)).heap.size,5,none⟩) (by simp)).trans (cell_new _ _ _ 5 cv' rfl);simp only [alloc_hs] at m0;clear hb0)))
  go_ret
  exact ⟨rfl,((HA.out.trans (HB0.out.mono HA.out.size)).trans (HB1.out.mono (HA.out.trans (HB0.out.mono HA.out.size)).size))⟩
theorem eqClause_of {d:Nat} (h0:EqC 158 (fun w v es=>Rows w All 6 (HEx w All d) v es)) (h1:EqC 158 (fun w v es=>Rows w All 6 (HEx w All d) v es)) :
    EqC 135 (fun w v e=>∃ cs,v=.agg cs.toArray∧HCl w All (HEx w All d) cs e):=by
  intro w v1 v2 e i1 i2
  obtain ⟨cs,rfl,kv,cv,rfl,f0,f1⟩:=i1
  obtain ⟨cs,rfl,kv',cv',rfl,f0',f1'⟩:=i2
  have hal:Below w.heap.size w ((w.alloc (.cells #[kv,cv] 127)).alloc (.cells #[kv',cv'] 127)):=((Below.refl _ _).alloc (Nat.le_refl _) _).alloc (by simp) _
  have HA:Hid (Below w.heap.size w ((w.alloc (.cells #[kv,cv] 127)).alloc (.cells #[kv',cv'] 127))):=hal
  have g0:∀ w',SameOn All w w'→Rows w' All 6 (HEx w' All d) kv e.1:=fun w' hw=>f0.mono (hw) (fun _ h=>h) (fun _ _ _=>HEx.mono (hw) (fun _ h=>h))
  have g0':∀ w',SameOn All w w'→Rows w' All 6 (HEx w' All d) kv' e.1:=fun w' hw=>f0'.mono (hw) (fun _ h=>h) (fun _ _ _=>HEx.mono (hw) (fun _ h=>h))
  have g1:∀ w',SameOn All w w'→Rows w' All 6 (HEx w' All d) cv e.2:=fun w' hw=>f1.mono (hw) (fun _ h=>h) (fun _ _ _=>HEx.mono (hw) (fun _ h=>h))
  have g1':∀ w',SameOn All w w'→Rows w' All 6 (HEx w' All d) cv' e.2:=fun w' hw=>f1'.mono (hw) (fun _ h=>h) (fun _ _ _=>HEx.mono (hw) (fun _ h=>h))
  clear hal f0 f0' f1 f1'
  go_enter Tryz.func135,Tryz.ntmps135
  go_wp2_with (first | (go_at_call 158;(refine (h1 _ _ _ e.2 (g1 _ (SameOn.of_below (HA.out.trans (HB0.out.mono HA.out.size)))) (g1' _ (SameOn.of_below (HA.out.trans (HB0.out.mono HA.out.size))))).mono ?_;rintro e w1 ⟨rfl,hb1⟩;have HB1:Hid _:=hb1;clear hb1)) | (go_at_call 158;(refine (h0 _ _ _ e.1 (g0 _ (SameOn.of_below HA.out)) (g0' _ (SameOn.of_below HA.out))).mono ?_;rintro e w0 ⟨rfl,hb0⟩;have HB0:Hid _:=hb0;have k0:=(hb0.cell (p:=⟨w.heap.size,1,none⟩) (by simp only [alloc_hs];omega)).trans ((World.cell?_of_block (a:=⟨w.heap.size,1,none⟩) (Below.heap_alloc _ _ _ (by simp))).trans (cell_new _ _ _ 1 cv rfl));have m0:=(hb0.cell (p:=⟨(w.alloc (.cells #[kv,cv] 127)).heap.size,1,none⟩) (by simp)).trans (cell_new _ _ _ 1 cv' rfl);simp only [alloc_hs] at m0;clear hb0)))
  go_ret
  exact ⟨rfl,((HA.out.trans (HB0.out.mono HA.out.size)).trans (HB1.out.mono (HA.out.trans (HB0.out.mono HA.out.size)).size))⟩
theorem eqFun_of {d:Nat} (h0:EqC 102 (fun w v es=>Rows w All 2 (HCl w All (HEx w All d)) v es)) :
    EqC 72 (fun w v e=>∃ cs,v=.agg cs.toArray∧HFn w All d cs e):=by
  intro w v1 v2 e i1 i2
  obtain ⟨cs,rfl,cv,rfl,p1,p2,f0⟩:=i1
  obtain ⟨cs,rfl,cv',rfl,p1',p2',f0'⟩:=i2
  have hal:Below w.heap.size w ((w.alloc (.cells #[.string e.name,.int .i64 e.arity,cv] 91)).alloc (.cells #[.string e.name,.int .i64 e.arity,cv'] 91)):=((Below.refl _ _).alloc (Nat.le_refl _) _).alloc (by simp) _
  have HA:Hid (Below w.heap.size w ((w.alloc (.cells #[.string e.name,.int .i64 e.arity,cv] 91)).alloc (.cells #[.string e.name,.int .i64 e.arity,cv'] 91))):=hal
  have g0:∀ w',SameOn All w w'→Rows w' All 2 (HCl w' All (HEx w' All d)) cv e.clauses:=fun w' hw=>f0.mono (hw) (fun _ h=>h) (fun _ _ _ h=>h.mono (hw) (fun _ h=>h) (fun _ _=>HEx.mono (hw) (fun _ h=>h)))
  have g0':∀ w',SameOn All w w'→Rows w' All 2 (HCl w' All (HEx w' All d)) cv' e.clauses:=fun w' hw=>f0'.mono (hw) (fun _ h=>h) (fun _ _ _ h=>h.mono (hw) (fun _ h=>h) (fun _ _=>HEx.mono (hw) (fun _ h=>h)))
  clear hal f0 f0'
  go_enter Tryz.func72,Tryz.ntmps72
  go_wp2_with (first | (go_at_call 102;(refine (h0 _ _ _ e.clauses (g0 _ (SameOn.of_below HA.out)) (g0' _ (SameOn.of_below HA.out))).mono ?_;rintro e w0 ⟨rfl,hb0⟩;have HB0:Hid _:=hb0;clear hb0)))
  go_ret
  exact ⟨rfl,(HA.out.trans (HB0.out.mono HA.out.size))⟩
theorem eqRef_of {d:Nat}  :
    EqC 71 (fun w v e=>∃ cs,v=.agg cs.toArray∧HRf cs e):=by
  intro w v1 v2 e i1 i2
  obtain ⟨cs,rfl,rfl,p1,p2⟩:=i1
  obtain ⟨cs,rfl,rfl,p1',p2'⟩:=i2
  go_enter Tryz.func71,Tryz.ntmps71
  go_wp2
  go_ret
  exact ⟨rfl,((Below.refl _ _).alloc (Nat.le_refl _) _).alloc (by simp) _⟩
theorem eqModule_of {d:Nat} (h0:EqC 44 (fun w v es=>Rows w All 2 (HRf) v es)) (h1:EqC 45 (fun w v es=>Rows w All 3 (HFn w All d) v es)) :
    EqC 21 (fun w v e=>∃ cs,v=.agg cs.toArray∧HMd w All d cs e):=by
  intro w v1 v2 e i1 i2
  obtain ⟨cs,rfl,kv,cv,rfl,p1,f0,f1⟩:=i1
  obtain ⟨cs,rfl,kv',cv',rfl,p1',f0',f1'⟩:=i2
  have hal:Below w.heap.size w ((w.alloc (.cells #[.string e.name,kv,cv] 47)).alloc (.cells #[.string e.name,kv',cv'] 47)):=((Below.refl _ _).alloc (Nat.le_refl _) _).alloc (by simp) _
  have HA:Hid (Below w.heap.size w ((w.alloc (.cells #[.string e.name,kv,cv] 47)).alloc (.cells #[.string e.name,kv',cv'] 47))):=hal
  have g0:∀ w',SameOn All w w'→Rows w' All 2 HRf kv e.exports:=fun w' hw=>f0.mono (hw) (fun _ h=>h) (fun _ _ _ h=>h)
  have g0':∀ w',SameOn All w w'→Rows w' All 2 HRf kv' e.exports:=fun w' hw=>f0'.mono (hw) (fun _ h=>h) (fun _ _ _ h=>h)
  have g1:∀ w',SameOn All w w'→Rows w' All 3 (HFn w' All d) cv e.funs:=fun w' hw=>f1.mono (hw) (fun _ h=>h) (fun _ _ _ h=>h.mono (hw) (fun _ h=>h))
  have g1':∀ w',SameOn All w w'→Rows w' All 3 (HFn w' All d) cv' e.funs:=fun w' hw=>f1'.mono (hw) (fun _ h=>h) (fun _ _ _ h=>h.mono (hw) (fun _ h=>h))
  clear hal f0 f0' f1 f1'
  go_enter Tryz.func21,Tryz.ntmps21
  go_wp2_with (first | (go_at_call 45;(refine (h1 _ _ _ e.funs (g1 _ (SameOn.of_below (HA.out.trans (HB0.out.mono HA.out.size)))) (g1' _ (SameOn.of_below (HA.out.trans (HB0.out.mono HA.out.size))))).mono ?_;rintro e w1 ⟨rfl,hb1⟩;have HB1:Hid _:=hb1;clear hb1)) | (go_at_call 44;(refine (h0 _ _ _ e.exports (g0 _ (SameOn.of_below HA.out)) (g0' _ (SameOn.of_below HA.out))).mono ?_;rintro e w0 ⟨rfl,hb0⟩;have HB0:Hid _:=hb0;have k0:=(hb0.cell (p:=⟨w.heap.size,2,none⟩) (by simp only [alloc_hs];omega)).trans ((World.cell?_of_block (a:=⟨w.heap.size,2,none⟩) (Below.heap_alloc _ _ _ (by simp))).trans (cell_new _ _ _ 2 cv rfl));have m0:=(hb0.cell (p:=⟨(w.alloc (.cells #[.string e.name,kv,cv] 47)).heap.size,2,none⟩) (by simp)).trans (cell_new _ _ _ 2 cv' rfl);simp only [alloc_hs] at m0;clear hb0)))
  go_ret
  exact ⟨rfl,((HA.out.trans (HB0.out.mono HA.out.size)).trans (HB1.out.mono (HA.out.trans (HB0.out.mono HA.out.size)).size))⟩
theorem eqExp_all:∀ d,EqC 172 (fun w v e=>∃ cs,v=.agg cs.toArray∧HEx w All d cs e)
  | 0=>fun w v v' x ⟨_,_,h⟩ _=>h.elim
  | d+1=>eqExp_of (eqExpS_of (eqExp_all d)) (eqClauseS_of (eqClause_of (eqExpS_of (eqExp_all d)) (eqExpS_of (eqExp_all d))))
theorem eqClauseS_all (d:Nat):EqC 102 (fun w v es=>Rows w All 2 (HCl w All (HEx w All d)) v es) :=
  eqClauseS_of (eqClause_of (eqExpS_of (eqExp_all d)) (eqExpS_of (eqExp_all d)))
theorem eqModule_all (d:Nat):EqC 21 (fun w v m=>∃ cs,v=.agg cs.toArray∧HMd w All d cs m) :=
  eqModule_of (eqRefS_of (d:=0) (eqRef_of (d:=0))) (eqFunS_of (eqFun_of (eqClauseS_all d)))
theorem eqModuleS_of {d:Nat} (hE:EqC 21 (fun w v e=>∃ cs,v=.agg cs.toArray∧HMd w All d cs e)) :
    EqC 9 (fun w v es=>Rows w All 3 (HMd w All d) v es):=by
  intro w v1 v2 es h1 h2
  obtain ⟨p,cap,rfl,hcl,hcm,hx⟩:=h1
  obtain ⟨q,cap',rfl,hcl',hcm',hy⟩:=h2
  generalize hn:es.length=n at *
  have HN:Hid (es.length=n):=hn
  have HX:Hid _:=hx
  have HY:Hid _:=hy
  have hnb:n≤9223372036854775807:=by unfold maxLen at hcm;omega
  clear hx hy hn
  go_enter Tryz.func9,Tryz.ntmps9
  go_wp2
  go_loopw [5] (fun iv wr=>∃ k:Nat,k≤n∧iv=.int .i64 k∧Below w.heap.size w wr) (fun iv _=>n - (intOf iv).toNat)
  case atStart=>exact ⟨0,Nat.zero_le _,rfl,Below.refl _ _⟩
  case round =>
    obtain ⟨k,hk,rfl,hb⟩:=hrel
    have HB:Hid (Below w.heap.size w wr):=hb
    by_cases hlt:k<n
    · obtain ⟨x,hxk⟩:∃ x,es[k]?=some x:=⟨es[k]'(by rw [HN.out];exact hlt),List.getElem?_eq_getElem _⟩
      have hne:es≠[]:=by intro h;rw [h] at hxk;simp at hxk
      obtain ⟨g,off,rfl,_,hgl,hat⟩:=HX.out hne
      obtain ⟨g',off',rfl,_,hgl',hat'⟩:=HY.out hne
      obtain ⟨cs,hcl6,hcs,hex⟩:=hat k x hxk
      obtain ⟨cs',hcl6',hcs',hex'⟩:=hat' k x hxk
      have E1:∀ w',SameOn All wr w'→HMd w' All d cs x:=fun w' hw=>hex.mono (SameOn.trans (SameOn.of_below hb) hw) (fun _ h=>h)
      have E2:∀ w',SameOn All wr w'→HMd w' All d cs' x:=fun w' hw=>hex'.mono (SameOn.trans (SameOn.of_below hb) hw) (fun _ h=>h)
      obtain ⟨c0,c1,c2,rfl⟩:=len3 hcl6
      obtain ⟨d0,d1,d2,rfl⟩:=len3 hcl6'
      have a0:=hcs 0 (by omega)
      have b0:=hcs' 0 (by omega)
      have a1:=hcs 1 (by omega)
      have b1:=hcs' 1 (by omega)
      have a2:=hcs 2 (by omega)
      have b2:=hcs' 2 (by omega)
      rw [← hb.cell (p:=⟨g,_,none⟩) hgl] at a0 a1 a2
      rw [← hb.cell (p:=⟨g',_,none⟩) hgl'] at b0 b1 b2
      simp at a0 a1 a2 b0 b1 b2
      clear hb hcs hat hex hcl6 hcs' hat' hex' hcl6' hne
      go_wp2
      go_region_with ((go_at_call 21;refine (hE _ _ _ x ⟨_,rfl,E1 _ (by exact ⟨Nat.le_refl _,fun _ _ _=>rfl⟩)⟩ ⟨_,rfl,E2 _ (by exact ⟨Nat.le_refl _,fun _ _ _=>rfl⟩)⟩).mono ?_;rintro e w1 ⟨rfl,hb1⟩;have HB1:Hid _:=hb1;clear hb1))
      all_goals go_wp2
      all_goals
        have hbe:Below w.heap.size w w1:=by
          refine Below.trans ?_ (HB1.out.mono (by exact HB.out.size))
          repeat (first | exact HB.out | apply Below.drew)
        exact ⟨⟨k+1,by omega,by go_num,hbe⟩,by simp [intOf];omega⟩
    · go_wp2
      go_ret
      exact ⟨rfl,HB.out⟩
theorem eqModuleS_all (d:Nat):EqC 9 (fun w v es=>Rows w All 3 (HMd w All d) v es):=eqModuleS_of (eqModule_all d)
end Go.Proofs.YtefpgpbbgclemaaGreatDoor
