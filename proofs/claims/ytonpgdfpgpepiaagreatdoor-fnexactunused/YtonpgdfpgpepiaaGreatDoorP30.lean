/-
  ReachHeap
-/
import Derived.Test.YtonpgdfpgpepiaaGreatDoorP19
import Derived.Test.YtonpgdfpgpepiaaGreatDoorP10
import Derived.Deep.RegionLaw
import Derived.Deep.RegionHeldLaw
set_option maxHeartbeats 16000000
set_option linter.unusedVariables false
set_option maxRecDepth 100000
namespace Go.Proofs.YtonpgdfpgpepiaaGreatDoor
open Go.ChangeShapes Go.WideShapes Go.ChangeAt Go.RowKit
theorem nilchk (ts:Array TypeId) (t:TypeId) (a:Addr) (x y:String) (w:World):(Builtin.ssaWrapNilChk_ ts t #[.pointer (some a),strVal x,strVal y]).run Tryz.prog w=.ok (.pointer (some a)) w:=rfl
theorem me_val (name:String) (f:FuncId) (hf:(Array.find? (fun x=>x.name == name) Tryz.t117.methods).map (fun m=>(m.path,m.func))=some (#[],some (f,false))) (a:Addr) (v:Value) (w:World) (h:w.cell? a=some v) :
    (method 382 117 (.pointer (some a)) name).run Tryz.prog w=.ok (f,v) w:=by
  unfold method
  cases hm:Array.find? (fun x=>x.name == name) Tryz.t117.methods with
  | none=>rw [hm] at hf;cases hf
  | some m =>
    rw [hm] at hf
    simp at hf
    obtain ⟨h1,h2⟩:=hf
    simp [go_sem,hm,h1,h2,follow,receiverAt,Place.get,nilchk,h]
theorem me_ptr (name:String) (f:FuncId) (hf:(Array.find? (fun x=>x.name == name) Tryz.t117.methods).map (fun m=>(m.path,m.func))=some (#[],some (f,true))) (a:Addr) (w:World) :
    (method 382 117 (.pointer (some a)) name).run Tryz.prog w=.ok (f,.pointer (some a)) w:=by
  unfold method
  cases hm:Array.find? (fun x=>x.name == name) Tryz.t117.methods with
  | none=>rw [hm] at hf;cases hf
  | some m =>
    rw [hm] at hf
    simp at hf
    obtain ⟨h1,h2⟩:=hf
    simp [go_sem,hm,h1,h2,follow,receiverAt,Place.get]
theorem me_Len (a:Addr) (v:Value) (w:World) (h:w.cell? a=some v):(method 382 117 (.pointer (some a)) "Len").run Tryz.prog w=.ok (71,v) w:=me_val _ _ (by kernel_rfl) a v w h
theorem me_Less (a:Addr) (v:Value) (w:World) (h:w.cell? a=some v):(method 382 117 (.pointer (some a)) "Less").run Tryz.prog w=.ok (244,v) w:=me_val _ _ (by kernel_rfl) a v w h
theorem me_Swap (a:Addr) (v:Value) (w:World) (h:w.cell? a=some v):(method 382 117 (.pointer (some a)) "Swap").run Tryz.prog w=.ok (245,v) w:=me_val _ _ (by kernel_rfl) a v w h
theorem me_Push (a:Addr) (w:World):(method 382 117 (.pointer (some a)) "Push").run Tryz.prog w=.ok (247,.pointer (some a)) w:=me_ptr _ _ (by kernel_rfl) a w
theorem me_Pop (a:Addr) (w:World):(method 382 117 (.pointer (some a)) "Pop").run Tryz.prog w=.ok (246,.pointer (some a)) w:=me_ptr _ _ (by kernel_rfl) a w
/-! Rows of numbers that the call owns. -/
def intC (l:List Nat):List Value:=l.map fun (n:Nat)=>.int .i64 (n:Int)
theorem intC_len (l:List Nat):(intC l).length=l.length:=by simp [intC]
theorem intC_at {l:List Nat} {k x:Nat} (h:l[k]?=some x):(intC l)[k]?=some (.int .i64 (x:Int)):=by simp [intC,h]
theorem intC_oneCell (l:List Nat):∀ u ∈ intC l,u.oneCell'=true:=by
  intro u hu
  obtain ⟨n,_,rfl⟩:=List.mem_map.1 hu
  rfl
def OwnI (w:World) (B:Nat) (v:Value) (l:List Nat):Prop:=w.ownsRow B 3 1 v l.length (intC l)∧B≤w.heap.size
theorem info_int:(Tryz.prog.info? 3).map (fun i=>(i.zero,i.size,i.bytes))=some (some (.int .i64 0),1,8):=by kernel_rfl
theorem OwnI.next {w w':World} {B:Nat} {v:Value} {l:List Nat} (h:OwnI w B v l) (hb:Below w.heap.size w w'):OwnI w' B v l:=⟨owns_next h.1 hb,Nat.le_trans h.2 hb.size⟩
theorem OwnI.slice {w:World} {B:Nat} {v:Value} {l:List Nat} (h:OwnI w B v l):∃ p q,v=.slice p l.length q∧l.length≤maxLen:=owns_slice h.1
theorem OwnI.at {w:World} {B n q:Nat} {p:Option Addr} {l:List Nat} {k x:Nat} (h:OwnI w B (.slice p n q) l) (hk:l[k]?=some x):∃ g,p=some ⟨g,0,none⟩∧w.cell? ⟨g,k,none⟩=some (.int .i64 (x:Int)):=by
  have hl:=(List.getElem?_eq_some_iff.1 hk).1
  rcases h.1.2 with ⟨hv,hn⟩ | ⟨g,cap,cur,hv,_⟩
  · omega
  · cases hv
    exact ⟨g,rfl,(h.1.cellAt k (by omega)).trans (intC_at hk)⟩
theorem OwnI.set {w:World} {B g n q:Nat} {l:List Nat} (h:OwnI w B (.slice (some ⟨g,0,none⟩) n q) l) (k x:Nat):OwnI (w.setCell ⟨g,k,none⟩ (.int .i64 (x:Int))) B (.slice (some ⟨g,0,none⟩) n q) (l.set k x)∧w.grownBy (w.setCell ⟨g,k,none⟩ (.int .i64 (x:Int))) (some g):=by
  have hn:n=l.length:=by obtain ⟨p,c,e,_⟩:=h.slice;cases e;rfl
  subst hn
  obtain ⟨h1,h2⟩:=h.1.stored k (.int .i64 (x:Int))
  refine ⟨⟨?_,Nat.le_trans h.2 h2.size⟩,h2⟩
  have e:(intC l).set k (.int .i64 (x:Int))=intC (l.set k x):=by simp [intC,List.map_set]
  rw [e] at h1
  rw [List.length_set]
  exact h1
theorem OwnI.setO {w:World} {B b j:Nat} {v x:Value} {l:List Nat} {cs:Array Value} {t:TypeId} (h:OwnI w B v l) (hb:Blk w b cs t) (ht:t≠3):OwnI (w.setCell ⟨b,j,none⟩ x) B v l:=by
  refine ⟨⟨h.1.1,?_⟩,by rw [setCell_hs];exact h.2⟩
  rcases h.1.2 with hn | ⟨g,cap,cur,hv,hB,hh,hr⟩
  · exact .inl hn
  · refine .inr ⟨g,cap,cur,hv,hB,(Below.heap_setCell _ _ _ _ (fun e1=>?_)).trans hh,hr⟩
    have e2:g=b:=e1
    subst e2
    rw [show w.heap[g]?=_ from hb] at hh
    simp at hh
    exact ht hh.2
theorem set_swap_perm {l:List Nat} {i j x y:Nat} (hi:l[i]?=some x) (hj:l[j]?=some y):((l.set i y).set j x).Perm l:=by
  obtain ⟨hil,hix⟩:=List.getElem?_eq_some_iff.1 hi
  obtain ⟨hjl,hjy⟩:=List.getElem?_eq_some_iff.1 hj
  subst hix hjy
  exact List.set_set_perm hil hjl
structure FrH (B s:Nat) (w w':World):Prop where
  os:w'.os=w.os
  tape:w'.tape=w.tape
  output:w'.output=w.output
  size:w.heap.size≤w'.heap.size
  oth:∀ (b:Nat) (o:Obj),w.heap[b]?=some o→b≠s→(b<B∨∀ cs t fr,o=.cells cs t fr→t≠3)→w'.heap[b]?=some o
theorem FrH.refl (B s:Nat) (w:World):FrH B s w w:=⟨rfl,rfl,rfl,Nat.le_refl _,fun _ _ h _ _=>h⟩
theorem FrH.trans {B s:Nat} {a b c:World} (h:FrH B s a b) (k:FrH B s b c):FrH B s a c :=
  ⟨k.os.trans h.os,k.tape.trans h.tape,k.output.trans h.output,Nat.le_trans h.size k.size,fun g o hg hn ho=>k.oth g o (h.oth g o hg hn ho) hn ho⟩
theorem FrH.of_below {B s:Nat} {w w':World} (h:Below w.heap.size w w'):FrH B s w w' :=
  ⟨h.os,h.tape,h.output,h.size,fun b o hb _ _=>(h.block b (Array.getElem?_eq_some_iff.1 hb).1).trans hb⟩
theorem FrH.of_grown {B s:Nat} {w w':World} {v:Value} {l:List Nat} (h:OwnI w B v l) (hg:w.grownBy w' v.ownBlock):FrH B s w w' :=
  ⟨hg.os,hg.tape,hg.output,hg.size,fun b o hb _ ho=>(hg.block b (Array.getElem?_eq_some_iff.1 hb).1 (fun e=>by
    rcases h.1.2 with ⟨rfl,_⟩ | ⟨g,cap,cur,rfl,hB,hh,_⟩
    · simp [Value.ownBlock] at e
    · simp [Value.ownBlock] at e
      subst e
      rw [hh] at hb
      cases hb
      rcases ho with ho | ho
      · omega
      · exact ho _ _ _ rfl rfl)).trans hb⟩
theorem FrH.of_set {B s j:Nat} {w:World} {v:Value}:FrH B s w (w.setCell ⟨s,j,none⟩ v) :=
  ⟨rfl,rfl,rfl,by simp,fun b o hb hn _=>(Below.heap_setCell _ _ _ _ hn).trans hb⟩
theorem FrH.blk {B s b:Nat} {w w':World} {cs:Array Value} {t:TypeId} (h:FrH B s w w') (hb:Blk w b cs t) (hn:b≠s) (ht:t≠3):Blk w' b cs t:=h.oth b _ hb hn (.inr (fun cs t fr e=>by cases e;exact ht))
def Hp (w:World) (B s:Nat) (c:Value × Value × Value) (L:List Nat):Prop:=∃ v,Blk w s #[c.1,c.2.1,c.2.2,v] 114∧OwnI w B v L
theorem Hp.next {w w':World} {B s:Nat} {c:Value × Value × Value} {L:List Nat} (h:Hp w B s c L) (hb:Below w.heap.size w w'):Hp w' B s c L:=by
  obtain ⟨v,h1,h2⟩:=h
  exact ⟨v,h1.next hb,h2.next hb⟩
theorem len_any (p:Option Addr) (n q:Nat) (w:World):Calls Tryz.prog 71 #[.slice p n q] w fun e w'=>e=.returned (.int .i64 (n:Int))∧w'=w:=by
  go_enter Tryz.func71,Tryz.ntmps71
  go_wp2
  go_ret
  exact ⟨rfl,rfl⟩
theorem less_any (w:World) (B:Nat) (v:Value) (L:List Nat) (h:OwnI w B v L) (i j:Nat) (hi:i<L.length) (hj:j<L.length) :
    Calls Tryz.prog 244 #[v,.int .i64 (i:Int),.int .i64 (j:Int)] w fun e w'=>∃ b,e=.returned (.bool b)∧Below w.heap.size w w':=by
  obtain ⟨p,q,rfl,hm⟩:=h.slice
  obtain ⟨x,hx⟩:∃ x,L[i]?=some x:=⟨_,List.getElem?_eq_getElem hi⟩
  obtain ⟨y,hy⟩:∃ y,L[j]?=some y:=⟨_,List.getElem?_eq_getElem hj⟩
  obtain ⟨g,rfl,cx⟩:=h.at hx
  obtain ⟨g',e,cy⟩:=h.at hy
  cases e
  have hi1:(i:Int)<(L.length:Int):=by omega
  have hj1:(j:Int)<(L.length:Int):=by omega
  have hi0:(0:Int)≤(i:Int):=by omega
  have hj0:(0:Int)≤(j:Int):=by omega
  generalize L.length=n at *
  clear h hx hy
  go_enter Tryz.func244,Tryz.ntmps244
  go_wp2
  go_quiet (fail)
  go_wp2
  go_ret
  exact ⟨_,rfl,rfl,rfl,rfl,Nat.le_refl _,fun _ _=>rfl⟩
theorem swap_any (w:World) (B:Nat) (g q:Nat) (L:List Nat) (h:OwnI w B (.slice (some ⟨g,0,none⟩) L.length q) L) (i j:Nat) (hi:i<L.length) (hj:j<L.length) :
    Calls Tryz.prog 245 #[.slice (some ⟨g,0,none⟩) L.length q,.int .i64 (i:Int),.int .i64 (j:Int)] w fun e w'=>e=.returned (.tuple #[])∧∃ L',L'.Perm L∧OwnI w' B (.slice (some ⟨g,0,none⟩) L.length q) L'∧w.grownBy w' (some g):=by
  obtain ⟨x,hx⟩:∃ x,L[i]?=some x:=⟨_,List.getElem?_eq_getElem hi⟩
  obtain ⟨y,hy⟩:∃ y,L[j]?=some y:=⟨_,List.getElem?_eq_getElem hj⟩
  obtain ⟨g',e,cx⟩:=h.at hx
  cases e
  obtain ⟨g',e,cy⟩:=h.at hy
  cases e
  have H:Hid (OwnI w B (.slice (some ⟨g,0,none⟩) L.length q) L):=h
  have fi:=h.1.frozenAt i
  have fj:=h.1.frozenAt j
  obtain ⟨z,cz⟩:∃ z,(w.setCell ⟨g,i,none⟩ (.int .i64 (y:Int))).cell? ⟨g,j,none⟩=some (.int .i64 z):=by
    have hjl:j<(L.set i y).length:=by rw [List.length_set];exact hj
    obtain ⟨g',e,c⟩:=(h.set i y).1.at (List.getElem?_eq_getElem hjl)
    cases e
    exact ⟨_,c⟩
  have HX:Hid (L[i]?=some x):=hx
  have HY:Hid (L[j]?=some y):=hy
  have hi1:(i:Int)<(L.length:Int):=by omega
  have hj1:(j:Int)<(L.length:Int):=by omega
  have hi0:(0:Int)≤(i:Int):=by omega
  have hj0:(0:Int)≤(j:Int):=by omega
  generalize hn:L.length=n at *
  clear h hx hy hn
  go_enter Tryz.func245,Tryz.ntmps245
  go_wp2_with fail
  obtain ⟨h1,g1⟩:=H.out.set i y
  obtain ⟨h2,g2⟩:=h1.set j x
  have FIN:Hid (∃ L',L'.Perm L∧OwnI ((w.setCell ⟨g,i,none⟩ (.int .i64 (y:Int))).setCell ⟨g,j,none⟩ (.int .i64 (x:Int))).drew B (.slice (some ⟨g,0,none⟩) n q) L'∧w.grownBy ((w.setCell ⟨g,i,none⟩ (.int .i64 (y:Int))).setCell ⟨g,j,none⟩ (.int .i64 (x:Int))).drew (some g)) :=
    ⟨_,set_swap_perm HX.out HY.out,h2,g2.os.trans g1.os,g2.tape.trans g1.tape,g2.output.trans g1.output,Nat.le_trans g1.size g2.size,fun k hk hn=>(g2.block k (Nat.lt_of_lt_of_le hk g1.size) hn).trans (g1.block k hk hn)⟩
  clear h1 g1 h2 g2
  go_region_law (fail)
  all_goals
    go_wp2
    go_end0
    exact ⟨rfl,FIN.out⟩
theorem ta_int (v:Value) (w:World):(Instr.typeAssert (.iface 3 v) 20 3 false).run Tryz.prog w=.ok v w:=by kernel_rfl
theorem step_append_int {w:World} {B:Nat} {v:Value} {l:List Nat} {ops:Array Oper} {o:Oper} {a:Act} {K:Act→World→Prop} {Q:Exit→Act→World→Prop} {E:Prop} (hgd:o.guard=none) (s x:Operand) (t:TypeId)
    (ho:o.op=.call { callee:=.builtin .append,args:=#[s,x],argTypes:=#[t,t] }) (ht:Tryz.prog.underlying t=some (.slice 3))
    (h:OwnI w B v l) (g:Nat) (q:Nat) (hg:w.heap[g]?=some (Obj.cells #[.int .i64 (q:Int)] 3 (0,0))) (hs:a.eval s=v) (hx:a.eval x=.slice (some ⟨g,0,none⟩) 1 1) (hl:l.length+1≤2097152)
    (k:∀ v' w',OwnI w' B v' (l ++ [q])→w.grownBy w' v.ownBlock→K (a.put o.dst v') w') :
    if Region.wanted o (yielded ops a.tmps)=true then Oper.wp Tryz.prog o a w K Q else E:=by
  have hw:Region.wanted o (yielded ops a.tmps)=true:=by simp [Region.wanted,hgd]
  rw [if_pos hw]
  obtain ⟨i,hi',hz0,hz1,hz2⟩:=info_parts info_int
  obtain ⟨g1,g3⟩:=h
  refine wp_append_own w s x _ ho B 3 i (.int .i64 0) 1 8 ht hi' hz0 hz1 hz2 rfl (by decide) v l.length (intC l) hs g1 ⟨g,0,none⟩ 1 1 (intC [q]) hx rfl (World.news_of_block (cs:=#[.int .i64 (q:Int)]) (t:=3) (fr:=(0,0)) hg) (intC_oneCell _) (by unfold maxLen;omega) (by omega) g3 ?_
  intro v' w' k1 k2 _
  refine k v' w' ⟨?_,Nat.le_trans g3 k2.size⟩ k2
  have e:intC l ++ intC [q]=intC (l ++ [q]):=by simp [intC]
  rw [e] at k1
  simpa using k1
theorem push_any (w:World) (B s:Nat) (c:Value × Value × Value) (L:List Nat) (h:Hp w B s c L) (x:Nat) (hl:L.length+1≤2097152) :
    Calls Tryz.prog 247 #[.pointer (some ⟨s,3,none⟩),.iface 3 (.int .i64 (x:Int))] w fun e w'=>e=.returned (.tuple #[])∧Hp w' B s c (L ++ [x])∧FrH B s w w':=by
  obtain ⟨v,hb,ho⟩:=h
  obtain ⟨i0,hi,hz0,hz1,hz2⟩:=info_parts info_int
  have HB:Hid (Blk w s #[c.1,c.2.1,c.2.2,v] 114):=hb
  have HO:Hid (OwnI w B v L):=ho
  have c3:=hb.cell 3 _ rfl
  have f3:=hb.frozen 3
  have ta:∀ w',(Instr.typeAssert (.iface 3 (.int .i64 (x:Int))) 20 3 false).run Tryz.prog w'=.ok (.int .i64 (x:Int)) w':=fun w'=>ta_int _ _
  clear hb ho
  go_enter Tryz.func247,Tryz.ntmps247
  go_wp2_with fail
  have BA:Hid (Below w.heap.size w ((w.alloc (.cells #[.int .i64 (x:Int)] 3)).drew)):=((Below.refl _ _).alloc (Nat.le_refl _) _).drew
  have cA:(w.alloc (.cells #[.int .i64 (x:Int)] 3)).cell? ⟨s,3,none⟩=some v:=(HB.out.alloc (o:=.cells #[.int .i64 (x:Int)] 3)).cell 3 _ rfl
  have OA:Hid (OwnI (w.alloc (.cells #[.int .i64 (x:Int)] 3)).drew B v L):=HO.out.next BA.out
  go_region_law
    (refine step_append_int (by rfl) _ _ 112 (by rfl) Tryz.underlying112 OA.out w.heap.size x (heap_alloc_new w _) (by rfl) (by rfl) (by omega) ?_;intro v9 w9 ho9 hg9;obtain ⟨p9,q9,rfl,-⟩:=ho9.slice;have O9:Hid (OwnI w9 B (.slice p9 (L.length+1) q9) (L ++ [x])):=(by show OwnI _ _ _ _;simpa using ho9);have F9:Hid (FrH B s w w9):=(FrH.of_below BA.out).trans (FrH.of_grown OA.out hg9);have HB9:Hid (Blk w9 s #[c.1,c.2.1,c.2.2,v] 114):=(FrH.of_grown (s:=s+1) OA.out hg9).blk (HB.out.next BA.out) (by omega) (by decide);have c9:=HB9.out.cell 3 _ rfl;have f9:=HB9.out.frozen 3;clear c3 f3 cA ho9 hg9)
  all_goals
    go_wp2
    go_end0
    exact ⟨rfl,⟨_,HB9.out.same rfl,O9.out.setO HB9.out (by decide)⟩,F9.out.trans FrH.of_set⟩
theorem popM_any (w:World) (B s:Nat) (c:Value × Value × Value) (L:List Nat) (h:Hp w B s c L) (hne:L≠[]) :
    Calls Tryz.prog 246 #[.pointer (some ⟨s,3,none⟩)] w fun e w'=>∃ (x:Nat) (L':List Nat),e=.returned (.iface 3 (.int .i64 (x:Int)))∧L.Perm (x :: L')∧Hp w' B s c L'∧FrH B s w w':=by
  obtain ⟨v,hb,ho⟩:=h
  obtain ⟨n,hn⟩:∃ n,L.length=n+1:=⟨L.length - 1,by have:=List.length_pos_iff.2 hne;omega⟩
  obtain ⟨p,q,rfl,hm⟩:=ho.slice
  obtain ⟨x,hx⟩:∃ x,L[n]?=some x:=⟨_,List.getElem?_eq_getElem (by omega)⟩
  obtain ⟨g,rfl,cx⟩:=ho.at hx
  have HSH:Hid (OwnI w B (.slice (some ⟨g,0,none⟩) n q) (L.take n)):=by
    have:=owns_shrink ho.1 (k:=n) (by omega)
    refine ⟨?_,ho.2⟩
    rw [List.length_take,Nat.min_eq_left (by omega)]
    have e:(intC L).take (n * 1)=intC (L.take n):=by simp [intC,List.map_take]
    rw [← e]
    exact this
  have HPM:Hid (L.Perm (x :: L.take n)):=by
    have e:L=L.take n ++ [x]:=by
      have h1:=List.take_append_drop n L
      have h2:L.drop n = [x]:=by
        rw [List.drop_eq_getElem_cons (by omega)]
        have:=(List.getElem?_eq_some_iff.1 hx).2
        rw [this,List.drop_of_length_le (by omega)]
      rw [h2] at h1
      exact h1.symm
    show List.Perm _ _
    conv=>lhs;rw [e]
    exact List.perm_append_singleton x _
  have HB:Hid (Blk w s #[c.1,c.2.1,c.2.2,.slice (some ⟨g,0,none⟩) L.length q] 114):=hb
  rw [hn] at HB hm
  have c3:=HB.out.cell 3 _ rfl
  have f3:=HB.out.frozen 3
  have hqn:n+1≤q:=by
    rcases ho.1.2 with ⟨hv,h0⟩ | ⟨g',cap',cur,hv,_,_,h1,_⟩
    · omega
    · cases hv;omega
  have hmm:n+1≤9223372036854775807:=by unfold maxLen at hm;exact hm
  clear hb ho hx hn hne hm
  go_enter Tryz.func246,Tryz.ntmps246
  go_wp2
  go_ret
  exact ⟨x,_,rfl,HPM.out,⟨_,HB.out.same rfl,HSH.out.setO HB.out (by decide)⟩,FrH.of_set⟩
theorem Hp.swapped {w w':World} {B s g q:Nat} {c:Value × Value × Value} {L L':List Nat} (hb:Blk w s #[c.1,c.2.1,c.2.2,.slice (some ⟨g,0,none⟩) L.length q] 114) (ho:OwnI w B (.slice (some ⟨g,0,none⟩) L.length q) L)
    (hp:L'.Perm L) (ho':OwnI w' B (.slice (some ⟨g,0,none⟩) L.length q) L') (hg:w.grownBy w' (some g)):Hp w' B s c L'∧FrH B s w w':=by
  have F:=FrH.of_grown (s:=s) ho hg
  have hb':=(FrH.of_grown (s:=s+1) ho hg).blk hb (by omega) (by decide)
  exact ⟨⟨_,hb',ho'⟩,F⟩
theorem swapH (w:World) (B s g q:Nat) (c:Value × Value × Value) (L:List Nat) (hb:Blk w s #[c.1,c.2.1,c.2.2,.slice (some ⟨g,0,none⟩) L.length q] 114) (ho:OwnI w B (.slice (some ⟨g,0,none⟩) L.length q) L) (i j:Nat) (hi:i<L.length) (hj:j<L.length) :
    Calls Tryz.prog 245 #[.slice (some ⟨g,0,none⟩) L.length q,.int .i64 (i:Int),.int .i64 (j:Int)] w fun e w'=>e=.returned (.tuple #[])∧∃ L',L'.Perm L∧Hp w' B s c L'∧FrH B s w w':=by
  refine (swap_any w B g q L ho i j hi hj).mono ?_
  rintro e w' ⟨rfl,L',h1,h2,h3⟩
  exact ⟨rfl,L',h1,Hp.swapped hb ho h1 h2 h3⟩
theorem Hp.some {w:World} {B s:Nat} {c:Value × Value × Value} {L:List Nat} (h:Hp w B s c L) (hn:0<L.length):∃ g q,Blk w s #[c.1,c.2.1,c.2.2,.slice (some ⟨g,0,none⟩) L.length q] 114∧OwnI w B (.slice (some ⟨g,0,none⟩) L.length q) L:=by
  obtain ⟨v,hb,ho⟩:=h
  obtain ⟨p,q,rfl,-⟩:=ho.slice
  obtain ⟨g,rfl⟩:=owns_some ho.1 hn
  exact ⟨g,q,hb,ho⟩
theorem up_any (w:World) (B s:Nat) (c:Value × Value × Value) (L:List Nat) (h:Hp w B s c L) (j:Nat) (hj:j<L.length) (hl:L.length≤2097152) :
    Calls Tryz.prog 113 #[.iface 117 (.pointer (some ⟨s,3,none⟩)),.int .i64 (j:Int)] w fun e w'=>e=.returned (.tuple #[])∧∃ L',L'.Perm L∧Hp w' B s c L'∧FrH B s w w':=by
  have H:Hid (Hp w B s c L):=h
  generalize hn:L.length=n at *
  have HN:Hid (L.length=n):=hn
  clear h hn
  go_enter Tryz.func113,Tryz.ntmps113
  go_wp2_with fail
  go_loopw [1] (fun jv wr=>∃ (k:Nat) (L1:List Nat),k<n∧jv=.int .i64 k∧Hid (L1.Perm L)∧Hid (Hp wr B s c L1)∧Hid (FrH B s w wr)) (fun jv _=>(intOf jv).toNat)
  case atStart=>exact ⟨j,L,hj,rfl,List.Perm.refl _,H,FrH.refl _ _ _⟩
  case round =>
    obtain ⟨k,L1,hk,rfl,hp,hh,hf⟩:=hrel
    have hl1:L1.length=n:=by rw [hp.out.length_eq];exact HN.out
    obtain ⟨g,q,hb,ho⟩:=hh.out.some (by omega)
    have c3:=hb.cell 3 _ rfl
    by_cases hk0:k=0
    · subst hk0
      go_wp2_with fail
      go_end0
      exact ⟨rfl,L1,hp.out,hh.out,hf.out⟩
    · obtain ⟨i0,hi0⟩:∃ i0,i0=(k - 1) / 2:=⟨_,rfl⟩
      have hik:i0<k:=by omega
      have hdiv:((k:Int) - 1).tdiv 2=(i0:Int):=by
        rw [show (k:Int) - 1=((k - 1:Nat):Int) by omega,hi0]
        rfl
      have hne:¬ (i0:Int)=(k:Int):=by omega
      have hkb:k<2097152:=by omega
      have LS:Hid (Calls Tryz.prog 244 #[.slice (some ⟨g,0,none⟩) n q,.int .i64 (k:Int),.int .i64 (i0:Int)] wr fun e w'=>∃ b,e=.returned (.bool b)∧Below wr.heap.size wr w'):=by
        have:=less_any wr B _ L1 ho k i0 (by omega) (by omega)
        rw [hl1] at this
        exact this
      have HH:Hid (Blk wr s #[c.1,c.2.1,c.2.2,.slice (some ⟨g,0,none⟩) n q] 114∧OwnI wr B (.slice (some ⟨g,0,none⟩) n q) L1):=⟨by rw [hl1] at hb;exact hb,by rw [hl1] at ho;exact ho⟩
      have HL1:Hid (L1.length=n):=hl1
      rw [hl1] at c3
      have m1:=me_Less _ _ _ c3
      clear hi0 hb ho hl1 hh
      go_wp2_with fail
      refine LS.out.mono ?_
      rintro e w5 ⟨b,rfl,hb5⟩
      have B5:Hid (Below wr.heap.size wr w5):=hb5
      have HH5:Hid (Blk w5 s #[c.1,c.2.1,c.2.2,.slice (some ⟨g,0,none⟩) n q] 114∧OwnI w5 B (.slice (some ⟨g,0,none⟩) n q) L1):=⟨HH.out.1.next hb5,HH.out.2.next hb5⟩
      have F5:Hid (FrH B s w w5):=hf.out.trans (FrH.of_below hb5)
      have c5:=HH5.out.1.cell 3 _ rfl
      clear hb5 m1 c3 LS
      cases b with
      | false =>
        go_wp2_with fail
        go_end0
        exact ⟨rfl,L1,hp.out,⟨_,HH5.out.1,HH5.out.2⟩,F5.out⟩
      | true =>
        have m2:=me_Swap _ _ _ c5
        have SW:Hid (Calls Tryz.prog 245 #[.slice (some ⟨g,0,none⟩) n q,.int .i64 (i0:Int),.int .i64 (k:Int)] w5 fun e w'=>e=.returned (.tuple #[])∧∃ L',L'.Perm L1∧Hp w' B s c L'∧FrH B s w5 w'):=by
          have:=swapH w5 B s g q c L1 (by rw [HL1.out];exact HH5.out.1) (by rw [HL1.out];exact HH5.out.2) i0 k (by rw [HL1.out];omega) (by rw [HL1.out];omega)
          rw [HL1.out] at this
          exact this
        go_wp2_with fail
        refine SW.out.mono ?_
        rintro e w6 ⟨rfl,L2,hp2,hh2,hf2⟩
        have HP2:Hid (L2.Perm L):=hp2.trans hp.out
        have HH2:Hid (Hp w6 B s c L2):=hh2
        have F6:Hid (FrH B s w w6):=F5.out.trans hf2
        clear hp2 hh2 hf2 m2 c5
        go_wp2_with fail
        exact ⟨⟨i0,L2,by omega,rfl,HP2,HH2,F6⟩,by simp [intOf];omega⟩
theorem down_any (w:World) (B s:Nat) (c:Value × Value × Value) (L:List Nat) (h:Hp w B s c L) (n:Nat) (hn:n≤L.length) (hL:0<L.length) (hl:L.length≤2097152) :
    Calls Tryz.prog 115 #[.iface 117 (.pointer (some ⟨s,3,none⟩)),.int .i64 0,.int .i64 (n:Int)] w fun e w'=>(∃ v,e=.returned v)∧∃ L',L'.Perm L∧Hp w' B s c L'∧FrH B s w w':=by
  have H:Hid (Hp w B s c L):=h
  generalize hm:L.length=m at *
  have HM:Hid (L.length=m):=hm
  clear h hm
  go_enter Tryz.func115,Tryz.ntmps115
  go_wp2_with fail
  go_loopw [7] (fun iv wr=>∃ (k:Nat) (L1:List Nat),k<m∧iv=.int .i64 k∧Hid (L1.Perm L)∧Hid (Hp wr B s c L1)∧Hid (FrH B s w wr)) (fun iv _=>m - (intOf iv).toNat)
  case atStart=>exact ⟨0,L,hL,rfl,List.Perm.refl _,H,FrH.refl _ _ _⟩
  case round =>
    obtain ⟨k,L1,hk,rfl,hp,hh,hf⟩:=hrel
    have hl1:L1.length=m:=by rw [hp.out.length_eq];exact HM.out
    obtain ⟨g,q,hb,ho⟩:=hh.out.some (by omega)
    obtain ⟨J1,hJ1⟩:∃ J1:Nat,J1=2 * k+1:=⟨_,rfl⟩
    have e1:2 * (k:Int)+1=(J1:Int):=by omega
    have hkb:k<2097152:=by omega
    have hJb:J1<4194304:=by omega
    have hJ0:¬ (J1:Int)<0:=by omega
    have HH:Hid (Blk wr s #[c.1,c.2.1,c.2.2,.slice (some ⟨g,0,none⟩) m q] 114∧OwnI wr B (.slice (some ⟨g,0,none⟩) m q) L1):=⟨by rw [hl1] at hb;exact hb,by rw [hl1] at ho;exact ho⟩
    have HL1:Hid (L1.length=m):=hl1
    have LS:Hid (∀ (w':World) (i j:Nat),OwnI w' B (.slice (some ⟨g,0,none⟩) m q) L1→i<m→j<m→Calls Tryz.prog 244 #[.slice (some ⟨g,0,none⟩) m q,.int .i64 (i:Int),.int .i64 (j:Int)] w' fun e w''=>∃ b,e=.returned (.bool b)∧Below w'.heap.size w' w''):=fun w' i j ho hi hj=>less_any w' B _ L1 ho i j (by rw [HL1.out];exact hi) (by rw [HL1.out];exact hj)
    have c3:=HH.out.1.cell 3 _ rfl
    clear hb ho hl1 hh
    by_cases hj1:n≤J1
    · have hj1':(n:Int)≤(J1:Int):=by omega
      clear hJ1
      go_wp2_with fail
      go_ret
      exact ⟨⟨_,rfl⟩,L1,hp.out,⟨_,HH.out.1,HH.out.2⟩,hf.out⟩
    · have hj1':¬ (n:Int)≤(J1:Int):=by omega
      obtain ⟨J2,hJ2⟩:∃ J2:Nat,J2=J1+1:=⟨_,rfl⟩
      have e2:(J1:Int)+1=(J2:Int):=by omega
      have HK1:Hid (k<J1∧J1<m):=⟨by omega,by omega⟩
      have REST:Hid (∀ (W:World) (J:Nat),Blk W s #[c.1,c.2.1,c.2.2,.slice (some ⟨g,0,none⟩) m q] 114∧OwnI W B (.slice (some ⟨g,0,none⟩) m q) L1→FrH B s w W→k<J→J<m→True):=fun _ _ _ _ _ _=>trivial
      by_cases hj2:J2<n
      case' pos =>
        have hj2':(J2:Int)<(n:Int):=by omega
        have HK2:Hid (k<J2∧J2<m):=⟨by omega,by omega⟩
        have m1:=me_Less _ _ _ c3
        clear hJ1 hJ2 REST
        go_wp2_with fail
        refine (LS.out wr J2 J1 HH.out.2 HK2.out.2 HK1.out.2).mono ?_
        rintro e W ⟨b,rfl,hb5⟩
        have HH5:Hid (Blk W s #[c.1,c.2.1,c.2.2,.slice (some ⟨g,0,none⟩) m q] 114∧OwnI W B (.slice (some ⟨g,0,none⟩) m q) L1):=⟨HH.out.1.next hb5,HH.out.2.next hb5⟩
        have F5:Hid (FrH B s w W):=hf.out.trans (FrH.of_below hb5)
        clear hb5 m1 c3
        obtain ⟨J,hJ⟩:∃ J,J=(if b then J2 else J1):=⟨_,rfl⟩
        have HKJ:Hid (k<J∧J<m):=by show _∧_;rw [hJ];cases b;exact HK1.out;exact HK2.out
        have c3:=HH5.out.1.cell 3 _ rfl
        have m1:=me_Less _ _ _ c3
        have m2:=me_Swap _ _ _ c3
        cases b
        case' false=>obtain rfl:J=J1:=hJ
        case' true=>obtain rfl:J=J2:=hJ
      case' neg =>
        have hj2':¬ (J2:Int)<(n:Int):=by omega
        obtain ⟨W,hW⟩:∃ W,W=wr:=⟨_,rfl⟩
        obtain ⟨J,hJ⟩:∃ J,J=J1:=⟨_,rfl⟩
        subst hW
        have HH5:Hid (Blk W s #[c.1,c.2.1,c.2.2,.slice (some ⟨g,0,none⟩) m q] 114∧OwnI W B (.slice (some ⟨g,0,none⟩) m q) L1):=HH
        have F5:Hid (FrH B s w W):=hf
        have HKJ:Hid (k<J∧J<m):=by show _∧_;rw [hJ];exact HK1.out
        have m1:=me_Less _ _ _ c3
        have m2:=me_Swap _ _ _ c3
        obtain rfl:J=J1:=hJ
        clear hJ1 hJ2 REST
      all_goals
        go_wp2_with fail
        refine (LS.out W J k HH5.out.2 HKJ.out.2 hk).mono ?_
        rintro e W6 ⟨b,rfl,hb6⟩
        have HH6:Hid (Blk W6 s #[c.1,c.2.1,c.2.2,.slice (some ⟨g,0,none⟩) m q] 114∧OwnI W6 B (.slice (some ⟨g,0,none⟩) m q) L1):=⟨HH5.out.1.next hb6,HH5.out.2.next hb6⟩
        have F6:Hid (FrH B s w W6):=F5.out.trans (FrH.of_below hb6)
        clear hb6 m1 m2 c3
        cases b with
        | false =>
          go_wp2_with fail
          go_ret
          exact ⟨⟨_,rfl⟩,L1,hp.out,⟨_,HH6.out.1,HH6.out.2⟩,F6.out⟩
        | true =>
          have c6:=HH6.out.1.cell 3 _ rfl
          have m2:=me_Swap _ _ _ c6
          have SW:Hid (Calls Tryz.prog 245 #[.slice (some ⟨g,0,none⟩) m q,.int .i64 (k:Int),.int .i64 (J:Int)] W6 fun e w'=>e=.returned (.tuple #[])∧∃ L',L'.Perm L1∧Hp w' B s c L'∧FrH B s W6 w'):=by
            have:=swapH W6 B s g q c L1 (by rw [HL1.out];exact HH6.out.1) (by rw [HL1.out];exact HH6.out.2) k J (by rw [HL1.out];exact hk) (by rw [HL1.out];exact HKJ.out.2)
            rw [HL1.out] at this
            exact this
          go_wp2_with fail
          refine SW.out.mono ?_
          rintro e W7 ⟨rfl,L2,hp2,hh2,hf2⟩
          have HP2:Hid (L2.Perm L):=hp2.trans hp.out
          have HH2:Hid (Hp W7 B s c L2):=hh2
          have F7:Hid (FrH B s w W7):=F6.out.trans hf2
          clear hp2 hh2 hf2 m2 c6
          go_wp2_with fail
          have hJJ:=HKJ.out
          exact ⟨⟨J,L2,hJJ.2,rfl,HP2,HH2,F7⟩,by simp [intOf];omega⟩
theorem heapPush_any (w:World) (B s:Nat) (c:Value × Value × Value) (L:List Nat) (h:Hp w B s c L) (x:Nat) (hl:L.length+1≤2097152) :
    Calls Tryz.prog 69 #[.iface 117 (.pointer (some ⟨s,3,none⟩)),.iface 3 (.int .i64 (x:Int))] w fun e w'=>e=.returned (.tuple #[])∧∃ L',L'.Perm (L ++ [x])∧Hp w' B s c L'∧FrH B s w w':=by
  have PU:=push_any w B s c L h x hl
  have m0:=me_Push ⟨s,3,none⟩ w
  have UP:Hid (∀ w',Hp w' B s c (L ++ [x])→Calls Tryz.prog 113 #[.iface 117 (.pointer (some ⟨s,3,none⟩)),.int .i64 (L.length:Int)] w' fun e w''=>e=.returned (.tuple #[])∧∃ L',L'.Perm (L ++ [x])∧Hp w'' B s c L'∧FrH B s w' w''):=fun w' h'=>up_any w' B s c (L ++ [x]) h' L.length (by simp) (by simp;omega)
  have PP:Hid (Calls Tryz.prog 247 #[.pointer (some ⟨s,3,none⟩),.iface 3 (.int .i64 (x:Int))] w fun e w'=>e=.returned (.tuple #[])∧Hp w' B s c (L ++ [x])∧FrH B s w w'):=PU
  have hln:L.length<2097152:=by omega
  clear PU h hl
  generalize hn:L.length=n at *
  have HN:Hid (L.length=n):=hn
  clear hn
  go_enter Tryz.func69,Tryz.ntmps69
  go_wp2_with fail
  refine PP.out.mono ?_
  rintro e w2 ⟨rfl,h2,f2⟩
  have H2:Hid (Hp w2 B s c (L ++ [x])):=h2
  have F2:Hid (FrH B s w w2):=f2
  obtain ⟨g,q,hb,ho⟩:=h2.some (by simp)
  have c3:=hb.cell 3 _ rfl
  have hle:(L ++ [x]).length=n+1:=by simp [HN.out]
  rw [hle] at c3
  have m1:=me_Len _ _ _ c3
  clear h2 f2 hb ho m0 hle c3
  go_wp2_with (go_at_call 71;refine (len_any _ _ _ _).mono ?_;rintro e w' ⟨rfl,hw⟩;obtain rfl:=hw.symm)
  refine (UP.out _ H2.out).mono ?_
  rintro e w3 ⟨rfl,L3,p3,h3,f3⟩
  have FIN:Hid (∃ L',L'.Perm (L ++ [x])∧Hp w3 B s c L'∧FrH B s w w3):=⟨L3,p3,h3,F2.out.trans f3⟩
  clear p3 h3 f3
  go_wp2_with fail
  go_end0
  exact ⟨rfl,FIN.out⟩
theorem heapPop_any (w:World) (B s:Nat) (c:Value × Value × Value) (L:List Nat) (h:Hp w B s c L) (hne:L≠[]) (hl:L.length≤2097152) :
    Calls Tryz.prog 72 #[.iface 117 (.pointer (some ⟨s,3,none⟩))] w fun e w'=>∃ (x:Nat) (L':List Nat),e=.returned (.iface 3 (.int .i64 (x:Int)))∧L.Perm (x :: L')∧Hp w' B s c L'∧FrH B s w w':=by
  obtain ⟨n,hn⟩:∃ n,L.length=n+1:=⟨L.length - 1,by have:=List.length_pos_iff.2 hne;omega⟩
  obtain ⟨g,q,hb,ho⟩:=h.some (by omega)
  have HN:Hid (L.length=n+1):=hn
  have c3:=hb.cell 3 _ rfl
  rw [hn] at c3
  have m1:=me_Len _ _ _ c3
  have m2:=me_Swap _ _ _ c3
  have SW:Hid (Calls Tryz.prog 245 #[.slice (some ⟨g,0,none⟩) (n+1) q,.int .i64 0,.int .i64 (n:Int)] w fun e w'=>e=.returned (.tuple #[])∧∃ L',L'.Perm L∧Hp w' B s c L'∧FrH B s w w'):=by
    have:=swapH w B s g q c L hb ho 0 n (by omega) (by omega)
    rw [hn] at this
    exact this
  have DN:Hid (∀ (w':World) (L':List Nat),L'.Perm L→Hp w' B s c L'→Calls Tryz.prog 115 #[.iface 117 (.pointer (some ⟨s,3,none⟩)),.int .i64 0,.int .i64 (n:Int)] w' fun e w''=>(∃ v,e=.returned v)∧∃ L'',L''.Perm L'∧Hp w'' B s c L''∧FrH B s w' w''):=fun w' L' hp h'=>by
    have e:=hp.length_eq
    exact down_any w' B s c L' h' n (by omega) (by omega) (by omega)
  have hnb:n<2097152:=by omega
  clear h hne hl hn hb ho c3
  go_enter Tryz.func72,Tryz.ntmps72
  go_wp2_with (go_at_call 71;refine (len_any _ _ _ _).mono ?_;rintro e w' ⟨rfl,hw⟩;obtain rfl:=hw.symm)
  refine SW.out.mono ?_
  rintro e w2 ⟨rfl,L2,p2,h2,f2⟩
  have P2:Hid (L2.Perm L):=p2
  have H2:Hid (Hp w2 B s c L2):=h2
  have F2:Hid (FrH B s w w2):=f2
  clear p2 h2 f2 m1 m2
  go_wp2_with fail
  refine (DN.out _ _ P2.out H2.out).mono ?_
  rintro e w3 ⟨⟨v3,rfl⟩,L3,p3,h3,f3⟩
  have P3:Hid (L3.Perm L):=p3.trans P2.out
  have H3:Hid (Hp w3 B s c L3):=h3
  have F3:Hid (FrH B s w w3):=F2.out.trans f3
  have m3:=me_Pop ⟨s,3,none⟩ w3
  have hn3:L3≠[]:=fun e=>by
    have h1:=P3.out.length_eq
    rw [e,HN.out] at h1
    simp at h1
  have PM:Hid (Calls Tryz.prog 246 #[.pointer (some ⟨s,3,none⟩)] w3 fun e w'=>∃ (x:Nat) (L':List Nat),e=.returned (.iface 3 (.int .i64 (x:Int)))∧L3.Perm (x :: L')∧Hp w' B s c L'∧FrH B s w3 w'):=popM_any w3 B s c L3 H3.out hn3
  clear p3 h3 f3 hn3
  go_wp2_with fail
  refine PM.out.mono ?_
  rintro e w4 ⟨x,L4,rfl,p4,h4,f4⟩
  have FIN:Hid (L.Perm (x :: L4)∧Hp w4 B s c L4∧FrH B s w w4):=⟨P3.out.symm.trans p4,h4,F3.out.trans f4⟩
  clear p4 h4 f4
  go_wp2_with fail
  go_ret
  exact ⟨x,L4,rfl,FIN.out⟩
end Go.Proofs.YtonpgdfpgpepiaaGreatDoor
