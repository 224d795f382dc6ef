/-
  RowH
-/
import Derived.Test.YtbdhpganbbandaaGreatDoorP15
import Derived.Test.YtbdhpganbbandaaGreatDoorP10
set_option maxHeartbeats 16000000
set_option linter.unusedVariables false
set_option maxRecDepth 100000
namespace Go.Proofs.YtbdhpganbbandaaGreatDoor
open Go.ChangeShapes Go.WideShapes Go.ChangeAt Go.RowKit
section
theorem owns_below {w w':World} {B:Nat} {e:TypeId} {c n:Nat} {v:Value} {cells:List Value} (h:w.ownsRow B e c v n cells) (hg:w.grownBy w' v.ownBlock) (hB:B<=w.heap.size):Below B w w' :=
 ⟨hg.os,hg.tape,hg.output,hg.size,λj hj=>hg.block j (by omega) (λe=>by
  have:=(owns_own_lt h e.symm).1
  omega)⟩
theorem owns_next {w w':World} {B:Nat} {e:TypeId} {c n:Nat} {v:Value} {cells:List Value} (h:w.ownsRow B e c v n cells) (hb:Bz w w'):w'.ownsRow B e c v n cells:=by
 refine ⟨h.1,?_⟩
 rcases h.2 with hn | ⟨g,cap,cur,hv,hB,hg,hr⟩
 . exact .inl hn
 . exact .inr ⟨g,cap,cur,hv,hB,(hb.block g (Array.getElem?_eq_some_iff.1 hg).1).trans hg,hr⟩
theorem owns_fresh {w:World} {e:TypeId} {c:Nat}:(w.alloc (.cells #[] e)).ownsRow w.heap.size e c (.slice (some ⟨w.heap.size,0,none⟩) 0 0) 0 []:=by
 refine ⟨by simp,.inr ⟨w.heap.size,0,#[],rfl,Nat.le_refl _,?_,Nat.le_refl _,Nat.zero_le _,by simp,by simp⟩⟩;exact Blk.new (w:=w) (cs:=#[]) (t:=e)
theorem owns_apart {w w':World} {B B':Nat} {e e':TypeId} {c c' n n':Nat} {v v':Value} {xs xs':List Value} (h:w.ownsRow B e c v n xs) (k:w.ownsRow B' e' c' v' n' xs') (hne:e≠e') (hg:w.grownBy w' v.ownBlock):w'.ownsRow B' e' c' v' n' xs':=by
 refine ⟨k.1,?_⟩
 rcases k.2 with hn | ⟨g,cap,cur,hv,hB,hh,hr⟩
 . exact .inl hn
 . refine .inr ⟨g,cap,cur,hv,hB,(hg.block g (Array.getElem?_eq_some_iff.1 hh).1 (λe1=>?_)).trans hh,hr⟩
   rcases h.2 with ⟨rfl,_⟩ | ⟨g2,cap2,cur2,rfl,_,hh2,_⟩
   . simp [Value.ownBlock] at e1
   . simp [Value.ownBlock] at e1
     subst e1;rw [hh] at hh2;simp at hh2;exact hne hh2.2.symm
theorem owns_base {w:World} {B:Nat} {e:TypeId} {c n:Nat} {v:Value} {xs:List Value} (h:w.ownsRow B e c v n xs):w.ownsRow 0 e c v n xs:=by
 refine ⟨h.1,?_⟩
 rcases h.2 with hn | ⟨g,cap,cur,hv,hB,hr⟩
 . exact .inl hn
 . exact .inr ⟨g,cap,cur,hv,Nat.zero_le _,hr⟩
theorem owns_slice {w:World} {B:Nat} {e:TypeId} {c n:Nat} {v:Value} {xs:List Value} (h:w.ownsRow B e c v n xs):∃ p q,v=.slice p n q/\n<=maxLen:=by
 rcases h.2 with ⟨rfl,rfl⟩ | ⟨g,cap,cur,rfl,hB,hh,h1,h2,_⟩
 . exact ⟨_,_,rfl,Nat.zero_le _⟩
 . exact ⟨_,_,rfl,Nat.le_trans h1 h2⟩
theorem owns_some {w:World} {B:Nat} {e:TypeId} {c n q:Nat} {p:Option Addr} {xs:List Value} (h:w.ownsRow B e c (.slice p n q) n xs) (hn:0<n):∃ g,p=some ⟨g,0,none⟩:=by
 rcases h.2 with ⟨hv,rfl⟩ | ⟨g,cap,cur,hv,_⟩
 . omega
 . simp at hv
   exact ⟨g,hv.1⟩
def ApartE (e:TypeId) (w w':World):Prop:=∀ (b:Nat) (cs:Array Value) (t:TypeId) (fr:Nat × Nat),w.heap[b]?=some (Obj.cells cs t fr)->t≠e->w'.heap[b]?=w.heap[b]?
theorem ApartE.blk {e t:TypeId} {w w':World} (h:ApartE e w w') {b:Nat} {cs:Array Value} (hb:Blk w b cs t) (ht:t≠e):Blk w' b cs t:=(h b cs t _ hb ht).trans hb
theorem ApartE.owns {e t:TypeId} {w w':World} (h:ApartE e w w') {B c n:Nat} {v:Value} {xs:List Value} (k:w.ownsRow B t c v n xs) (ht:t≠e):w'.ownsRow B t c v n xs:=by
 refine ⟨k.1,?_⟩
 rcases k.2 with hn | ⟨g,cap,cur,hv,hB,hh,hr⟩
 . exact .inl hn
 . exact .inr ⟨g,cap,cur,hv,hB,(h g _ _ _ hh ht).trans hh,hr⟩
theorem ApartE.of_below {e:TypeId} {w w':World} (h:Bz w w'):ApartE e w w':=λb _ _ _ hb _=>h.block b (Array.getElem?_eq_some_iff.1 hb).1
theorem ApartE.trans {e:TypeId} {a b c:World} (h:ApartE e a b) (k:ApartE e b c):ApartE e a c:=λg cs t fr hg ht=>by
 have h1:=h g cs t fr hg ht;exact (k g cs t fr (h1.trans hg) ht).trans h1
theorem ApartE.of_grown {e:TypeId} {w w':World} {B c n:Nat} {v:Value} {xs:List Value} (h:w.ownsRow B e c v n xs) (hg:w.grownBy w' v.ownBlock):ApartE e w w':=λb cs t fr hb ht =>
 hg.block b (Array.getElem?_eq_some_iff.1 hb).1 (λe1=>by
  rcases h.2 with ⟨rfl,_⟩ | ⟨g2,cap2,cur2,rfl,_,hh2,_⟩
  . simp [Value.ownBlock] at e1
  . simp [Value.ownBlock] at e1
    subst e1;rw [hb] at hh2;simp at hh2
    exact ht hh2.2.1)
def OwnG {α:Type} (e:TypeId) (c:Nat) (R:List Value->α->Prop) (w:World) (B:Nat) (v:Value) (l:List α):Prop:=(∃ cells,w.ownsRow B e c v l.length cells/\CellsR c R cells l)/\B<=w.heap.size
section
variable {α:Type} {e:TypeId} {c:Nat} {R:List Value->α->Prop} {w w':World} {B B':Nat} {v:Value} {l:List α}
theorem OwnG.next (h:OwnG e c R w B v l) (hb:Bz w w'):OwnG e c R w' B v l:=by
 obtain ⟨⟨cells,h1,h2⟩,h3⟩:=h;exact ⟨⟨cells,owns_next h1 hb,h2⟩,Nat.le_trans h3 hb.size⟩
theorem OwnG.base (h:OwnG e c R w B v l) (hB:B'<=B):OwnG e c R w B' v l:=by
 obtain ⟨⟨cells,h1,h2⟩,h3⟩:=h;refine ⟨⟨cells,⟨h1.1,?_⟩,h2⟩,Nat.le_trans hB h3⟩
 rcases h1.2 with hn | ⟨g,cap,cur,hv,hB1,hr⟩
 . exact .inl hn
 . exact .inr ⟨g,cap,cur,hv,Nat.le_trans hB hB1,hr⟩
theorem OwnG.fresh:OwnG e c R (w.alloc (.cells #[] e)) w.heap.size (.slice (some ⟨w.heap.size,0,none⟩) 0 0) [] :=
 ⟨⟨[],owns_fresh,CellsR.nil⟩,by rw [alloc_hs];omega⟩
theorem OwnG.rows (h:OwnG e c R w B v l):Rows w All c R v l:=by
 obtain ⟨⟨cells,h1,h2⟩,h3⟩:=h;exact CellsR.rows h1 h2 rfl
theorem OwnG.slice (h:OwnG e c R w B v l):∃ p q,v=.slice p l.length q/\l.length<=maxLen:=by
 obtain ⟨⟨cells,h1,h2⟩,h3⟩:=h;exact owns_slice h1
theorem wpList_append_one {P:Program} {w0:World} {ops:Array Oper} {rest:List Oper} {o:Oper} {a:Act} {Q:Exit->Act->World->Prop} (hgd:o.guard=none) (s x:Operand) (t:TypeId)
 (ho:o.op=.call { callee:=.builtin .append,args:=#[s,x],argTypes:=#[t,t] })
 (z:Value) (bytes:Nat) (ht:P.underlying t=some (.slice e)) (hi:(P.info? e).map (λi=>(i.zero,i.size,i.bytes))=some (some z,c,bytes)) (hzs:z.cells.size=c) (hsz:0<c)
 (h:OwnG e c R w0 B v l) (cs:Array Value) (q:α) (hq:R cs.toList q) (hc:cs.size=c) (h1:∀ u ∈ cs.toList,u.oneCell'=true) (hs:a.eval s=v) (hx:a.eval x=.slice (some ⟨w0.heap.size,0,none⟩) 1 1)
 (hl:l.length+1<=16777216) (hb:bytes<=1000)
 (k:∀ v' w',OwnG e c R w' B v' (l ++ [q])->Below B w0 w'->ApartE e w0 w'->wpList P ops Q rest (a.put o.dst v') w'):wpList P ops Q (o :: rest) a (w0.alloc (.cells cs e)):=by
 obtain ⟨i,hi',hz0,hz1,hz2⟩:=info_parts hi;obtain ⟨⟨cells,g1,g2⟩,g3⟩:=h;have hal:Bz w0 (w0.alloc (.cells cs e)):=(sqN _ _);have own:=owns_next g1 hal
 refine wpList_append_own _ hgd s x t ho B e i z c bytes ht hi' hz0 hz1 hz2 hzs hsz v l.length cells hs own ⟨w0.heap.size,0,none⟩ 1 1 cs.toList hx (by simp [hc]) (World.news_of_block (cs:=cs) (t:=e) (fr:=(0,0)) (heap_alloc_new w0 _)) h1 (by unfold maxLen;omega) (by
  have:(l.length+1) * bytes<=16777216 * 1000:=Nat.mul_le_mul hl hb
  omega) (by rw [alloc_hs];omega) ?_
 intro v' w' k1 k2 _;refine k v' w' ⟨⟨_,by simpa using k1,g2.append (CellsR.one (by simpa using hc) hq)⟩,Nat.le_trans (by rw [alloc_hs];omega) k2.size⟩ ?_ ((ApartE.of_below hal).trans (ApartE.of_grown own k2));exact (hal.mono g3).trans (owns_below own k2 (by rw [alloc_hs];omega))
theorem wpList_append_own_rows {P:Program} {S:Nat->Prop} {ops:Array Oper} {rest:List Oper} {o:Oper} {a:Act} {Q:Exit->Act->World->Prop} (hgd:o.guard=none) (s x:Operand) (t:TypeId)
 (ho:o.op=.call { callee:=.builtin .append,args:=#[s,x],argTypes:=#[t,t] })
 (z:Value) (bytes:Nat) (ht:P.underlying t=some (.slice e)) (hi:(P.info? e).map (λi=>(i.zero,i.size,i.bytes))=some (some z,c,bytes)) (hzs:z.cells.size=c) (hsz:0<c)
 (h:OwnG e c R w B v l) (hs:a.eval s=v) (u:Value) (m:List α) (hx:a.eval x=u) (hr:Rows w S c R u m) (hone:∀ cs y,R cs y->∀ q ∈ cs,q.oneCell'=true)
 (hl:l.length+m.length<=16777216) (hb:bytes<=1000)
 (k:∀ v' w',OwnG e c R w' B v' (l ++ m)->Below B w w'->ApartE e w w'->wpList P ops Q rest (a.put o.dst v') w'):wpList P ops Q (o :: rest) a w:=by
 obtain ⟨i,hi',hz0,hz1,hz2⟩:=info_parts hi;obtain ⟨⟨cells,g1,g2⟩,g3⟩:=h
 refine wpList_append_rows hgd s x t ho B e i z c bytes ht hi' hz0 hz1 hz2 hzs hsz v l.length cells hs g1 u m hx hr hone (by unfold maxLen;omega) (by
  have:(l.length+m.length) * bytes<=16777216 * 1000:=Nat.mul_le_mul hl hb
  omega) g3 ?_
 intro v' w' news hc k1 k2;exact k v' w' ⟨⟨_,by simpa using k1,g2.append hc⟩,Nat.le_trans g3 k2.size⟩ (owns_below g1 k2 g3) (ApartE.of_grown g1 k2)
theorem wpList_append_lies {P:Program} {w0:World} {ops:Array Oper} {rest:List Oper} {o:Oper} {a:Act} {Q:Exit->Act->World->Prop} (hgd:o.guard=none) (s x:Operand) (t:TypeId)
 (ho:o.op=.call { callee:=.builtin .append,args:=#[s,x],argTypes:=#[t,t] })
 (z:Value) (bytes:Nat) (ht:P.underlying t=some (.slice e)) (hi:(P.info? e).map (λi=>(i.zero,i.size,i.bytes))=some (some z,c,bytes)) (hzs:z.cells.size=c) (hsz:0<c)
 (h:OwnG e c R w0 B v l) (cs:Array Value) (q:α) (hq:R cs.toList q) (hc:cs.size=c) (h1:∀ u ∈ cs.toList,u.oneCell'=true) (hs:a.eval s=v) (hx:a.eval x=.slice (some ⟨w0.heap.size,0,none⟩) 1 1)
 (hl:l.length+1<=16777216) (hb:bytes<=1000)
 (k:∀ g cap w',OwnG e c R w' B (.slice (some ⟨g,0,none⟩) (l.length+1) cap) (l ++ [q])->Below B w0 w'->ApartE e w0 w'->(v.ownBlock=some g\/w0.heap.size<=g)->(∀ j,j<w0.heap.size->some j≠v.ownBlock->w'.heap[j]?=w0.heap[j]?)->wpList P ops Q rest (a.put o.dst (.slice (some ⟨g,0,none⟩) (l.length+1) cap)) w'):wpList P ops Q (o :: rest) a (w0.alloc (.cells cs e)):=by
 obtain ⟨i,hi',hz0,hz1,hz2⟩:=info_parts hi;obtain ⟨⟨cells,g1,g2⟩,g3⟩:=h;have hal:Bz w0 (w0.alloc (.cells cs e)):=(sqN _ _);have own:=owns_next g1 hal
 refine wpList_plain hgd λ_ hK=>wp_append_lies _ s x t ho B e i z c bytes ht hi' hz0 hz1 hz2 hzs hsz v l.length cells hs own ⟨w0.heap.size,0,none⟩ 1 1 cs.toList hx (by simp [hc]) (World.news_of_block (cs:=cs) (t:=e) (fr:=(0,0)) (heap_alloc_new w0 _)) h1 (by omega) (by unfold maxLen;omega) (by
  have:(l.length+1) * bytes<=16777216 * 1000:=Nat.mul_le_mul hl hb
  omega) (by rw [alloc_hs];omega) (w0.heap.size+1) (by rw [alloc_hs]) ?_
 intro g cap w' k1 k2 k3 k4;refine hK _ _ (k g cap w' ⟨⟨_,by simpa using k1,g2.append (CellsR.one (by simpa using hc) hq)⟩,Nat.le_trans (by rw [alloc_hs];omega) k2.size⟩ ?_ ((ApartE.of_below hal).trans (ApartE.of_grown own k2)) (k3.imp id (λe=>by omega)) (λj hj hn=>?_))
 . exact (hal.mono g3).trans (owns_below own k2 (by rw [alloc_hs];omega))
 . exact (k2.block j (by rw [alloc_hs];omega) hn).trans (hal.block j hj)
theorem OwnG.setCell {b j:Nat} {cs:Array Value} {t:TypeId} {x:Value} (h:OwnG e c R w B v l) (hb:Blk w b cs t) (ht:t≠e):OwnG e c R (w.setCell ⟨b,j,none⟩ x) B v l:=by
 obtain ⟨⟨cells,g1,g2⟩,g3⟩:=h;refine ⟨⟨cells,⟨g1.1,?_⟩,g2⟩,by rw [setCell_hs];exact g3⟩
 rcases g1.2 with hn | ⟨g,cap,cur,hv,hB,hh,hr⟩
 . exact .inl hn
 . refine .inr ⟨g,cap,cur,hv,hB,(Below.heap_setCell _ _ _ _ (λe1=>?_)).trans hh,hr⟩
   have e2:g=b:=e1;subst e2;rw [show w.heap[g]?=_ from hb] at hh;simp at hh;exact ht hh.2
theorem step_append_blk {P:Program} {ops:Array Oper} {o:Oper} {a:Act} {K:Act->World->Prop} {Q:Exit->Act->World->Prop} {E:Prop} (hgd:o.guard=none) (s x:Operand) (t:TypeId)
 (ho:o.op=.call { callee:=.builtin .append,args:=#[s,x],argTypes:=#[t,t] })
 (z:Value) (bytes:Nat) (ht:P.underlying t=some (.slice e)) (hi:(P.info? e).map (λi=>(i.zero,i.size,i.bytes))=some (some z,c,bytes)) (hzs:z.cells.size=c) (hsz:0<c)
 (h:OwnG e c R w B v l) (g:Nat) (cs:Array Value) (hg:w.heap[g]?=some (Obj.cells cs e (0,0))) (q:α) (hq:R cs.toList q) (hc:cs.size=c) (h1:∀ u ∈ cs.toList,u.oneCell'=true) (hs:a.eval s=v) (hx:a.eval x=.slice (some ⟨g,0,none⟩) 1 1)
 (hl:l.length+1<=16777216) (hb:bytes<=1000)
 (k:∀ v' w',OwnG e c R w' B v' (l ++ [q])->Below B w w'->ApartE e w w'->K (a.put o.dst v') w') :
 if Region.wanted o (yielded ops a.tmps)=true then Oper.wp P o a w K Q else E:=by
 have hw:Region.wanted o (yielded ops a.tmps)=true:=(by simp [Region.wanted,hgd]);rw [if_pos hw];obtain ⟨i,hi',hz0,hz1,hz2⟩:=info_parts hi;obtain ⟨⟨cells,g1,g2⟩,g3⟩:=h
 refine wp_append_own w s x t ho B e i z c bytes ht hi' hz0 hz1 hz2 hzs hsz v l.length cells hs g1 ⟨g,0,none⟩ 1 1 cs.toList hx (by simp [hc]) (World.news_of_block (cs:=cs) (t:=e) (fr:=(0,0)) hg) h1 (by unfold maxLen;omega) (by
  have:(l.length+1) * bytes<=16777216 * 1000:=Nat.mul_le_mul hl hb
  omega) g3 ?_
 intro v' w' k1 k2 _;exact k v' w' ⟨⟨_,by simpa using k1,g2.append (CellsR.one (by simpa using hc) hq)⟩,Nat.le_trans g3 k2.size⟩ (owns_below g1 k2 g3) (ApartE.of_grown g1 k2)
end
end
end Go.Proofs.YtbdhpganbbandaaGreatDoor
