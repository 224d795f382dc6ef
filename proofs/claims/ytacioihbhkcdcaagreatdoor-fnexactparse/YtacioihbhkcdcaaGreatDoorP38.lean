/-
  RangeOff ConsW TreeTy
-/
import Derived.Test.YtacioihbhkcdcaaGreatDoorP32
import Derived.Test.YtacioihbhkcdcaaGreatDoorP12
set_option maxHeartbeats 16000000
set_option linter.unusedVariables false
set_option maxRecDepth 100000
namespace Go.Proofs.YtacioihbhkcdcaaGreatDoor
open Go.ChangeShapes Go.WideShapes Go.ChangeAt Go.RowKit
section
open Go.Maps Go.WideMaps Go.Shelf
attribute [local go_sem] Oper.semAt_some
def IsC (w:World) (a:Nat):Prop:=∃ cs t fr,w.heap[a]?=some (.cells cs t fr)
theorem Zy.cel {α:Type} {w:World} {e:TypeId} {c:Nat} {R:List Value->α->List Nat->Prop} {v:Value} {xs:List α} {fp:List Nat} (h:Zy w e c R v xs fp) (hR:∀ cs x f,R cs x f->∀ a ∈ f,IsC w a):∀ a ∈ fp,IsC w a:=by
 rcases h with ⟨_,rfl,_⟩ | ⟨hne,cells,g,cap',fps,ho,hv',hl,rfl,hat⟩
 . intro a ha;simp at ha
 . intro a ha
   rcases List.mem_cons.1 ha with rfl | ha
   . rcases ho.2 with ⟨hn,_⟩ | ⟨g',cap'',cur,hv,hb,hg,hr⟩
     . rw [hv'] at hn;simp at hn
     . rw [hv'] at hv
       simp only [Value.slice.injEq,Option.some.injEq,Addr.mk.injEq] at hv;obtain ⟨⟨rfl,-,-⟩,-,-⟩:=hv;exact ⟨_,_,_,hg⟩
   . obtain ⟨f,hf,ha⟩:=List.mem_flatten.1 ha
     obtain ⟨i,hi,rfl⟩:=List.mem_iff_getElem.1 hf;obtain ⟨cs,_,_,hr⟩:=hat i (xs[i]'(by rw [<-hl];exact hi)) _ (List.getElem?_eq_getElem _) (List.getElem?_eq_getElem hi);exact hR _ _ _ hr a ha
theorem OCl.cel' {w:World} {O:List Value->Ex->List Nat->Prop} {cs:List Value} {c:Cl} {fp:List Nat} (h:OCl w O cs c fp) (hO:∀ cs x f,O cs x f->∀ a ∈ f,IsC w a):∀ a ∈ fp,IsC w a:=by
 obtain ⟨pv,bv,f1,f2,rfl,rfl,h1,h2⟩:=h;intro a ha
 rcases List.mem_append.1 ha with ha | ha
 . exact h1.cel hO a ha
 . exact h2.cel hO a ha
theorem OEx.cel {w:World}:∀ {d:Nat} {cs:List Value} {e:Ex} {fp:List Nat},OEx w d cs e fp->∀ a ∈ fp,IsC w a
 | 0,_,_,_,h=>h.elim
 | d+1,cs,e,fp,h=>by
  obtain ⟨kv,cv,f1,f2,rfl,rfl,h1,h2,h3,h4,hr,hc⟩:=h;intro a ha
  rcases List.mem_append.1 ha with ha | ha
  . exact hr.cel (λcs x f h=>h.cel) a ha
  . exact hc.cel (λcs x f h=>h.cel' (λcs x f h=>h.cel)) a ha
theorem OXT.cel {w:World} {cs:List Value} {x:Ex} {fp:List Nat} (h:OXT w cs x fp):∀ a ∈ fp,IsC w a:=by
 obtain ⟨D,h⟩:=h;exact h.cel
theorem OXT.put {w:World} {cs:List Value} {x:Ex} {fp:List Nat} (h:OXT w cs x fp) {l:Nat} {r:Loop} (hl:w.heap[l]?=some (.loop r)) (o:Obj):OXT (w.putObj l o) cs x fp :=
 OXT.keeps _ _ _ _ _ h (λa ha=>World.putObj_heap_other (λe=>by
  obtain ⟨cs,t,fr,hc⟩:=h.cel a ha;rw [e,hl] at hc
  cases hc))
theorem OXT.putD {w:World} {cs:List Value} {x:Ex} {fp:List Nat} (h:OXT w cs x fp) {l:Nat} {r:Option (List Deferred)} (hl:w.heap[l]?=some (.deferred r)) (o:Obj):OXT (w.putObj l o) cs x fp :=
 OXT.keeps _ _ _ _ _ h (λa ha=>World.putObj_heap_other (λe=>by
  obtain ⟨cs,t,fr,hc⟩:=h.cel a ha;rw [e,hl] at hc
  cases hc))
theorem Zfy {F:Fence} {n:Nat} {P:Program} {g:Operand} {ps:Array Tmp} {assign body:Code} {Q:Exit->Act->World->Prop} {a:Act} {w:World}
 (hro:F.round=none) (h1:1<=n) {gf:Nat} {lb:Array Value} (hg:a.eval g=.func (.func gf) #[] lb) (hFg:F.fn gf) (eg:∀ args w,(callFunc gf args).run P w=.ok (.enter gf args) w)
 {encs:Nat->Array Value} (hps:∀ k,(encs k).size=ps.size) (N mb:Nat) (hmb:mb<w.heap.size)
 (hseq:∀ (l:Nat) (J:Nat->World->Prop) (W:World),Bz w W ->
  (∀ k W1,J k W1->k<N->YieldAt F (n - 1 - 1) P l (encs k) W1 λe W'=>e=.returned (.bool true)/\J (k+1) W'/\Zid w.heap.size mb W1 W') ->
  J 0 W->CallsIn F (n - 1) P gf (#[.func (.yield l) #[] #[]] ++ lb) W λe W'=>(∃ v,e=.returned v)/\J N W')
 (I:Nat->World->Prop) (hI:∀ k A B,I k A->Bz A B->I k B) (hIp:∀ k A l o r,I k A->w.heap.size<=l->A.heap[l]?=some (.loop r)->I k (A.putObj l o)) (h0:I 0 w)
 (hround:∀ (l k:Nat) (W:World),I k W->w.heap.size<=W.heap.size->k<N->w.heap.size<=l ->
  assign.wpIn (F.inRound l) (n - 1 - 1) P (Exit.then (λa' W'=>Bz W W'/\∀ r o',W'.heap[l]?=some (.loop r)->body.wpIn (F.inRound l) (n - 1 - 1) P (λe _ W3=>e=.normal/\I (k+1) W3/\Off [mb] (W'.putObj l o') W3) a' (W'.putObj l o')) (λ_ _ _=>False))
   { tmps:=(ps.zip (encs k)).foldl (λt (p,v)=>t.setIfInBounds p v) a.tmps,defers:=[] } W)
 (hdone:∀ (D:Nat) (W:World),w.heap.size<=D->I N W->W.heap[D]?=some (.deferred (some []))->Q .normal { a with defers:={ target:=.collected D,args:=#[] } :: a.defers } W) :
 (Code.rangeFunc g ps assign body).wpIn F n P Q a w:=by
 refine wpIn_rangeFunc λfn hfn=>?_;rw [hro];obtain ⟨R,hR⟩:∃ R:LoopState->Loop,R=λst=>{ state:=st,pending:=none,fn:=fn,tmps:=a.tmps,params:=ps,assign:=assign,body:=body,defers:=w.heap.size }:=⟨_,rfl⟩;obtain ⟨L,hL⟩:∃ L,L=w.heap.size+1:=⟨_,rfl⟩;obtain ⟨W1,hW1⟩:∃ W1,W1=(w.alloc (.deferred (some []))).alloc (.loop (R .ready)):=⟨_,rfl⟩;have b1:Bz w W1:=(by rw [hW1];exact ((Below.refl _ w).alloc (sqR _) _).alloc (by simp) _)
 have l1:W1.heap[L]?=some (.loop (R .ready)):=by
  have:=World.alloc_heap_new (w.alloc (.deferred (some []))) (.loop (R .ready));rw [World.size_alloc] at this;rw [hW1,hL];exact this
 have k1:W1.heap[w.heap.size]?=some (.deferred (some [])):=(by rw [hW1];exact (Below.heap_alloc _ _ _ (by simp)).trans (World.alloc_heap_new w _));have hLw:w.heap.size<=L:=(by omega);have hLn:w.heap.size≠L:=(by omega);refine ⟨L,[{ target:=.collected w.heap.size,args:=#[] }],W1,{ target:=.fn (.func gf) lb,args:=#[.func (.yield L) #[] #[]] },W1,gf,#[.func (.yield L) #[] #[]] ++ lb,W1,?_,?_,?_,?_,λ_=>h1,?_⟩
 . rw [hW1,hR,hL];exact run_enterLoop_outer _ _ _ _ _
 . simp only [resolve,hg]
   simp [go_sem]
 . intro f' hf';simp [Target.leads] at hf';subst hf';exact hFg
 . simp [invoke,go_sem,eg]
 . refine (hseq L (λk W=>I k W/\W.heap[L]?=some (.loop (R .ready))/\W.heap[w.heap.size]?=some (.deferred (some []))/\w.heap.size<=W.heap.size) W1 b1 ?_ ⟨hI 0 w W1 h0 b1,l1,k1,b1.size⟩).mono ?_
   . rintro k W ⟨hi,hl,hk,hs⟩ hlen
     have hlt:L<W.heap.size:=(Array.getElem?_eq_some_iff.1 hl).1;have hdlt:w.heap.size<W.heap.size:=(Array.getElem?_eq_some_iff.1 hk).1;have hy:=run_yield (P:=P) (args:=encs k) hl (by rw [hR];exact hps k);rw [hR] at hy;refine ⟨fn,_,assign,body,hy,roundIn_of_wpIn hfn (wpIn_mono (hround L k W hi hs hlen hLw) ?_)⟩;rintro e a' W' hp
     cases e with
     | normal =>
      obtain ⟨ho0,hb⟩:=hp;have ho:Off [mb] W W':=Off.of_below ho0;have hmL:L ∉ [mb]:=(by simp;omega);have hmD:w.heap.size ∉ [mb]:=(by simp;omega);have hl':W'.heap[L]?=some (.loop (R .ready)):=(ho.block L hlt hmL).trans hl;have hk':W'.heap[w.heap.size]?=some (.deferred (some [])):=(ho.block _ hdlt hmD).trans hk;have hlt':L<W'.heap.size:=(Array.getElem?_eq_some_iff.1 hl').1;refine ⟨_,run_beginRound hl' (by rw [hR]),wpIn_mono (hb _ _ hl') ?_⟩;rintro e a3 W3 ⟨rfl,hi3,ho3⟩;have hlp:=World.putObj_heap_same (o:=.loop { R .ready with state:=.busy }) hlt';have hl2:=(ho3.block L (by simpa using hlt') hmL).trans hlp;have hk2:=(ho3.block w.heap.size (by have:=ho.size;simp;omega) hmD).trans ((World.putObj_heap_other hLn).trans hk');have hr:=run_endRound (P:=P) none hl2;have hsz3:W.heap.size<=W3.heap.size:=Nat.le_trans ho.size (by have:=ho3.size;simpa using this);refine ⟨_,_,hr,rfl,⟨hIp _ W3 L _ _ hi3 hLw hl2,?_,(World.putObj_heap_other hLn).trans hk2,by simp;omega⟩,?_⟩
      . rw [World.putObj_heap_same (Array.getElem?_eq_some_iff.1 hl2).1,hR];rfl
      . refine ⟨by simp;omega,λb hb hm=>?_⟩
        have hbL:b≠L:=(by omega);have hbm:b ∉ [mb]:=(by simpa using hm);rw [World.putObj_heap_other hbL,ho3.block b (by have:=ho.size;simp;omega) hbm,World.putObj_heap_other hbL];exact ho.block b (by omega) hbm
     | _=>exact hp.elim
   . rintro e W2 ⟨⟨v,rfl⟩,hi,hl,hk,hs⟩
     have he:=run_endLoop (P:=P) hl (by rw [hR];simp);refine ⟨none,_,by rw [hR] at he;exact he,hdone _ _ (sqR _) (hIp _ W2 L _ _ hi hLw hl) ((World.putObj_heap_other hLn).trans hk)⟩
end
section
theorem Zg0 (ts:List Tok) (E:St->Ex × St):∀ (k:Nat) (acc:List Ex) (st:St),acc≠[]->(Zap ts E k acc st).1≠[]
 | 0,acc,st,h=>h
 | k+1,acc,st,h=>by
  unfold Zap
  split
  . exact Zg0 ts E k _ _ (by simp)
  . exact h
theorem Zi6 (ts:List Tok) (E:St->Ex × St) (st:St):(pBody ts E st).1≠[]:=Zg0 ts E _ _ _ (by simp)
theorem Zey {w:World} {B C:Nat} {u:Value} {acc:List Ex} (h:Zh 108 6 OXT w B C u acc) (hne:acc≠[]) :
 ∃ (g cap':Nat) (L:List (List Value)) (fps:List (List Nat)),u=.slice (some ⟨g,0,none⟩) acc.length cap'/\g<w.heap.size/\L.length=acc.length/\fps.length=acc.length /\
  (∀ i cs,L[i]?=some cs->cs.length=6/\(∀ j,j<6->w.cell? ⟨g,0+i * 6+j,none⟩=cs[j]?)/\∀ x f,acc[i]?=some x->fps[i]?=some f->OXT w cs x f)/\(g :: fps.flatten).Nodup/\∀ a ∈ g :: fps.flatten,B<=a/\a<C:=by
 obtain ⟨fp,hO,hnd,hrg,-,-⟩:=h.done
 rcases hO with h | ⟨-,cells,g,cap',fps,ho,hv,hl,rfl,hat⟩
 . exact absurd h.1 hne
 . have:∀ i ∈ List.range acc.length,∃ cs:List Value,cs.length=6/\(∀ j,j<6->w.cell? ⟨g,0+i * 6+j,none⟩=cs[j]?)/\∀ x f,acc[i]?=some x->fps[i]?=some f->OXT w cs x f:=λi hi=>by
    have hi':i<acc.length:=(by simpa using hi);obtain ⟨cs,hcl,hcs,hr⟩:=hat i _ _ (List.getElem?_eq_getElem hi') (List.getElem?_eq_getElem (by rw [hl];exact hi'));refine ⟨cs,hcl,λj hj=>?_,λx f hx hf=>?_⟩
    . rw [<-hcs j hj,Nat.zero_add]
      have ho':=ho;rw [hv] at ho';refine ho'.cellAt (i * 6+j) ?_;omega
    . rw [List.getElem?_eq_getElem hi'] at hx
      rw [List.getElem?_eq_getElem (by rw [hl];exact hi')] at hf
      cases hx;cases hf;exact hr
   obtain ⟨L,hL,hat'⟩:=pick this;refine ⟨g,cap',L,fps,hv,Zbh ho hv,by simpa using hL,hl,λi cs hi=>?_,hnd,hrg⟩;obtain ⟨i',hi',h1,h2,h3⟩:=hat' i cs hi;have hlt:i<acc.length:=(by have:=(List.getElem?_eq_some_iff.1 hi).1;rw [hL] at this;simpa using this)
   obtain rfl:i'=i:=by
    rw [List.getElem?_range hlt] at hi';exact (Option.some.inj hi').symm
   exact ⟨h1,h2,h3⟩
def ZbV (w0:World) (ob:Nat) (acc:List Ex) (fps:List (List Nat)) (T:Ex) (Tf:List Nat) (j:Nat) (W:World):Prop :=
 ∃ (cs:List Value) (fp:List Nat),Off [ob] w0 W/\Blk W ob cs.toArray 108/\OXT W cs ((acc.drop j).foldr ZaT T) fp/\fp.Nodup/\∀ a ∈ fp,a ∈ (fps.drop j).flatten\/a ∈ Tf\/w0.heap.size<=a
section
variable {w0:World} {ob:Nat} {acc:List Ex} {fps:List (List Nat)} {T:Ex} {Tf:List Nat} {j:Nat}
theorem ZbV.next {A B:World} (h:ZbV w0 ob acc fps T Tf j A) (hb:Bz A B):ZbV w0 ob acc fps T Tf j B:=by
 obtain ⟨cs,fp,ho,hk,hx,hn,hr⟩:=h;exact ⟨cs,fp,ho.trans (Off.of_below hb),hk.next hb,OXT.keeps _ _ _ _ _ hx (Zu.below hb (λa ha=>hx.lt a ha)),hn,hr⟩
theorem ZbV.put {A:World} {l:Nat} {o:Obj} {r:Loop} (h:ZbV w0 ob acc fps T Tf j A) (hob:ob<w0.heap.size) (hw:w0.heap.size<=l) (hl:A.heap[l]?=some (.loop r)):ZbV w0 ob acc fps T Tf j (A.putObj l o):=by
 obtain ⟨cs,fp,ho,hk,hx,hn,hr⟩:=h;exact ⟨cs,fp,ho.under (sqR _) (Zbn _ hw),(World.putObj_heap_other (by omega)).trans hk,hx.put hl o,hn,hr⟩
theorem Zie {α:Type} {l:List (List α)} {j:Nat} {f:List α} (h:l[j]?=some f):(l.drop j).flatten=f ++ (l.drop (j+1)).flatten:=by
 have hlt:=(List.getElem?_eq_some_iff.1 h).1;rw [List.drop_eq_getElem_cons hlt,(List.getElem?_eq_some_iff.1 h).2,List.flatten_cons]
theorem ZbU {l:List (List Nat)} {j a:Nat} (h:a ∈ (l.drop j).flatten):a ∈ l.flatten:=by
 obtain ⟨f,hf,ha⟩:=List.mem_flatten.1 h;exact List.mem_flatten.2 ⟨f,List.mem_of_mem_drop hf,ha⟩
theorem ZbV.step {W:World} {y:Ex} {f Xf:List Nat} {a0 a1 a2 a3 a4 a5 b0 b1 b2 b3 b4 b5:Value} (hO:Off [ob] w0 W) (hB:Blk W ob #[b0,b1,b2,b3,b4,b5] 108) (hX:OXT W [b0,b1,b2,b3,b4,b5] ((acc.drop (j+1)).foldr ZaT T) Xf) (hnd:Xf.Nodup) (hrg:∀ a ∈ Xf,a ∈ (fps.drop (j+1)).flatten\/a ∈ Tf\/w0.heap.size<=a)
 (hY:OXT W [a0,a1,a2,a3,a4,a5] y f) (hy:acc[j]?=some y) (hf:fps[j]?=some f) (hfn:fps.flatten.Nodup) (hfr:∀ a ∈ fps.flatten,a<w0.heap.size/\a≠ob/\a ∉ Tf) (hTf:∀ a ∈ Tf,a<w0.heap.size/\a≠ob) (hob:ob<w0.heap.size) :
 ZbV w0 ob acc fps T Tf j (((((((W.setCell ⟨ob,0,none⟩ (.int .i64 6)).setCell ⟨ob,1,none⟩ (.int .i64 0)).setCell ⟨ob,2,none⟩ (.string ⟨#[]⟩)).setCell ⟨ob,3,none⟩ (.string ⟨#[]⟩)).setCell ⟨ob,4,none⟩ (.slice (some ⟨W.heap.size,0,none⟩) 2 2)).setCell ⟨ob,5,none⟩ (.slice none 0 0)).alloc (.cells #[a0,a1,a2,a3,a4,a5,b0,b1,b2,b3,b4,b5] 108)):=by
 have hon:=Zo (b:=ob) (w:=W) (c0:=.int .i64 6) (c1:=.int .i64 0) (c2:=.string ⟨#[]⟩) (c3:=.string ⟨#[]⟩) (c4:=.slice (some ⟨W.heap.size,0,none⟩) 2 2) (c5:=.slice none 0 0);have hbk:=Zx hB (.int .i64 6) (.int .i64 0) (.string ⟨#[]⟩) (.string ⟨#[]⟩) (.slice (some ⟨W.heap.size,0,none⟩) 2 2) (.slice none 0 0);generalize (((((W.setCell ⟨ob,0,none⟩ (.int .i64 6)).setCell ⟨ob,1,none⟩ (.int .i64 0)).setCell ⟨ob,2,none⟩ (.string ⟨#[]⟩)).setCell ⟨ob,3,none⟩ (.string ⟨#[]⟩)).setCell ⟨ob,4,none⟩ (.slice (some ⟨W.heap.size,0,none⟩) 2 2)).setCell ⟨ob,5,none⟩ (.slice none 0 0)=W1 at *;have hdf:=Zie hf;have hff:∀ a ∈ f,a ∈ fps.flatten:=λa ha=>List.mem_flatten.2 ⟨f,List.mem_of_getElem? hf,ha⟩
 have hnx:ob ∉ Xf:=λha=>by
  rcases hrg _ ha with h | h | h
  . exact (hfr _ (ZbU h)).2.1 rfl
  . exact (hTf _ h).2 rfl
  . omega
 have hny:ob ∉ f:=λha=>(hfr _ (hff _ ha)).2.1 rfl;have hX1:=hX.only hon hnx;have hY1:=hY.only hon hny;have h2:=Zy.two hY1 hX1;rw [hon.size] at h2;have ht:=OXT.mk (k:=6) (n:=0) (t:=bs []) (m:=bs []) (f2:=[]) (Zi (by omega) (by omega)) (Zi (by omega) (by omega)) ZA ZA h2 Zy.empty;rw [List.append_nil] at ht;have hb:Bz W1 (W1.alloc (.cells #[a0,a1,a2,a3,a4,a5,b0,b1,b2,b3,b4,b5] 108)):=(sqN _ _);have hs:=hO.size;have hXl:=hX.lt;have hYl:=hY.lt
 have hfd:f.Nodup/\∀ a ∈ f,a ∉ (fps.drop (j+1)).flatten:=by
  have h1:(fps.drop j).flatten.Nodup:=by
   rw [<-List.take_append_drop j fps,List.flatten_append,List.nodup_append] at hfn;exact hfn.2.1
  rw [hdf,List.nodup_append] at h1;exact ⟨h1.1,λa ha hb=>h1.2.2 a ha a hb rfl⟩
 refine ⟨[.int .i64 6,.int .i64 0,.string ⟨#[]⟩,.string ⟨#[]⟩,.slice (some ⟨W.heap.size,0,none⟩) 2 2,.slice none 0 0],W.heap.size :: (f ++ Xf),?_,hbk.next hb,?_,?_,?_⟩
 . have h1:Off [ob] w0 W1:=⟨hon.os.trans hO.os,hon.tape.trans hO.tape,hon.output.trans hO.output,by rw [hon.size];exact hs,λa ha hm=>(hon.block a (by simpa using hm)).trans (hO.block a ha hm)⟩
   exact h1.trans (Off.of_below hb)
 . have hd:acc.drop j=y :: acc.drop (j+1):=by
    have hlt:=(List.getElem?_eq_some_iff.1 hy).1;rw [List.drop_eq_getElem_cons hlt,(List.getElem?_eq_some_iff.1 hy).2]
   rw [hd];exact ht
 . refine List.nodup_cons.2 ⟨λha=>?_,List.nodup_append.2 ⟨hfd.1,hnd,λa ha b hb e=>?_⟩⟩
   . rcases List.mem_append.1 ha with ha | ha
     . exact absurd (hYl _ ha) (Nat.lt_irrefl _)
     . exact absurd (hXl _ ha) (Nat.lt_irrefl _)
   . subst e
     rcases hrg _ hb with h | h | h
     . exact hfd.2 _ ha h
     . exact (hfr _ (hff _ ha)).2.2 h
     . have:=(hfr _ (hff _ ha)).1;omega
 . intro a ha
   rcases List.mem_cons.1 ha with rfl | ha
   . exact .inr (.inr hs)
   . rcases List.mem_append.1 ha with ha | ha
     . exact .inl (by rw [hdf];exact List.mem_append_left _ ha)
     . rcases hrg _ ha with h | h | h
       . exact .inl (by rw [hdf];exact List.mem_append_right _ h)
       . exact .inr (.inl h)
       . exact .inr (.inr h)
theorem ZbV.low {W:World} (h:ZbV w0 ob acc fps T Tf j W) (hob:ob<w0.heap.size):Below ob w0 W:=by
 obtain ⟨cs,fp,ho,-⟩:=h;exact ho.below (λg hg=>by rw [List.mem_singleton.1 hg];exact Nat.le_refl _) (by omega)
end
end
def IsT (w:World) (a:Nat):Prop:=∃ cs t fr,w.heap[a]?=some (.cells cs t fr)/\(t=108\/t=64)
theorem Zy.ty {α:Type} {w:World} {e:TypeId} {c:Nat} {R:List Value->α->List Nat->Prop} {v:Value} {xs:List α} {fp:List Nat} (h:Zy w e c R v xs fp) (he:e=108\/e=64) (hR:∀ cs x f,R cs x f->∀ a ∈ f,IsT w a):∀ a ∈ fp,IsT w a:=by
 rcases h with ⟨_,rfl,_⟩ | ⟨hne,cells,g,cap',fps,ho,hv',hl,rfl,hat⟩
 . intro a ha;simp at ha
 . intro a ha
   rcases List.mem_cons.1 ha with rfl | ha
   . rcases ho.2 with ⟨hn,_⟩ | ⟨g',cap'',cur,hv,hb,hg,hr⟩
     . rw [hv'] at hn;simp at hn
     . rw [hv'] at hv
       simp only [Value.slice.injEq,Option.some.injEq,Addr.mk.injEq] at hv;obtain ⟨⟨rfl,-,-⟩,-,-⟩:=hv;exact ⟨_,_,_,hg,he⟩
   . obtain ⟨f,hf,ha⟩:=List.mem_flatten.1 ha
     obtain ⟨i,hi,rfl⟩:=List.mem_iff_getElem.1 hf;obtain ⟨cs,_,_,hr⟩:=hat i (xs[i]'(by rw [<-hl];exact hi)) _ (List.getElem?_eq_getElem _) (List.getElem?_eq_getElem hi);exact hR _ _ _ hr a ha
theorem OCl.ty' {w:World} {O:List Value->Ex->List Nat->Prop} {cs:List Value} {c:Cl} {fp:List Nat} (h:OCl w O cs c fp) (hO:∀ cs x f,O cs x f->∀ a ∈ f,IsT w a):∀ a ∈ fp,IsT w a:=by
 obtain ⟨pv,bv,f1,f2,rfl,rfl,h1,h2⟩:=h;intro a ha
 rcases List.mem_append.1 ha with ha | ha
 . exact h1.ty (.inl rfl) hO a ha
 . exact h2.ty (.inl rfl) hO a ha
theorem OEx.ty {w:World}:∀ {d:Nat} {cs:List Value} {e:Ex} {fp:List Nat},OEx w d cs e fp->∀ a ∈ fp,IsT w a
 | 0,_,_,_,h=>h.elim
 | d+1,cs,e,fp,h=>by
  obtain ⟨kv,cv,f1,f2,rfl,rfl,h1,h2,h3,h4,hr,hc⟩:=h;intro a ha
  rcases List.mem_append.1 ha with ha | ha
  . exact hr.ty (.inl rfl) (λcs x f h=>h.ty) a ha
  . exact hc.ty (.inr rfl) (λcs x f h=>h.ty' (λcs x f h=>h.ty)) a ha
theorem OCT.ty {w:World} {cs:List Value} {c:Cl} {fp:List Nat} (h:OCT w cs c fp):∀ a ∈ fp,IsT w a:=by
 obtain ⟨D,h⟩:=h;exact h.ty' (λcs x f h=>h.ty)
theorem IsT.ne {w:World} {a b:Nat} {cs:Array Value} {t:TypeId} (h:IsT w a) (hb:Blk w b cs t) (ht:t≠108/\t≠64):a≠b:=by
 intro e;subst e;obtain ⟨cs',t',fr,h1,h2⟩:=h;unfold Blk at hb;rw [hb] at h1;simp only [Option.some.injEq,Obj.cells.injEq] at h1
 rcases h2 with h2 | h2
 . exact ht.1 (h1.2.1.trans h2)
 . exact ht.2 (h1.2.1.trans h2)
theorem Zh.onlyT {b:Nat} {w w':World} {B C:Nat} {v:Value} {xs:List Cl} {cs:Array Value} {t:TypeId} (h:Zh 64 2 OCT w B C v xs) (hb:Blk w b cs t) (ht:t≠108/\t≠64) (ho:Zv b w w'):Zh 64 2 OCT w' B C v xs:=by
 obtain ⟨cells,fps,hrow,hl,hnd,hat,hfr,hvb,hBC,hC⟩:=h
 have hrw:∀ a,v.ownBlock=some a->w'.heap[a]?=w.heap[a]?:=λa ha=>ho.block a (by
  rcases hrow.2 with ⟨hn,_⟩ | ⟨g',cap'',cur,hv,hb',hg,hr⟩
  . rw [hn] at ha;simp [Value.ownBlock] at ha
  . rw [hv] at ha
    have e:g'=a:=(by simpa [Value.ownBlock] using ha);subst e
    exact IsT.ne ⟨_,_,_,hg,.inr rfl⟩ hb ht)
 exact ⟨cells,fps,Zbi hrow hrw,hl,hnd,λi x f hx hf=>by
  obtain ⟨cs',h1,h2,h3⟩:=hat i x f hx hf
  exact ⟨cs',h1,h2,OCT.keeps _ _ _ _ _ h3 (ho.keep (λhm=>IsT.ne (h3.ty _ hm) hb ht rfl))⟩,hfr,hvb,hBC,by rw [ho.size];exact hC⟩
theorem Zh.boxNe {b:Nat} {w:World} {B C:Nat} {v:Value} {xs:List Cl} {cs:Array Value} {t:TypeId} (h:Zh 64 2 OCT w B C v xs) (hb:Blk w b cs t) (ht:t≠108/\t≠64):v.ownBlock≠some b:=λha=>by
 obtain ⟨cells,fps,hrow,-⟩:=h
 rcases hrow.2 with ⟨hn,_⟩ | ⟨g',cap'',cur,hv,hb',hg,hr⟩
 . rw [hn] at ha;simp [Value.ownBlock] at ha
 . rw [hv] at ha
   have e:g'=b:=(by simpa [Value.ownBlock] using ha);subst e;exact IsT.ne ⟨_,_,_,hg,.inr rfl⟩ hb ht rfl
end Go.Proofs.YtacioihbhkcdcaaGreatDoor
