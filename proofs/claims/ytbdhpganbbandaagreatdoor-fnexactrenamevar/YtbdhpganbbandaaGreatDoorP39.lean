/-
  RangeBound Backward RangeIdx
-/
import Derived.Test.YtbdhpganbbandaaGreatDoorP03
import Derived.RangeFuncNested
import Derived.RangeFuncBound
import Derived.Shelf.RegionOpen
import Derived.LoopNIn
import Derived.LoopIn
import Derived.Maps.OwnIn
set_option maxHeartbeats 16000000
set_option linter.unusedVariables false
set_option maxRecDepth 100000
namespace Go.Proofs.YtbdhpganbbandaaGreatDoor
open Go.ChangeShapes Go.WideShapes Go.ChangeAt Go.RowKit
section
open Go.Maps Go.WideMaps Go.Shelf
theorem grown_of {A B:World} (h:Bz A B):A.grownBy B none:=⟨h.os,h.tape,h.output,h.size,fun k hk _=>h.block k hk⟩
theorem range_bound {α:Type} {F:Fence} {n:Nat} {P:Program} {g:Operand} {ps:Array Tmp} {assign body:Code} {Q:Exit→Act→World→Prop} {a:Act} {w:World}
 (hro:F.round=none) (h1:1≤n) {gf:Nat} {bs:Array Value} (hg:a.eval g=.func (.func gf) bs #[]) (hFg:F.fn gf) (eg:∀ args w,(callFunc gf args).run P w=.ok (.enter gf args) w)
 {encs:α→Array Value} (hps:∀ x,(encs x).size=ps.size) (xs:List α)
 (hseq:∀ (l:Nat) (J:Option Nat→List α→World→Prop) (W:World),Bz w W →
  (∀ q s A B,J q s A→Bz A B→J q s B) →
  (∀ s A B b,J none s A→Bz A B→A.heap.size≤b→b<B.heap.size→J (some b) s B) →
  (∀ q pre x W1,J q pre W1→pre.length<xs.length→YieldAt F (n - 1 - 1) P l (encs x) W1 fun e W'=>e=.returned (.bool true)∧J q (pre ++ [x]) W'∧∀ b,q=some b→b<W1.heap.size→W'.heap[b]?=W1.heap[b]?) →
  J none [] W→CallsIn F (n - 1) P gf (bs ++ #[.func (.yield l) #[] #[]]) W fun e W'=>(∃ v,e=.returned v)∧∃ q,J q xs W')
 (I:Option Nat→List α→World→Prop) (hI:∀ q,OwnFrom w.heap.size (I q)) (hIn:∀ s A B b,I none s A→Bz A B→A.heap.size≤b→b<B.heap.size→I (some b) s B) (h0:I none [] w) (a₁:α→Act)
 (hassign:∀ (l:Nat) (x:α) (W:World) (K:Act→World→Prop),K (a₁ x) W →
  assign.wpIn (F.inRound l) (n - 1 - 1) P (Exit.then K (fun _ _ _=>False)) { tmps:=(ps.zip (encs x)).foldl (fun t (p,v)=>t.setIfInBounds p v) a.tmps,defers:=[] } W)
 (hbody:∀ (l:Nat) (q:Option Nat) (pre:List α) (x:α) (W:World),I q pre W→pre.length<xs.length →
  body.wpIn (F.inRound l) (n - 1 - 1) P (fun e _ W'=>e=.normal∧KeepsOthers W W'∧I q (pre ++ [x]) W'∧∀ b,q=some b→b<W.heap.size→W'.heap[b]?=W.heap[b]?) (a₁ x) W)
 (hdone:∀ (D:Nat) (q:Option Nat) (W:World),w.heap.size≤D→I q xs W→W.heap[D]?=some (.deferred (some []))→Q .normal { a with defers:={ target:=.collected D,args:=#[] } :: a.defers } W) :
 (Code.rangeFunc g ps assign body).wpIn F n P Q a w:=by
 refine wpIn_rangeFunc fun fn hfn=>?_;rw [hro];obtain ⟨R,hR⟩:∃ R:LoopState→Loop,R=fun st=>{ state:=st,pending:=none,fn:=fn,tmps:=a.tmps,params:=ps,assign:=assign,body:=body,defers:=w.heap.size }:=⟨_,rfl⟩;obtain ⟨L,hL⟩:∃ L,L=w.heap.size+1:=⟨_,rfl⟩;obtain ⟨W1,hW1⟩:∃ W1,W1=(w.alloc (.deferred (some []))).alloc (.loop (R .ready)):=⟨_,rfl⟩;have b1:Bz w W1:=(by rw [hW1];exact ((Below.refl _ w).alloc (sqR _) _).alloc (by simp) _)
 have l1:W1.heap[L]?=some (.loop (R .ready)):=by
  have:=World.alloc_heap_new (w.alloc (.deferred (some []))) (.loop (R .ready));rw [World.size_alloc] at this;rw [hW1,hL];exact this
 have k1:W1.heap[w.heap.size]?=some (.deferred (some [])):=(by rw [hW1];exact (Below.heap_alloc _ _ _ (by simp)).trans (World.alloc_heap_new w _));have i1:I none [] W1:=(by rw [hW1];exact (hI none).alloc _ ((hI none).alloc _ h0));have hLw:w.heap.size≤L:=(by omega);have hLn:w.heap.size≠L:=(by omega);refine ⟨L,[{ target:=.collected w.heap.size,args:=#[] }],W1,{ target:=.fn (.func gf) #[],args:=bs ++ #[.func (.yield L) #[] #[]] },W1,gf,bs ++ #[.func (.yield L) #[] #[]],W1,?_,?_,?_,?_,fun _=>h1,?_⟩
 · rw [hW1,hR,hL];exact run_enterLoop_outer _ _ _ _ _
 · simp only [resolve,hg]
   simp [go_sem]
 · intro f' hf';simp [Target.leads] at hf';subst hf';exact hFg
 · simp [invoke,go_sem,eg]
 · refine (hseq L (fun q s W=>I q s W∧W.heap[L]?=some (.loop (R .ready))∧W.heap[w.heap.size]?=some (.deferred (some []))∧∀ b,q=some b→L<b) W1 b1 ?_ ?_ ?_ ⟨i1,l1,k1,fun b e=>by cases e⟩).mono ?_
   · rintro q s A B ⟨ha,hb,hc,hd⟩ hAB
     exact ⟨hI q s A B none ha (grown_of hAB) (fun r e=>by cases e),(hAB.block _ (Array.getElem?_eq_some_iff.1 hb).1).trans hb,(hAB.block _ (Array.getElem?_eq_some_iff.1 hc).1).trans hc,hd⟩
   · rintro s A B b ⟨ha,hb,hc,hd⟩ hAB hbs hbB
     exact ⟨hIn s A B b ha hAB hbs hbB,(hAB.block _ (Array.getElem?_eq_some_iff.1 hb).1).trans hb,(hAB.block _ (Array.getElem?_eq_some_iff.1 hc).1).trans hc,fun b' e=>by cases e;have:=(Array.getElem?_eq_some_iff.1 hb).1;omega⟩
   · rintro q pre x W ⟨hi,hl,hk,hq⟩ hlen
     have hlt:L<W.heap.size:=(Array.getElem?_eq_some_iff.1 hl).1;have hy:=run_yield (P:=P) (args:=encs x) hl (by rw [hR];exact hps x);rw [hR] at hy;refine ⟨fn,_,assign,body,hy,roundIn_of_wpIn hfn (hassign _ x W _ ⟨_,run_beginRound hl (by rw [hR]),?_⟩)⟩;refine wpIn_mono (hbody _ q pre x _ ((hI q).putObj _ hi hLw hl rfl) hlen) ?_;rintro e a3 W3 ⟨rfl,hk3,hi3,hq3⟩;have hl2:=hk3.same L _ (World.putObj_heap_same hlt) rfl;have hk2:=hk3.same w.heap.size _ ((World.putObj_heap_other hLn).trans hk) rfl;have hr:=run_endRound (P:=P) none hl2;refine ⟨_,_,hr,rfl,⟨(hI q).putObj _ hi3 hLw hl2 rfl,?_,(World.putObj_heap_other hLn).trans hk2,hq⟩,?_⟩
     · rw [World.putObj_heap_same (Array.getElem?_eq_some_iff.1 hl2).1,hR];rfl
     · intro b hb hbl
       have hbL:b≠L:=(by have:=hq b hb;omega);rw [World.putObj_heap_other hbL,hq3 b hb (by simpa using hbl),World.putObj_heap_other hbL]
   · rintro e W2 ⟨⟨v,rfl⟩,q,hi,hl,hk,-⟩
     have he:=run_endLoop (P:=P) hl (by rw [hR];simp);refine ⟨none,_,by rw [hR] at he;exact he,hdone _ q _ (sqR _) ((hI q).putObj _ hi hLw hl rfl) ((World.putObj_heap_other hLn).trans hk)⟩
end
section
open Go.Maps Go.WideMaps Go.Shelf
attribute [local go_sem] Oper.semAt_some
def KeepN (n₀ mb:Nat) (W W':World):Prop:=W.heap.size<=W'.heap.size/\∀ g,g<n₀->g≠mb->W'.heap[g]?=W.heap[g]?
theorem KeepN.cell {n₀ mb:Nat} {W W':World} (h:KeepN n₀ mb W W') {g j:Nat} (hg:g<n₀) (hm:g≠mb):W'.cell? ⟨g,j,none⟩=W.cell? ⟨g,j,none⟩:=sqK (h.2 g hg hm)
end
section
open Go.Maps Go.WideMaps Go.Shelf Go.Proofs.Tryz
attribute [local go_sem] Oper.semAt_some
theorem below_put {N:Nat} {W:World} {l:Nat} (o':Obj) (h:N<=l):Below N W (W.putObj l o'):=by
 have g:=grownBy_putObj' W l o';refine ⟨g.os,g.tape,g.output,g.size,λk hk=>World.putObj_heap_other (by omega)⟩
theorem range_idx {F:Fence} {n:Nat} {P:Program} {g:Operand} {ps:Array Tmp} {assign body:Code} {Q:Exit->Act->World->Prop} {a:Act} {w:World}
 (hro:F.round=none) (h1:1<=n) {gf:Nat} {lb:Array Value} (hg:a.eval g=.func (.func gf) #[] lb) (hFg:F.fn gf) (eg:∀ args w,(callFunc gf args).run P w=.ok (.enter gf args) w)
 {encs:Nat->Array Value} (hps:∀ k,(encs k).size=ps.size) (N mb:Nat) (hmb:mb<w.heap.size)
 (hseq:∀ (l:Nat) (J:Nat->World->Prop) (W:World),Bz w W ->
  (∀ k W1,J k W1->k<N->YieldAt F (n - 1 - 1) P l (encs k) W1 λe W'=>e=.returned (.bool true)/\J (k+1) W'/\KeepN w.heap.size mb W1 W') ->
  J 0 W->CallsIn F (n - 1) P gf (#[.func (.yield l) #[] #[]] ++ lb) W λe W'=>(∃ v,e=.returned v)/\J N W')
 (I:Nat->World->Prop) (hI:∀ k A B,I k A->w.heap.size<=A.heap.size->Below w.heap.size A B->I k B) (h0:I 0 w)
 (hround:∀ (l k:Nat) (W:World),I k W->w.heap.size<=W.heap.size->k<N->w.heap.size<=l ->
  assign.wpIn (F.inRound l) (n - 1 - 1) P (Exit.then (λa' W'=>Off [mb] W W'/\∀ r o',W'.heap[l]?=some (.loop r)->body.wpIn (F.inRound l) (n - 1 - 1) P (λe _ W3=>e=.normal/\I (k+1) W3/\Off [mb] (W'.putObj l o') W3) a' (W'.putObj l o')) (λ_ _ _=>False))
   { tmps:=(ps.zip (encs k)).foldl (λt (p,v)=>t.setIfInBounds p v) a.tmps,defers:=[] } W)
 (hdone:∀ (D:Nat) (W:World),w.heap.size<=D->I N W->W.heap[D]?=some (.deferred (some []))->Q .normal { a with defers:={ target:=.collected D,args:=#[] } :: a.defers } W) :
 (Code.rangeFunc g ps assign body).wpIn F n P Q a w:=by
 refine wpIn_rangeFunc λfn hfn=>?_;rw [hro];obtain ⟨R,hR⟩:∃ R:LoopState->Loop,R=λst=>{ state:=st,pending:=none,fn:=fn,tmps:=a.tmps,params:=ps,assign:=assign,body:=body,defers:=w.heap.size }:=⟨_,rfl⟩;obtain ⟨L,hL⟩:∃ L,L=w.heap.size+1:=⟨_,rfl⟩;obtain ⟨W1,hW1⟩:∃ W1,W1=(w.alloc (.deferred (some []))).alloc (.loop (R .ready)):=⟨_,rfl⟩;have b1:Bz w W1:=(by rw [hW1];exact ((Below.refl _ w).alloc (sqR _) _).alloc (by simp) _)
 have l1:W1.heap[L]?=some (.loop (R .ready)):=by
  have:=World.alloc_heap_new (w.alloc (.deferred (some []))) (.loop (R .ready));rw [World.size_alloc] at this;rw [hW1,hL];exact this
 have k1:W1.heap[w.heap.size]?=some (.deferred (some [])):=(by rw [hW1];exact (Below.heap_alloc _ _ _ (by simp)).trans (World.alloc_heap_new w _));have hLw:w.heap.size<=L:=(by omega);have hLn:w.heap.size≠L:=(by omega);refine ⟨L,[{ target:=.collected w.heap.size,args:=#[] }],W1,{ target:=.fn (.func gf) lb,args:=#[.func (.yield L) #[] #[]] },W1,gf,#[.func (.yield L) #[] #[]] ++ lb,W1,?_,?_,?_,?_,λ_=>h1,?_⟩
 . rw [hW1,hR,hL];exact run_enterLoop_outer _ _ _ _ _
 . simp only [resolve,hg]
   simp [go_sem]
 . intro f' hf';simp [Target.leads] at hf';subst hf';exact hFg
 . simp [invoke,go_sem,eg]
 . refine (hseq L (λk W=>I k W/\W.heap[L]?=some (.loop (R .ready))/\W.heap[w.heap.size]?=some (.deferred (some []))/\w.heap.size<=W.heap.size) W1 b1 ?_ ⟨hI 0 w W1 h0 (sqR _) b1,l1,k1,b1.size⟩).mono ?_
   . rintro k W ⟨hi,hl,hk,hs⟩ hlen
     have hlt:L<W.heap.size:=(Array.getElem?_eq_some_iff.1 hl).1;have hdlt:w.heap.size<W.heap.size:=(Array.getElem?_eq_some_iff.1 hk).1;have hy:=run_yield (P:=P) (args:=encs k) hl (by rw [hR];exact hps k);rw [hR] at hy;refine ⟨fn,_,assign,body,hy,roundIn_of_wpIn hfn (wpIn_mono (hround L k W hi hs hlen hLw) ?_)⟩;rintro e a' W' hp
     cases e with
     | normal =>
      obtain ⟨ho,hb⟩:=hp;have hmL:L ∉ [mb]:=(by simp;omega);have hmD:w.heap.size ∉ [mb]:=(by simp;omega);have hl':W'.heap[L]?=some (.loop (R .ready)):=(ho.block L hlt hmL).trans hl;have hk':W'.heap[w.heap.size]?=some (.deferred (some [])):=(ho.block _ hdlt hmD).trans hk;have hlt':L<W'.heap.size:=(Array.getElem?_eq_some_iff.1 hl').1;refine ⟨_,run_beginRound hl' (by rw [hR]),wpIn_mono (hb _ _ hl') ?_⟩;rintro e a3 W3 ⟨rfl,hi3,ho3⟩;have hlp:=World.putObj_heap_same (o:=.loop { R .ready with state:=.busy }) hlt';have hl2:=(ho3.block L (by simpa using hlt') hmL).trans hlp;have hk2:=(ho3.block w.heap.size (by have:=ho.size;simp;omega) hmD).trans ((World.putObj_heap_other hLn).trans hk');have hr:=run_endRound (P:=P) none hl2;have hsz3:W.heap.size<=W3.heap.size:=Nat.le_trans ho.size (by have:=ho3.size;simpa using this);refine ⟨_,_,hr,rfl,⟨hI _ W3 _ hi3 (Nat.le_trans hs hsz3) (below_put _ hLw),?_,(World.putObj_heap_other hLn).trans hk2,by simp;omega⟩,?_⟩
      . rw [World.putObj_heap_same (Array.getElem?_eq_some_iff.1 hl2).1,hR];rfl
      . refine ⟨by simp;omega,λb hb hm=>?_⟩
        have hbL:b≠L:=(by omega);have hbm:b ∉ [mb]:=(by simpa using hm);rw [World.putObj_heap_other hbL,ho3.block b (by have:=ho.size;simp;omega) hbm,World.putObj_heap_other hbL];exact ho.block b (by omega) hbm
     | _=>exact hp.elim
   . rintro e W2 ⟨⟨v,rfl⟩,hi,hl,hk,hs⟩
     have he:=run_endLoop (P:=P) hl (by rw [hR];simp);refine ⟨none,_,by rw [hR] at he;exact he,hdone _ _ (sqR _) (hI _ W2 _ hi hs (below_put _ hLw)) ((World.putObj_heap_other hLn).trans hk)⟩
theorem back_idx (m:Nat) (l Bn n₀ mb n cap:Nat) (p:Option Addr) (L:List (List Value)) (hn:L.length=n) (hnb:n<=9223372036854775807) (hB:Bn<n₀) (hBm:Bn≠mb) (J:Nat->World->Prop)
 (hY:∀ k W,J k W->k<n->YieldAt Fence.wide m prog l #[.int .i64 ((n - 1 - k:Nat):Nat),.agg (L.getD (n - 1 - k) []).toArray] W λe W'=>e=.returned (.bool true)/\J (k+1) W'/\KeepN n₀ mb W W')
 (W:World) (hc:W.cell? ⟨Bn,0,none⟩=some (.slice p n cap))
 (hL:∀ i cs,L[i]?=some cs->cs.length=6/\∃ g off,p=some ⟨g,off,none⟩/\g<n₀/\g≠mb/\∀ j,j<6->W.cell? ⟨g,off+i * 6+j,none⟩=cs[j]?) (h0:J 0 W) :
 CallsIn Fence.wide (m+1) prog 205 #[.func (.yield l) #[] #[],.pointer (some ⟨Bn,0,none⟩)] W λe W'=>(∃ v,e=.returned v)/\J n W':=by
 have HL:=hid hL;have HN:=hid hn;have HY:=hid hY;clear hL hn hY;refine callsIn_of_wp func205 rfl trivial ?_ rfl;simp only [ntmps205,List.size_toArray,List.length_cons,List.length_nil,Nat.reduceAdd,Nat.reduceSub,Array.replicate_succ,Array.replicate_zero,List.push_toArray,List.append_toArray,List.nil_append,List.cons_append]
 gi_wp2
 gi_loopw [3] (λiv wr=>∃ k:Nat,k<=n/\iv=.int .i64 ((n:Int) - 1 - k)/\Hid (J k wr)/\Hid (KeepN n₀ mb W wr)) (λiv _=>(intOf iv+1).toNat)
 case atStart=>exact ⟨0,Nat.zero_le _,by go_num,h0,Nat.le_refl _,λ_ _ _=>rfl⟩
 case round =>
  obtain ⟨k,hk,rfl,HJ,HK⟩:=hrel;have xb:=(HK.out.cell (j:=0) hB hBm).trans hc;by_cases hlt:k<n
  . obtain ⟨i,hi⟩:∃ i,i=n - 1 - k:=⟨_,rfl⟩
    have hin:i<n:=(by omega);have hii:(n:Int) - 1 - k=(i:Int):=(by omega);obtain ⟨cs,hcs⟩:=sqA (l:=L) (k:=i) HN.out hin;obtain ⟨hl6,g,off,rfl,hg,hgm,hat⟩:=HL.out i cs hcs;obtain ⟨c0,c1,c2,c3,c4,c5,rfl⟩:=len6 hl6;have a0:=(HK.out.cell hg hgm).trans (hat 0 (by omega));have a1:=(HK.out.cell hg hgm).trans (hat 1 (by omega));have a2:=(HK.out.cell hg hgm).trans (hat 2 (by omega));have a3:=(HK.out.cell hg hgm).trans (hat 3 (by omega));have a4:=(HK.out.cell hg hgm).trans (hat 4 (by omega));have a5:=(HK.out.cell hg hgm).trans (hat 5 (by omega));simp at a0 a1 a2 a3 a4 a5;have hgd:L.getD i [] = [c0,c1,c2,c3,c4,c5]:=(by rw [List.getD_eq_getElem?_getD,hcs];rfl);have hyy:=HY.out k wr HJ.out hlt;rw [<-hi,hgd] at hyy;obtain ⟨fn,tmps,assign,body,hy,hR⟩:=hyy;have hi0:=sqI i;have hi1:(i:Int)<(n:Int):=(by omega);have HII:=hid hii;rw [hii];clear hat hl6 hi hii hgd
    gi_wp2
    refine hR.mono ?_;rintro e W3 ⟨rfl,hJ3,hk3⟩
    gi_wp2
    go_roundw
    case rel=>exact ⟨k+1,by omega,by have:=HII.out;go_num,hJ3,Nat.le_trans HK.out.1 hk3.1,λg hg hm=>(hk3.2 g hg hm).trans (HK.out.2 g hg hm)⟩
    case measure=>simp [intOf]
  . have HS:J n wr:=by
     have:=HJ.out
     rwa [show k=n by omega] at this
    have hneg:((n:Int) - 1 - k) = -1:=(by omega);rw [hneg]
    gi_wp2
    go_end0;exact ⟨⟨_,rfl⟩,HS⟩
theorem back_any (p:Option Addr) (n cap:Nat) (w:World):Calls prog 198 #[.slice p n cap] w λe w'=>e=.returned (.func (.func 205) #[] #[.pointer (some ⟨w.heap.size,0,none⟩)])/\w'=w.alloc (.cells #[.slice p n cap] 42):=by
 go_enter func198,ntmps198;go_wp2;go_ret;exact ⟨rfl,rfl⟩
end
end Go.Proofs.YtbdhpganbbandaaGreatDoor
